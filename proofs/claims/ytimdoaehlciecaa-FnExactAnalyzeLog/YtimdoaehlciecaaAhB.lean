/-
  l08Analyze, parts: the first loops, and the transactions that are told.
-/
import Derived.Test.YtimdoaehlciecaaAhA
import Derived.Deep.RegionHeld3
import Derived.Deep.QuietTactic
import Derived.BigQuiet
import Derived.Deep.RegionLaw
import Derived.Deep.RegionWith
import Derived.Deep.AppendLies
import Derived.Deep.RegionLawGrows
import Derived.Deep.CutBlock
import Derived.Deep.CutRange
namespace Go.Proofs.Ytimdoaehlciecaa
open Go Go.RowKit
attribute [local go_sem ↓] Go.wp_at_zero Go.wp_at_succ

set_option linter.unusedVariables false
set_option linter.unusedSimpArgs false
set_option maxRecDepth 100000 in
set_option maxHeartbeats 60000000 in
theorem c_specAn_p0 : c_specAn_1.1 := by
  unfold c_specAn_1
  dsimp only
  intro n cap L w hn HOK HS hl i0 j0 hi0 hz0 hz1 hz2 hj0 jz0 jz1 jz2 V1 V2 zz2 zz3 zz4 u8 u9 u10 zz5 u12 u19 u20 u21 u22 u23 u24 u25 u26 u27 u28 u29 u30 u31 u32 u33 u34 u35 u36 u37 u38 u39 u40 u41 u42 u43 u44 zz6 zz7 zz8 zz9 zz10 zz11 zz12 zz13 zz14 zz15 zz16 zz17 zz18 zz19 zz20 zz21 zz22 zz23 zz24 zz25 u65 u66 u67 u68 u69 u70 u71 u72 u73 u74 u75 u76 u77 u78 u79 u80 u81 u82 u83 u84 k q ad at' cd ct hk hq BW hlt b off hbl hbw RL ve vl vt vk vp vn vg vz vb va HV g1 g2 c1 ps ts AT lps lts zz27 zz28 w1 Lb a0 c0 a1 c1' HRC V3 hV3 V4 hV4 OD4 OT4 Q1 Q2 B4 zz29 zz30 wr u4 u11 u45 u46 u47 u48 u49 u50 u51 u52 u53 u54 u55 u56 u57 u58 u59 u60 u61 u62 u63 u64 hrel
  obtain ⟨j, ad, cd, hj, rfl, rfl, HO, HP1, HP2, HK, HB, HI⟩ := hrel
  rename World => wi
  by_cases hlt : j < ps.length
  · obtain ⟨b0, hb0⟩ : ∃ b0, a0 = some ⟨b0, 0, none⟩ := by
      rcases own_form HP1.out with ⟨_, h⟩ | ⟨b0, cap, hv, _⟩
      · omega
      · simp only [Value.slice.injEq] at hv; exact ⟨b0, hv.1⟩
    have PB := HP1.out
    rw [hb0] at PB
    obtain ⟨d0, d1⟩ := own_get PB hlt
    obtain ⟨x, hx⟩ : ∃ x, x = (ps[j]'hlt).1 := ⟨_, rfl⟩
    obtain ⟨y, hy⟩ : ∃ y, y = (ps[j]'hlt).2 := ⟨_, rfl⟩
    have ST : ps.take (j + 1) = ps.take j ++ [(x, y)] := by rw [List.take_add_one, List.getElem?_eq_getElem hlt, hx, hy]; rfl
    rw [← hx] at d0
    rw [← hy] at d1
    have HST : Hid (ps.take (j + 1) = ps.take j ++ [(x, y)]) := ST
    have tl : (ps.take j).length = j := by rw [List.length_take]; omega
    have g1 : (0 : Int) ≤ (j : Int) := by omega
    have g2 : (j : Int) < (ps.length : Int) := by omega
    clear hx hy ST PB
    obtain ⟨w4, hw4⟩ : ∃ Q, wi.alloc (.cells #[.int .i64 x, .int .i64 y] 54) = Q := ⟨_, rfl⟩
    have hb4 : Below wi.heap.size wi w4 := by rw [← hw4]; exact (Below.refl _ _).alloc (Nat.le_refl _) _
    have K4 : Hid (Box w4 wi.heap.size 54 #[.int .i64 x, .int .i64 y]) := by unfold Hid; rw [← hw4]; exact Box.new _ _ _
    have O4 : Hid (w4.ownsRow w.heap.size 54 2 (.slice ad (ps.take j).length cd) (ps.take j).length (cellsD (toD (ps.take j)))) := own_below HO.out hb4
    have Q1 : Hid (w4.ownsRow w.heap.size 66 2 (.slice a0 ps.length c0) ps.length (cells2 ps)) := own_below HP1.out hb4
    have Q2 : Hid (w4.ownsRow w.heap.size 66 2 (.slice a1 ts.length c1') ts.length (cells2 ts)) := own_below HP2.out hb4
    have KK : Hid (w4.ownsRow w.heap.size 57 2 (.slice (some ⟨V3.heap.size, 0, none⟩) 0 0) 0 []) := own_below HK.out hb4
    have B4 : Hid (Below w.heap.size w w4) := HB.out.trans (hb4.mono HB.out.size)
    have l4 : wi.heap.size < w4.heap.size := K4.out.lt
    clear hb4 HO HP1 HP2 HK HB
    have la0 : Hid (a0 = some ⟨b0, 0, none⟩) := hb0
    obtain ⟨lj, hlj⟩ : ∃ q, q = (ps.take j).length := ⟨_, rfl⟩
    have lj60 : lj ≤ 255 := by omega
    rw [← hlj] at O4 ⊢
    have LJ : Hid (lj = (ps.take j).length) := hlj
    clear tl hlj
    rw [hb0]
    go_wp2_with fail
    go_region_law (first
      | (refine step_app_any _ (by rfl) (.tmp 51) (.tmp 63) 30 (by rfl) w.heap.size 54 i0 (.agg #[.int .i64 0, .int .i64 0]) 2 16 Try.underlying30 hi0.out hz0.out hz1.out hz2.out rfl (by omega) (.slice ad lj cd) lj (cellsD (toD (ps.take j))) (by rfl) (by exact O4.out) (some ⟨wi.heap.size, 0, none⟩) 1 1 (cD ⟨x, y⟩) (by rfl) (fun h => by cases h) rfl (by exact box_newsD K4.out) (cD_one _) (by unfold maxLen; omega) (by omega) (by exact B4.out.size) ?_
         intro a5 c5 w5 ox hgx hax
         rw [ob_slice] at hgx hax
         have G5 : Hid (w4.grownBy w5 (ob ad)) := (by exact ⟨hgx.os, hgx.tape, hgx.output, hgx.size, hgx.block⟩)
         have O5 : Hid (w5.ownsRow w.heap.size 54 2 (.slice a5 (lj + 1) c5) (lj + 1) (cellsD (toD (ps.take j)) ++ cD ⟨x, y⟩)) := ox
         clear ox hgx hax))
    all_goals (
      have B5 : Hid (Below w.heap.size w w5) := B4.out.grown G5.out B4.out.size (fun g hg => (O4.out.lt g (by rw [ob_slice]; exact hg)).1)
      have R1 : Hid (w5.ownsRow w.heap.size 66 2 (.slice a0 ps.length c0) ps.length (cells2 ps)) := own_keep Q1.out G5.out (own_ne2 Q1.out O4.out (by decide))
      have R2 : Hid (w5.ownsRow w.heap.size 66 2 (.slice a1 ts.length c1') ts.length (cells2 ts)) := own_keep Q2.out G5.out (own_ne2 Q2.out O4.out (by decide))
      have K5 : Hid (w5.ownsRow w.heap.size 57 2 (.slice (some ⟨V3.heap.size, 0, none⟩) 0 0) 0 []) := own_keep KK.out G5.out (own_ne2 KK.out O4.out (by decide))
      have LN : Hid ((ps.take (j + 1)).length = lj + 1) := by unfold Hid; rw [HST.out, List.length_append, ← LJ.out]; rfl
      have O6 : Hid (w5.ownsRow w.heap.size 54 2 (.slice a5 (ps.take (j + 1)).length c5) (ps.take (j + 1)).length (cellsD (toD (ps.take (j + 1))))) := by
        unfold Hid
        rw [LN.out, HST.out]
        have e : cellsD (toD (ps.take j ++ [(x, y)])) = cellsD (toD (ps.take j)) ++ cD ⟨x, y⟩ := by unfold toD; rw [List.map_append, cellsD_append]; rfl
        rw [e]
        exact O5.out
      have A9 : Hid (a5.isSome = true) := by
        rcases own_form O5.out with ⟨_, h0⟩ | ⟨gg, cc, h1, _⟩
        · omega
        · simp only [Value.slice.injEq] at h1; rw [h1.1]; rfl
      clear O5 G5 O4 Q1 Q2 KK B4 K4 hw4)
    all_goals (go_wp2; go_roundw)
    all_goals (first
      | exact ⟨⟨j + 1, a5, c5, by omega, by go_num, by rw [LN.out], O6, (by rw [← la0.out]; exact R1), R2, K5, B5, A9⟩, by simp [intOf]; omega⟩
      | exact ⟨j + 1, a5, c5, by omega, by go_num, by rw [LN.out], O6, (by rw [← la0.out]; exact R1), R2, K5, B5, A9⟩
      | (simp [intOf]; omega))
  · have e : j = ps.length := by omega
    rw [e, List.take_length] at HO ⊢
    have hge : ¬ ((ps.length : Nat) : Int) < (ps.length : Int) := by omega
    clear e hlt hj
    have HI1 := HI
    go_wp2
    rename World => wm
    go_loopw [5, 12] (fun d i wi => ∃ (j : Nat) (AT' : Option Addr) (CT : Nat), j ≤ ts.length ∧ i = .int .i64 (j : Int) ∧ d = .slice AT' (ts.take j).length CT ∧ Hid (wi.ownsRow w.heap.size 57 2 (.slice AT' (ts.take j).length CT) (ts.take j).length (cellsT (toT (ts.take j)))) ∧ Hid (wi.ownsRow w.heap.size 66 2 (.slice a0 ps.length c0) ps.length (cells2 ps)) ∧ Hid (wi.ownsRow w.heap.size 66 2 (.slice a1 ts.length c1') ts.length (cells2 ts)) ∧ Hid (wi.ownsRow w.heap.size 54 2 (.slice ad (ps).length cd) (ps).length (cellsD (toD (ps)))) ∧ Hid (Below w.heap.size w wi) ∧ Hid (AT'.isSome = true)) (fun _ i _ => ts.length - (intOf i).toNat)
    case atStart => exact ⟨0, _, _, by omega, rfl, rfl, HK, HP1, HP2, HO, HB, rfl⟩
    case round => focus
      obtain ⟨j, at', ct, hj, rfl, rfl, HO, HP1, HP2, HK, HB, HI⟩ := hrel
      rename World => wi
      by_cases hlt : j < ts.length
      · obtain ⟨b0, hb0⟩ : ∃ b0, a1 = some ⟨b0, 0, none⟩ := by
          rcases own_form HP2.out with ⟨_, h⟩ | ⟨b0, cap, hv, _⟩
          · omega
          · simp only [Value.slice.injEq] at hv; exact ⟨b0, hv.1⟩
        have PB := HP2.out
        rw [hb0] at PB
        obtain ⟨d0, d1⟩ := own_get PB hlt
        obtain ⟨x, hx⟩ : ∃ x, x = (ts[j]'hlt).1 := ⟨_, rfl⟩
        obtain ⟨y, hy⟩ : ∃ y, y = (ts[j]'hlt).2 := ⟨_, rfl⟩
        have ST : ts.take (j + 1) = ts.take j ++ [(x, y)] := by rw [List.take_add_one, List.getElem?_eq_getElem hlt, hx, hy]; rfl
        rw [← hx] at d0
        rw [← hy] at d1
        have HST : Hid (ts.take (j + 1) = ts.take j ++ [(x, y)]) := ST
        have tl : (ts.take j).length = j := by rw [List.length_take]; omega
        have g1 : (0 : Int) ≤ (j : Int) := by omega
        have g2 : (j : Int) < (ts.length : Int) := by omega
        clear hx hy ST PB
        obtain ⟨w4, hw4⟩ : ∃ Q, wi.alloc (.cells #[.int .i64 x, .int .i64 y] 57) = Q := ⟨_, rfl⟩
        have hb4 : Below wi.heap.size wi w4 := by rw [← hw4]; exact (Below.refl _ _).alloc (Nat.le_refl _) _
        have K4 : Hid (Box w4 wi.heap.size 57 #[.int .i64 x, .int .i64 y]) := by unfold Hid; rw [← hw4]; exact Box.new _ _ _
        have O4 : Hid (w4.ownsRow w.heap.size 57 2 (.slice at' (ts.take j).length ct) (ts.take j).length (cellsT (toT (ts.take j)))) := own_below HO.out hb4
        have Q1 : Hid (w4.ownsRow w.heap.size 66 2 (.slice a0 ps.length c0) ps.length (cells2 ps)) := own_below HP1.out hb4
        have Q2 : Hid (w4.ownsRow w.heap.size 66 2 (.slice a1 ts.length c1') ts.length (cells2 ts)) := own_below HP2.out hb4
        have KK : Hid (w4.ownsRow w.heap.size 54 2 (.slice ad (ps).length cd) (ps).length (cellsD (toD (ps)))) := own_below HK.out hb4
        have B4 : Hid (Below w.heap.size w w4) := HB.out.trans (hb4.mono HB.out.size)
        have l4 : wi.heap.size < w4.heap.size := K4.out.lt
        clear hb4 HO HP1 HP2 HK HB
        have la0 : Hid (a1 = some ⟨b0, 0, none⟩) := hb0
        obtain ⟨lj, hlj⟩ : ∃ q, q = (ts.take j).length := ⟨_, rfl⟩
        have lj60 : lj ≤ 255 := by omega
        rw [← hlj] at O4 ⊢
        have LJ : Hid (lj = (ts.take j).length) := hlj
        clear tl hlj
        rw [hb0]
        go_wp2_with fail
        go_region_law (first
          | (refine step_app_any _ (by rfl) (.tmp 71) (.tmp 83) 31 (by rfl) w.heap.size 57 j0 (.agg #[.int .i64 0, .int .i64 0]) 2 16 Try.underlying31 hj0.out jz0.out jz1.out jz2.out rfl (by omega) (.slice at' lj ct) lj (cellsT (toT (ts.take j))) (by rfl) (by exact O4.out) (some ⟨wi.heap.size, 0, none⟩) 1 1 (cT ⟨x, y⟩) (by rfl) (fun h => by cases h) rfl (by exact box_newsT K4.out) (cT_one _) (by unfold maxLen; omega) (by omega) (by exact B4.out.size) ?_
             intro a5 c5 w5 ox hgx hax
             rw [ob_slice] at hgx hax
             have G5 : Hid (w4.grownBy w5 (ob at')) := (by exact ⟨hgx.os, hgx.tape, hgx.output, hgx.size, hgx.block⟩)
             have O5 : Hid (w5.ownsRow w.heap.size 57 2 (.slice a5 (lj + 1) c5) (lj + 1) (cellsT (toT (ts.take j)) ++ cT ⟨x, y⟩)) := ox
             clear ox hgx hax))
        all_goals (
          have B5 : Hid (Below w.heap.size w w5) := B4.out.grown G5.out B4.out.size (fun g hg => (O4.out.lt g (by rw [ob_slice]; exact hg)).1)
          have R1 : Hid (w5.ownsRow w.heap.size 66 2 (.slice a0 ps.length c0) ps.length (cells2 ps)) := own_keep Q1.out G5.out (own_ne2 Q1.out O4.out (by decide))
          have R2 : Hid (w5.ownsRow w.heap.size 66 2 (.slice a1 ts.length c1') ts.length (cells2 ts)) := own_keep Q2.out G5.out (own_ne2 Q2.out O4.out (by decide))
          have K5 : Hid (w5.ownsRow w.heap.size 54 2 (.slice ad (ps).length cd) (ps).length (cellsD (toD (ps)))) := own_keep KK.out G5.out (own_ne2 KK.out O4.out (by decide))
          have LN : Hid ((ts.take (j + 1)).length = lj + 1) := by unfold Hid; rw [HST.out, List.length_append, ← LJ.out]; rfl
          have O6 : Hid (w5.ownsRow w.heap.size 57 2 (.slice a5 (ts.take (j + 1)).length c5) (ts.take (j + 1)).length (cellsT (toT (ts.take (j + 1))))) := by
            unfold Hid
            rw [LN.out, HST.out]
            have e : cellsT (toT (ts.take j ++ [(x, y)])) = cellsT (toT (ts.take j)) ++ cT ⟨x, y⟩ := by unfold toT; rw [List.map_append, cellsT_append]; rfl
            rw [e]
            exact O5.out
          have A9 : Hid (a5.isSome = true) := by
            rcases own_form O5.out with ⟨_, h0⟩ | ⟨gg, cc, h1, _⟩
            · omega
            · simp only [Value.slice.injEq] at h1; rw [h1.1]; rfl
          clear O5 G5 O4 Q1 Q2 KK B4 K4 hw4)
        all_goals (go_wp2; go_roundw)
        all_goals (first
          | exact ⟨⟨j + 1, a5, c5, by omega, by go_num, by rw [LN.out], O6, R1, (by rw [← la0.out]; exact R2), K5, B5, A9⟩, by simp [intOf]; omega⟩
          | exact ⟨j + 1, a5, c5, by omega, by go_num, by rw [LN.out], O6, R1, (by rw [← la0.out]; exact R2), K5, B5, A9⟩
          | (simp [intOf]; omega))
      · have e : j = ts.length := by omega
        rw [e, List.take_length] at HO ⊢
        have hge : ¬ ((ts.length : Nat) : Int) < (ts.length : Int) := by omega
        have DD : Hid (wi.ownsRow w.heap.size 54 2 (.slice ad (drS (anR (L.take (k + 1)))).length cd) (drS (anR (L.take (k + 1)))).length (cellsD (toD (drS (anR (L.take (k + 1))))))) := by unfold Hid; rw [AT.out.1]; exact HK.out
        have TT : Hid (wi.ownsRow w.heap.size 57 2 (.slice at' (txS (anR (L.take (k + 1)))).length ct) (txS (anR (L.take (k + 1)))).length (cellsT (toT (txS (anR (L.take (k + 1))))))) := by unfold Hid; rw [AT.out.2]; exact HO.out
        clear e hlt hj HO HK HP1 HP2 HRC
        go_wp2
        go_roundw
        case rel => exact ⟨k + 1, k + 1, ad, at', cd, ct, by omega, by omega, by go_num, by go_num, by rw [AT.out.1], by rw [AT.out.2], fun j h1 h2 => absurd h2 (by omega), DD, TT, ⟨HI1.out, HI.out⟩, HB⟩
        case measure => simp [intOf]; omega
set_option maxRecDepth 100000 in
set_option maxHeartbeats 60000000 in
theorem c_specAn_p1_p0 : c_specAn_p1_1.1 := by
  unfold c_specAn_p1_1
  dsimp only
  intro cap L w HOK HS i0 j0 hi0 hz0 hz1 hz2 hj0 jz0 jz1 jz2 V1 V2 zz2 zz3 u8 u9 u10 u11 u12 u19 u20 u21 u22 u23 u24 u25 u26 u27 u28 u29 u30 u31 u32 u33 u34 u35 u36 u37 u38 u39 u40 u41 u42 u43 u44 u45 u46 u47 u48 u49 u50 u51 u52 u53 u54 u55 u56 u57 u58 u59 u60 u61 u62 u63 u64 u65 u66 u67 u68 u69 u70 u71 u72 u73 u74 u75 u76 u77 u78 u79 u80 u81 u82 u83 u84 k q ad at' yy1 ct hq HN hn hl zz5 zz7 zz8 wo u14 u15 u16 u86 u87 u88 u89 u90 u91 u92 u93 u94 u95 yy2 yy3 yy4 yy5 yy6 yy7 yy8 yy9 yy10 yy11 yy12 yy13 yy14 yy15 yy16 yy17 yy18 yy19 yy20 yy21 yy22 yy23 yy24 yy25 yy26 yy27 yy28 yy29 yy30 yy31 u126 u127 u128 u129 u130 u131 u132 u133 u134 u135 u136 u137 u138 u139 u140 u141 u142 yy32 yy33 yy34 yy35 yy36 yy37 yy38 yy39 u151 u152 u153 u154 u155 u156 u157 u158 u159 u160 u161 u162 u163 u164 u165 u166 u167 u168 u169 u170 u171 u172 u173 u174 u175 u176 u177 u178 u179 u180 u181 u182 u183 u184 u185 u186 u187 u188 u189 u190 u191 u192 u193 u194 u195 u196 u197 u198 u199 u200 u201 u202 u203 u204 u205 u206 u207 u208 u209 u210 u211 u212 u213 u214 u215 u216 u217 u218 u219 u220 u221 u222 u223 p cd hqp hpk hlt b off hbl RL zz6 ve vl vk vp vn vz vb va hl1 m pg hm60 hp8 G XT lXT XD lXD TA TB DA DB sv gv TX' T2 DX' AT2 bt HBL bd hcd g1 g2 W LW yy40 wi u96 u97 u98 u99 u100 u101 u102 u103 u104 u105 u106 u107 u108 u109 u110 u111 wj u112 u113 u114 u115 u116 u117 u118 u119 u120 u121 u122 u123 u124 u125 NJ ODj BXj low yy41 yy42 yy43 yy44 y0 y1 y2 y3 y4 y5 y6 y7 y8 y9 yy45 u143 u144 u145 u146 u147 u148 u149 u150 hwj g5 hek T2' HTH yy46 hs HX LX1 LX2 hw1 g10 HBT g6 g7 g9 hTB hct yy48 OTj yy49 yy50 g8
  obtain ⟨VA, hVA⟩ : ∃ W, wj.alloc (.cells #[] 57) = W := ⟨_, rfl⟩
  have bVA : Below wj.heap.size wj VA := by rw [← hVA]; exact (Below.refl _ _).alloc (Nat.le_refl _) _
  have EA : Hid (Box VA wj.heap.size 57 #[]) := by unfold Hid; rw [← hVA]; exact Box.new _ _ _
  have lA : wj.heap.size < VA.heap.size := EA.out.lt
  have BA : Hid (Below wj.heap.size wj VA) := bVA
  clear bVA
  have SR1 : Hid (∀ W, Below wj.heap.size wj W → ∀ j u, (cellsT (toT TA))[j]? = some u → W.cell? ((⟨bt, 0, none⟩ : Addr).add j) = some u) := fun W hW => own_srk (own_below OTj.out hW) (us := []) (vs := (cellsT (toT TA))) (ws := (cellsT (toT [((m : Int), sv)]) ++ (cellsT (toT TB)))) (by rw [HX.out, toT_cut]; rfl) (by rw [cellsT_pr]; omega)
  have TL : Hid ((cellsT (toT TA)).length = TA.length * 2) := cellsT_pr _
  have DL : Hid ((cellsT (toT TB)).length = TB.length * 2) := cellsT_pr _
  have OA : Hid (∀ u ∈ (cellsT (toT TA)), u.oneCell' = true) := cellsT_one _
  have OB : Hid (∀ u ∈ (cellsT (toT TB)), u.oneCell' = true) := cellsT_one _
  go_wp2_with fail
  go_region_law (first
    | (refine step_app_any _ (by rfl) (.tmp 152) (.tmp 155) 31 (by rfl) wj.heap.size 57 j0 (.agg #[.int .i64 0, .int .i64 0]) 2 16 Try.underlying31 hj0.out jz0.out jz1.out jz2.out rfl (by omega) (.slice (some ⟨wj.heap.size, 0, none⟩) 0 0) 0 [] (by rfl) (by exact emp_own EA.out (by omega)) (some ⟨bt, 0, none⟩) TA.length (TA.length + 1) (cellsT (toT TA)) (by rfl) (fun ex => by cases ex) TL.out (fun ad ex => by cases ex; exact SR1.out _ (Below.drew BA.out)) OA.out (by unfold maxLen; omega) (by omega) (by exact BA.out.size) ?_
       intro a6 c6 w6 ox hgx hax
       rw [Nat.zero_add, List.nil_append] at ox
       rw [ob_slice] at hgx hax
       have B6 : Hid (Below wj.heap.size wj w6) := (Below.drew BA.out).grown hgx BA.out.size (fun j hj => by have e' : wj.heap.size = j := Option.some.inj hj; omega)
       have O6 : Hid (w6.ownsRow wj.heap.size 57 2 (.slice a6 TA.length c6) TA.length (cellsT (toT TA))) := ox
       clear ox hgx hax)
    | (refine step_app_any _ (by rfl) (.tmp 156) (.tmp 160) 31 (by rfl) wj.heap.size 57 j0 (.agg #[.int .i64 0, .int .i64 0]) 2 16 Try.underlying31 hj0.out jz0.out jz1.out jz2.out rfl (by omega) (.slice a6 TA.length c6) TA.length (cellsT (toT TA)) (by rfl) (by exact O6.out) (some ⟨bt, 0, none⟩) 0 _ [] (by rfl) (fun ex => by cases ex) rfl (fun ad ex j u hj => by cases hj) (fun u hu => by cases hu) (by unfold maxLen; omega) (by omega) (by exact B6.out.size) ?_
       intro a8 c8 w8 ox hgx hax
       rw [ob_slice] at hgx hax
       have B8 : Hid (Below wj.heap.size wj w8) := B6.out.grown hgx B6.out.size (fun j hj => by obtain ⟨aa, cc, ee, hh⟩ := own_slc O6.out; simp only [Value.slice.injEq] at ee; rw [ee.1] at hj; exact (hh j hj).1)
       have O8 : Hid (w8.ownsRow wj.heap.size 57 2 (.slice a8 (TA.length + 0) c8) (TA.length + 0) ((cellsT (toT TA)) ++ [])) := ox
       clear ox hgx hax)
    )
  all_goals
    have LL : TA.length + 0 = TX'.length := by have := congrArg List.length T2'; rw [List.length_append] at this; omega
    have OT8 : Hid (w8.ownsRow w.heap.size 57 2 (.slice a8 TX'.length c8) TX'.length (cellsT (toT TX'))) := by
      unfold Hid
      rw [← LL]
      have e : cellsT (toT TX') = (cellsT (toT TA)) ++ [] := by rw [T2', hTB, List.append_nil, List.append_nil]
      rw [e]
      exact World.ownsRow.down O8.out BXj.out.size
    have OD8 : Hid (w8.ownsRow w.heap.size 54 2 (.slice (some ⟨bd, 0, none⟩) XD.length cd) XD.length (cellsD (toD XD))) := own_below ODj.out B8.out
    have N8 : Hid (Box w8 wo.heap.size 43 #[.int .i64 ve, .int .i64 vl, .int .i64 (m : Int), .int .i64 vk, .int .i64 vp, .int .i64 vn, .int .i64 (pg : Int), .int .i64 vz, .string vb, .string va]) := NJ.out.belowS B8.out
    have BX8 : Hid (Below w.heap.size w w8) := BXj.out.trans (B8.out.mono BXj.out.size)
    clear O8 B8
    go_wp2
    go_meet
    case rel => exact ⟨a8, c8, congrArg (fun x => Value.slice a8 x c8) LL, OT8, OD8, N8, BX8⟩
set_option maxRecDepth 100000 in
set_option maxHeartbeats 60000000 in
theorem c_specAn_p1_p1 : c_specAn_p1_1.2.1 := by
  unfold c_specAn_p1_1
  dsimp only
  intro cap L w HOK HS i0 j0 hi0 hz0 hz1 hz2 hj0 jz0 jz1 jz2 V1 V2 zz2 zz3 u8 u9 u10 u11 u12 u19 u20 u21 u22 u23 u24 u25 u26 u27 u28 u29 u30 u31 u32 u33 u34 u35 u36 u37 u38 u39 u40 u41 u42 u43 u44 u45 u46 u47 u48 u49 u50 u51 u52 u53 u54 u55 u56 u57 u58 u59 u60 u61 u62 u63 u64 u65 u66 u67 u68 u69 u70 u71 u72 u73 u74 u75 u76 u77 u78 u79 u80 u81 u82 u83 u84 k q ad at' yy1 yy2 hq HN hn hl zz5 zz7 zz8 wo u14 u15 u16 u86 u87 u88 u89 u90 u91 u92 u93 u94 u95 yy3 yy4 yy5 yy6 yy7 yy8 yy9 yy10 yy11 yy12 yy13 yy14 yy15 yy16 yy17 yy18 yy19 yy20 yy21 yy22 yy23 yy24 yy25 yy26 yy27 yy28 yy29 yy30 yy31 yy32 u126 u127 u128 u129 u130 u131 u132 u133 u134 u135 u136 u137 u138 u139 u140 u141 u142 yy33 yy34 yy35 yy36 yy37 yy38 yy39 yy40 u151 u152 u153 u154 u155 u156 u157 u158 u159 u160 u161 u162 u163 u164 u165 u166 u167 u168 u169 u170 u171 u172 u173 u174 u175 u176 u177 u178 u179 u180 u181 u182 u183 u184 u185 u186 u187 u188 u189 u190 u191 u192 u193 u194 u195 u196 u197 u198 u199 u200 u201 u202 u203 u204 u205 u206 u207 u208 u209 u210 u211 u212 u213 u214 u215 u216 u217 u218 u219 u220 u221 u222 u223 p cd ct hqp hpk hlt b off hbl RL zz6 ve vl vk vp vn vz vb va hl1 m pg hm60 hp8 G XT lXT XD lXD TA TB DA DB sv gv TX' T2 DX' AT2 bt HBL bd hct hcd g1 g2 W LW yy41 wi u96 u97 u98 u99 u100 u101 u102 u103 u104 u105 u106 u107 u108 u109 u110 u111 wj u112 u113 u114 u115 u116 u117 u118 u119 u120 u121 u122 u123 u124 u125 NJ ODj BXj low yy42 yy43 yy44 yy45 y0 y1 y2 y3 y4 y5 y6 y7 y8 y9 yy46 u143 u144 u145 u146 u147 u148 u149 u150 hwj g5 hek T2' HTH yy47 hs HX LX1 LX2 hw1 g10 HBT yy49 OTj yy50 yy51 g6 g7 g8 g9 hcc HNC
  obtain ⟨VA, hVA⟩ : ∃ W, wj.alloc (.cells #[] 57) = W := ⟨_, rfl⟩
  have bVA : Below wj.heap.size wj VA := by rw [← hVA]; exact (Below.refl _ _).alloc (Nat.le_refl _) _
  have EA : Hid (Box VA wj.heap.size 57 #[]) := by unfold Hid; rw [← hVA]; exact Box.new _ _ _
  have lA : wj.heap.size < VA.heap.size := EA.out.lt
  have BA : Hid (Below wj.heap.size wj VA) := bVA
  clear bVA
  have SR1 : Hid (∀ W, Below wj.heap.size wj W → ∀ j u, (cellsT (toT TA))[j]? = some u → W.cell? ((⟨bt, 0, none⟩ : Addr).add j) = some u) := fun W hW => own_srk (own_below OTj.out hW) (us := []) (vs := (cellsT (toT TA))) (ws := (cellsT (toT [((m : Int), sv)]) ++ (cellsT (toT TB)))) (by rw [HX.out, toT_cut]; rfl) (by rw [cellsT_pr]; omega)
  have SR2 : Hid (∀ W, Below wj.heap.size wj W → ∀ j u, (cellsT (toT TB))[j]? = some u → W.cell? ((⟨bt, (TA.length + 1) * 2, none⟩ : Addr).add j) = some u) := fun W hW => by
    have := own_srk (own_below OTj.out hW) (us := (cellsT (toT TA)) ++ cellsT (toT [((m : Int), sv)])) (vs := (cellsT (toT TB))) (ws := []) (by rw [HX.out, toT_cut, List.append_nil, List.append_assoc]) (by rw [cellsT_pr]; omega)
    rwa [show ((cellsT (toT TA)) ++ cellsT (toT [((m : Int), sv)])).length = (TA.length + 1) * 2 by rw [List.length_append, cellsT_pr, cellsT_pr, List.length_singleton]; omega] at this
  have TL : Hid ((cellsT (toT TA)).length = TA.length * 2) := cellsT_pr _
  have DL : Hid ((cellsT (toT TB)).length = TB.length * 2) := cellsT_pr _
  have OA : Hid (∀ u ∈ (cellsT (toT TA)), u.oneCell' = true) := cellsT_one _
  have OB : Hid (∀ u ∈ (cellsT (toT TB)), u.oneCell' = true) := cellsT_one _
  go_wp2_with fail
  go_region_law (first
    | (refine step_app_any _ (by rfl) (.tmp 152) (.tmp 155) 31 (by rfl) wj.heap.size 57 j0 (.agg #[.int .i64 0, .int .i64 0]) 2 16 Try.underlying31 hj0.out jz0.out jz1.out jz2.out rfl (by omega) (.slice (some ⟨wj.heap.size, 0, none⟩) 0 0) 0 [] (by rfl) (by exact emp_own EA.out (by omega)) (some ⟨bt, 0, none⟩) TA.length ct (cellsT (toT TA)) (by rfl) (fun ex => by cases ex) TL.out (fun ad ex => by cases ex; exact SR1.out _ (Below.drew BA.out)) OA.out (by unfold maxLen; omega) (by omega) (by exact BA.out.size) ?_
       intro a6 c6 w6 ox hgx hax
       rw [Nat.zero_add, List.nil_append] at ox
       rw [ob_slice] at hgx hax
       have B6 : Hid (Below wj.heap.size wj w6) := (Below.drew BA.out).grown hgx BA.out.size (fun j hj => by have e' : wj.heap.size = j := Option.some.inj hj; omega)
       have O6 : Hid (w6.ownsRow wj.heap.size 57 2 (.slice a6 TA.length c6) TA.length (cellsT (toT TA))) := ox
       clear ox hgx hax)
    | (refine step_app_any _ (by rfl) (.tmp 156) (.tmp 160) 31 (by rfl) wj.heap.size 57 j0 (.agg #[.int .i64 0, .int .i64 0]) 2 16 Try.underlying31 hj0.out jz0.out jz1.out jz2.out rfl (by omega) (.slice a6 TA.length c6) TA.length (cellsT (toT TA)) (by rfl) (by exact O6.out) (some ⟨bt, (TA.length + 1) * 2, none⟩) (XT.length - (TA.length + 1)) _ (cellsT (toT TB)) (by rfl) (fun ex => by cases ex) (by rw [DL.out]; omega) (fun ad ex => by cases ex; exact SR2.out _ B6.out) OB.out (by unfold maxLen; omega) (by omega) (by exact B6.out.size) ?_
       intro a8 c8 w8 ox hgx hax
       rw [ob_slice] at hgx hax
       have B8 : Hid (Below wj.heap.size wj w8) := B6.out.grown hgx B6.out.size (fun j hj => by obtain ⟨aa, cc, ee, hh⟩ := own_slc O6.out; simp only [Value.slice.injEq] at ee; rw [ee.1] at hj; exact (hh j hj).1)
       have O8 : Hid (w8.ownsRow wj.heap.size 57 2 (.slice a8 (TA.length + (XT.length - (TA.length + 1))) c8) (TA.length + (XT.length - (TA.length + 1))) ((cellsT (toT TA)) ++ (cellsT (toT TB)))) := ox
       clear ox hgx hax)
    )
  all_goals
    have LL : TA.length + (XT.length - (TA.length + 1)) = TX'.length := by have := congrArg List.length T2'; rw [List.length_append] at this; omega
    have OT8 : Hid (w8.ownsRow w.heap.size 57 2 (.slice a8 TX'.length c8) TX'.length (cellsT (toT TX'))) := by
      unfold Hid
      rw [← LL]
      have e : cellsT (toT TX') = (cellsT (toT TA)) ++ (cellsT (toT TB)) := by rw [T2', show TA ++ TB = TA ++ ([] ++ TB) from rfl, toT_cut]; rfl
      rw [e]
      exact World.ownsRow.down O8.out BXj.out.size
    have OD8 : Hid (w8.ownsRow w.heap.size 54 2 (.slice (some ⟨bd, 0, none⟩) XD.length cd) XD.length (cellsD (toD XD))) := own_below ODj.out B8.out
    have N8 : Hid (Box w8 wo.heap.size 43 #[.int .i64 ve, .int .i64 vl, .int .i64 (m : Int), .int .i64 vk, .int .i64 vp, .int .i64 vn, .int .i64 (pg : Int), .int .i64 vz, .string vb, .string va]) := NJ.out.belowS B8.out
    have BX8 : Hid (Below w.heap.size w w8) := BXj.out.trans (B8.out.mono BXj.out.size)
    clear O8 B8
    go_wp2
    go_meet
    case rel => exact ⟨a8, c8, congrArg (fun x => Value.slice a8 x c8) LL, OT8, OD8, N8, BX8⟩
set_option maxRecDepth 100000 in
set_option maxHeartbeats 60000000 in
theorem c_specAn_p1_p2 : c_specAn_p1_1.2.2.1 := by
  unfold c_specAn_p1_1
  dsimp only
  intro cap L w HOK HS i0 j0 hi0 hz0 hz1 hz2 hj0 jz0 jz1 jz2 V1 V2 zz2 zz3 u8 u9 u10 u11 u12 u19 u20 u21 u22 u23 u24 u25 u26 u27 u28 u29 u30 u31 u32 u33 u34 u35 u36 u37 u38 u39 u40 u41 u42 u43 u44 u45 u46 u47 u48 u49 u50 u51 u52 u53 u54 u55 u56 u57 u58 u59 u60 u61 u62 u63 u64 u65 u66 u67 u68 u69 u70 u71 u72 u73 u74 u75 u76 u77 u78 u79 u80 u81 u82 u83 u84 k q ad at' yy1 ct hq HN hn hl zz5 zz7 zz8 wo u14 u15 u16 u86 u87 u88 u89 u90 u91 u92 u93 u94 u95 yy2 yy3 yy4 yy5 yy6 yy7 yy8 yy9 yy10 yy11 yy12 yy13 yy14 yy15 yy16 yy17 yy18 yy19 yy20 yy21 yy22 yy23 yy24 yy25 yy26 yy27 yy28 yy29 yy30 yy31 u126 u127 u128 u129 u130 u131 u132 u133 u134 u135 u136 u137 u138 u139 u140 u141 u142 yy32 yy33 yy34 yy35 yy36 yy37 yy38 yy39 u151 u152 u153 u154 u155 u156 u157 u158 u159 u160 u161 u162 u163 u164 u165 u166 u167 u168 u169 u170 u171 u172 u173 u174 u175 u176 u177 u178 u179 u180 u181 u182 u183 u184 u185 u186 u187 u188 u189 u190 u191 u192 u193 u194 u195 u196 u197 u198 u199 u200 u201 u202 u203 u204 u205 u206 u207 u208 u209 u210 u211 u212 u213 u214 u215 u216 u217 u218 u219 u220 u221 u222 u223 p cd hqp hpk hlt b off hbl RL zz6 ve vl vk vp vn vz vb va hl1 m pg hm60 hp8 G XD lXD DA DB sv gv TX' DX' AT2 bt bd hcd g1 g2 W LW yy40 wi u96 u97 u98 u99 u100 u101 u102 u103 u104 u105 u106 u107 u108 u109 u110 u111 wj u112 u113 u114 u115 u116 u117 u118 u119 u120 u121 u122 u123 u124 u125 NJ ODj BXj low yy41 yy42 yy43 yy44 y0 y1 y2 y3 y4 y5 y6 y7 y8 y9 yy45 u143 u144 u145 u146 u147 u148 u149 u150 hwj hek HTH hs g5 yy46 g7 lXT HBL HBT yy47 g6 hct yy49 OTj yy50 yy51 T2 T2' HX LX1 LX2
  obtain ⟨VA, hVA⟩ : ∃ W, wj.alloc (.cells #[] 57) = W := ⟨_, rfl⟩
  have bVA : Below wj.heap.size wj VA := by rw [← hVA]; exact (Below.refl _ _).alloc (Nat.le_refl _) _
  have EA : Hid (Box VA wj.heap.size 57 #[]) := by unfold Hid; rw [← hVA]; exact Box.new _ _ _
  have lA : wj.heap.size < VA.heap.size := EA.out.lt
  obtain ⟨VAB, hVAB⟩ : ∃ W, VA.alloc (.cells #[.int .i64 (m : Int), .int .i64 vl] 57) = W := ⟨_, rfl⟩
  have bVAB : Below VA.heap.size VA VAB := by rw [← hVAB]; exact (Below.refl _ _).alloc (Nat.le_refl _) _
  have EAB : Hid (Box VAB wj.heap.size 57 #[]) := EA.out.belowS bVAB
  have XAB : Hid (Box VAB VA.heap.size 57 #[.int .i64 (m : Int), .int .i64 vl]) := by unfold Hid; rw [← hVAB]; exact Box.new _ _ _
  have lAB : VA.heap.size < VAB.heap.size := XAB.out.lt
  obtain ⟨VB, hVB⟩ : ∃ W, wj.alloc (.cells #[.int .i64 (m : Int), .int .i64 vl] 57) = W := ⟨_, rfl⟩
  have bVB : Below wj.heap.size wj VB := by rw [← hVB]; exact (Below.refl _ _).alloc (Nat.le_refl _) _
  have XB : Hid (Box VB wj.heap.size 57 #[.int .i64 (m : Int), .int .i64 vl]) := by unfold Hid; rw [← hVB]; exact Box.new _ _ _
  have lB : wj.heap.size < VB.heap.size := XB.out.lt
  obtain ⟨VBA, hVBA⟩ : ∃ W, VB.alloc (.cells #[] 57) = W := ⟨_, rfl⟩
  have bVBA : Below VB.heap.size VB VBA := by rw [← hVBA]; exact (Below.refl _ _).alloc (Nat.le_refl _) _
  have EBA : Hid (Box VBA VB.heap.size 57 #[]) := by unfold Hid; rw [← hVBA]; exact Box.new _ _ _
  have XBA : Hid (Box VBA wj.heap.size 57 #[.int .i64 (m : Int), .int .i64 vl]) := XB.out.belowS bVBA
  have lBA : VB.heap.size < VBA.heap.size := EBA.out.lt
  have BA : Hid (Below wj.heap.size wj VA) := bVA
  have BAB : Hid (Below wj.heap.size wj VAB) := bVA.trans (bVAB.mono bVA.size)
  have BBA : Hid (Below wj.heap.size wj VBA) := bVB.trans (bVBA.mono bVB.size)
  clear bVA bVAB bVB bVBA
  have ea1 := far6 BA.out y2
  have ea2 := far6 BA.out y1
  have SR1 : Hid (∀ W, Below wj.heap.size wj W → ∀ ad : Addr, (none : Option Addr) = some ad → ∀ j u, (cellsT (toT ([] : List (Int × Int))))[j]? = some u → W.cell? (ad.add j) = some u) := fun W hW ad ex => by cases ex
  have TL : Hid ((cellsT (toT ([] : List (Int × Int)))).length = 0 * 2) := cellsT_pr _
  have DL : Hid ((cellsT (toT ([] : List (Int × Int)))).length = ([] : List (Int × Int)).length * 2) := cellsT_pr _
  have OA : Hid (∀ u ∈ (cellsT (toT ([] : List (Int × Int)))), u.oneCell' = true) := cellsT_one _
  have OB : Hid (∀ u ∈ (cellsT (toT ([] : List (Int × Int)))), u.oneCell' = true) := cellsT_one _
  go_wp2_with fail
  go_region_law (first
    | (refine step_app_any _ (by rfl) (.tmp 126) (.tmp 129) 31 (by rfl) wj.heap.size 57 j0 (.agg #[.int .i64 0, .int .i64 0]) 2 16 Try.underlying31 hj0.out jz0.out jz1.out jz2.out rfl (by omega) (.slice (some ⟨wj.heap.size, 0, none⟩) 0 0) 0 [] (by rfl) (by exact emp_own EA.out (by omega)) (none) 0 0 (cellsT (toT ([] : List (Int × Int)))) (by rfl) (fun _ => ⟨rfl, rfl⟩) TL.out (SR1.out _ (Below.drew BA.out)) OA.out (by unfold maxLen; omega) (by omega) (by exact BA.out.size) ?_
       intro a6 c6 w6 ox hgx hax
       rw [Nat.zero_add, List.nil_append] at ox
       rw [ob_slice] at hgx hax
       have B6 : Hid (Below wj.heap.size wj w6) := (Below.drew BA.out).grown hgx BA.out.size (fun j hj => by have e' : wj.heap.size = j := Option.some.inj hj; omega)
       have O6 : Hid (w6.ownsRow wj.heap.size 57 2 (.slice a6 0 c6) 0 (cellsT (toT ([] : List (Int × Int))))) := ox
       have s6 : VA.heap.size ≤ w6.heap.size := hgx.size
       clear ox hgx hax
       have ew1 := far6 B6.out y2
       have ew2 := far6 B6.out y1
       obtain ⟨w6n, hw6n⟩ : ∃ Q, w6.alloc (.cells #[.int .i64 (m : Int), .int .i64 vl] 57) = Q := ⟨_, rfl⟩
       have hbn : Below w6.heap.size w6 w6n := by rw [← hw6n]; exact (Below.refl _ _).alloc (Nat.le_refl _) _
       have XN : Hid (Box w6n w6.heap.size 57 #[.int .i64 (m : Int), .int .i64 vl]) := by unfold Hid; rw [← hw6n]; exact Box.new _ _ _
       have BN : Hid (Below wj.heap.size wj w6n) := B6.out.trans (hbn.mono B6.out.size)
       have ON : Hid (w6n.ownsRow wj.heap.size 57 2 (.slice a6 0 c6) 0 (cellsT (toT ([] : List (Int × Int))))) := own_below O6.out hbn
       have sN : w6.heap.size < w6n.heap.size := XN.out.lt
       clear hbn)
    | (refine step_app_any _ (by rfl) (.tmp 126) (.tmp 129) 31 (by rfl) wj.heap.size 57 j0 (.agg #[.int .i64 0, .int .i64 0]) 2 16 Try.underlying31 hj0.out jz0.out jz1.out jz2.out rfl (by omega) (.slice (some ⟨wj.heap.size, 0, none⟩) 0 0) 0 [] (by rfl) (by exact emp_own EAB.out (by omega)) (none) 0 0 (cellsT (toT ([] : List (Int × Int)))) (by rfl) (fun _ => ⟨rfl, rfl⟩) TL.out (SR1.out _ (Below.drew BAB.out)) OA.out (by unfold maxLen; omega) (by omega) (by exact BAB.out.size) ?_
       intro a6 c6 w6 ox hgx hax
       rw [Nat.zero_add, List.nil_append] at ox
       rw [ob_slice] at hgx hax
       have B6 : Hid (Below wj.heap.size wj w6) := (Below.drew BAB.out).grown hgx BAB.out.size (fun j hj => by have e' : wj.heap.size = j := Option.some.inj hj; omega)
       have O6 : Hid (w6.ownsRow wj.heap.size 57 2 (.slice a6 0 c6) 0 (cellsT (toT ([] : List (Int × Int))))) := ox
       have s6 : VAB.heap.size ≤ w6.heap.size := hgx.size
       have X6 : Hid (Box w6 VA.heap.size 57 #[.int .i64 (m : Int), .int .i64 vl]) := Box.grown (show Box VAB.drew VA.heap.size 57 #[.int .i64 (m : Int), .int .i64 vl] from XAB.out) hgx (fun e => by have e' : wj.heap.size = VA.heap.size := Option.some.inj e; omega)
       clear ox hgx hax)
    | (refine step_app_any _ (by rfl) (.tmp 126) (.tmp 129) 31 (by rfl) wj.heap.size 57 j0 (.agg #[.int .i64 0, .int .i64 0]) 2 16 Try.underlying31 hj0.out jz0.out jz1.out jz2.out rfl (by omega) (.slice (some ⟨VB.heap.size, 0, none⟩) 0 0) 0 [] (by rfl) (by exact emp_own EBA.out (by omega)) (none) 0 0 (cellsT (toT ([] : List (Int × Int)))) (by rfl) (fun _ => ⟨rfl, rfl⟩) TL.out (SR1.out _ (Below.drew BBA.out)) OA.out (by unfold maxLen; omega) (by omega) (by exact BBA.out.size) ?_
       intro a6 c6 w6 ox hgx hax
       rw [Nat.zero_add, List.nil_append] at ox
       rw [ob_slice] at hgx hax
       have B6 : Hid (Below wj.heap.size wj w6) := (Below.drew BBA.out).grown hgx BBA.out.size (fun j hj => by have e' : VB.heap.size = j := Option.some.inj hj; omega)
       have O6 : Hid (w6.ownsRow wj.heap.size 57 2 (.slice a6 0 c6) 0 (cellsT (toT ([] : List (Int × Int))))) := ox
       have s6 : VBA.heap.size ≤ w6.heap.size := hgx.size
       have X6 : Hid (Box w6 wj.heap.size 57 #[.int .i64 (m : Int), .int .i64 vl]) := Box.grown (show Box VBA.drew wj.heap.size 57 #[.int .i64 (m : Int), .int .i64 vl] from XBA.out) hgx (fun e => by have e' : VB.heap.size = wj.heap.size := Option.some.inj e; omega)
       clear ox hgx hax)
    | (refine step_app_any _ (by rfl) (.tmp 130) (.tmp 136) 31 (by rfl) wj.heap.size 57 j0 (.agg #[.int .i64 0, .int .i64 0]) 2 16 Try.underlying31 hj0.out jz0.out jz1.out jz2.out rfl (by omega) (.slice a6 0 c6) 0 (cellsT (toT ([] : List (Int × Int)))) (by rfl) (by exact O6.out) (some ⟨VA.heap.size, 0, none⟩) 1 1 (cT ⟨(m : Int), vl⟩) (by rfl) (fun ex => by cases ex) rfl (by exact box_newsT X6.out) (cT_one _) (by unfold maxLen; omega) (by omega) (by exact B6.out.size) ?_
       intro a7 c7 w7 ox hgx hax
       rw [ob_slice] at hgx hax
       have B7 : Hid (Below wj.heap.size wj w7) := B6.out.grown hgx B6.out.size (fun j hj => by obtain ⟨aa, cc, ee, hh⟩ := own_slc O6.out; simp only [Value.slice.injEq] at ee; rw [ee.1] at hj; exact (hh j hj).1)
       have O7 : Hid (w7.ownsRow wj.heap.size 57 2 (.slice a7 (0 + 1) c7) (0 + 1) ((cellsT (toT ([] : List (Int × Int)))) ++ cT ⟨(m : Int), vl⟩)) := ox
       have s7 : w6.heap.size ≤ w7.heap.size := hgx.size
       clear ox hgx hax)
    | (refine step_app_any _ (by rfl) (.tmp 130) (.tmp 136) 31 (by rfl) wj.heap.size 57 j0 (.agg #[.int .i64 0, .int .i64 0]) 2 16 Try.underlying31 hj0.out jz0.out jz1.out jz2.out rfl (by omega) (.slice a6 0 c6) 0 (cellsT (toT ([] : List (Int × Int)))) (by rfl) (by exact O6.out) (some ⟨wj.heap.size, 0, none⟩) 1 1 (cT ⟨(m : Int), vl⟩) (by rfl) (fun ex => by cases ex) rfl (by exact box_newsT X6.out) (cT_one _) (by unfold maxLen; omega) (by omega) (by exact B6.out.size) ?_
       intro a7 c7 w7 ox hgx hax
       rw [ob_slice] at hgx hax
       have B7 : Hid (Below wj.heap.size wj w7) := B6.out.grown hgx B6.out.size (fun j hj => by obtain ⟨aa, cc, ee, hh⟩ := own_slc O6.out; simp only [Value.slice.injEq] at ee; rw [ee.1] at hj; exact (hh j hj).1)
       have O7 : Hid (w7.ownsRow wj.heap.size 57 2 (.slice a7 (0 + 1) c7) (0 + 1) ((cellsT (toT ([] : List (Int × Int)))) ++ cT ⟨(m : Int), vl⟩)) := ox
       have s7 : w6.heap.size ≤ w7.heap.size := hgx.size
       clear ox hgx hax)
    | (refine step_app_any _ (by rfl) (.tmp 130) (.tmp 136) 31 (by rfl) wj.heap.size 57 j0 (.agg #[.int .i64 0, .int .i64 0]) 2 16 Try.underlying31 hj0.out jz0.out jz1.out jz2.out rfl (by omega) (.slice a6 0 c6) 0 (cellsT (toT ([] : List (Int × Int)))) (by rfl) (by exact ON.out) (some ⟨w6.heap.size, 0, none⟩) 1 1 (cT ⟨(m : Int), vl⟩) (by rfl) (fun ex => by cases ex) rfl (by exact box_newsT XN.out) (cT_one _) (by unfold maxLen; omega) (by omega) (by exact BN.out.size) ?_
       intro a7 c7 w7 ox hgx hax
       rw [ob_slice] at hgx hax
       have B7 : Hid (Below wj.heap.size wj w7) := BN.out.grown hgx BN.out.size (fun j hj => by obtain ⟨aa, cc, ee, hh⟩ := own_slc ON.out; simp only [Value.slice.injEq] at ee; rw [ee.1] at hj; exact (hh j hj).1)
       have O7 : Hid (w7.ownsRow wj.heap.size 57 2 (.slice a7 (0 + 1) c7) (0 + 1) ((cellsT (toT ([] : List (Int × Int)))) ++ cT ⟨(m : Int), vl⟩)) := ox
       have s7 : w6n.heap.size ≤ w7.heap.size := hgx.size
       clear ox hgx hax)
    | (refine step_app_any _ (by rfl) (.tmp 137) (.tmp 140) 31 (by rfl) wj.heap.size 57 j0 (.agg #[.int .i64 0, .int .i64 0]) 2 16 Try.underlying31 hj0.out jz0.out jz1.out jz2.out rfl (by omega) (.slice a7 (0 + 1) c7) (0 + 1) ((cellsT (toT ([] : List (Int × Int)))) ++ cT ⟨(m : Int), vl⟩) (by rfl) (by exact O7.out) (none) 0 _ [] (by rfl) (fun _ => ⟨rfl, by first | rfl | omega⟩) rfl (fun ad ex j u hj => by cases hj) (fun u hu => by cases hu) (by unfold maxLen; omega) (by omega) (by exact B7.out.size) ?_
       intro a8 c8 w8 ox hgx hax
       rw [ob_slice] at hgx hax
       have B8 : Hid (Below wj.heap.size wj w8) := B7.out.grown hgx B7.out.size (fun j hj => by obtain ⟨aa, cc, ee, hh⟩ := own_slc O7.out; simp only [Value.slice.injEq] at ee; rw [ee.1] at hj; exact (hh j hj).1)
       have O8 : Hid (w8.ownsRow wj.heap.size 57 2 (.slice a8 (0 + 1 + 0) c8) (0 + 1 + 0) ((cellsT (toT ([] : List (Int × Int)))) ++ cT ⟨(m : Int), vl⟩ ++ [])) := ox
       clear ox hgx hax)
    )
  all_goals
    have LL : 0 + 1 + 0 = TX'.length := by rw [T2']; rfl
    have OT8 : Hid (w8.ownsRow w.heap.size 57 2 (.slice a8 TX'.length c8) TX'.length (cellsT (toT TX'))) := by
      unfold Hid
      rw [← LL]
      have e : cellsT (toT TX') = (cellsT (toT ([] : List (Int × Int)))) ++ cT ⟨(m : Int), vl⟩ ++ [] := by rw [T2']; rfl
      rw [e]
      exact World.ownsRow.down O8.out BXj.out.size
    have OD8 : Hid (w8.ownsRow w.heap.size 54 2 (.slice (some ⟨bd, 0, none⟩) XD.length cd) XD.length (cellsD (toD XD))) := own_below ODj.out B8.out
    have N8 : Hid (Box w8 wo.heap.size 43 #[.int .i64 ve, .int .i64 vl, .int .i64 (m : Int), .int .i64 vk, .int .i64 vp, .int .i64 vn, .int .i64 (pg : Int), .int .i64 vz, .string vb, .string va]) := NJ.out.belowS B8.out
    have BX8 : Hid (Below w.heap.size w w8) := BXj.out.trans (B8.out.mono BXj.out.size)
    clear O8 B8
    go_wp2
    go_meet
    case rel => exact ⟨a8, c8, congrArg (fun x => Value.slice a8 x c8) LL, OT8, OD8, N8, BX8⟩

end Go.Proofs.Ytimdoaehlciecaa
