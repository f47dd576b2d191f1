/-
  l08Analyze, parts: transactions put in.
-/
import Derived.Test.YtimdoaehlciecaaAhA
import Derived.Deep.RegionHeld3
import Derived.Deep.QuietTactic
import Derived.BigQuiet
import Derived.Deep.RegionLaw
import Derived.Deep.RegionWith
import Derived.Deep.AppendLies
import Derived.Deep.RegionLawGrows
import Derived.Deep.CutBlock
import Derived.Deep.CutRange
namespace Go.Proofs.Ytimdoaehlciecaa
open Go Go.RowKit
attribute [local go_sem ↓] Go.wp_at_zero Go.wp_at_succ

set_option linter.unusedVariables false
set_option linter.unusedSimpArgs false
set_option maxRecDepth 100000 in
set_option maxHeartbeats 60000000 in
theorem c_specAn_p1_p3 : c_specAn_p1_1.2.2.2.1 := by
  unfold c_specAn_p1_1
  dsimp only
  intro cap L w HOK HS i0 j0 hi0 hz0 hz1 hz2 hj0 jz0 jz1 jz2 V1 V2 zz2 zz3 u8 u9 u10 u11 u12 u19 u20 u21 u22 u23 u24 u25 u26 u27 u28 u29 u30 u31 u32 u33 u34 u35 u36 u37 u38 u39 u40 u41 u42 u43 u44 u45 u46 u47 u48 u49 u50 u51 u52 u53 u54 u55 u56 u57 u58 u59 u60 u61 u62 u63 u64 u65 u66 u67 u68 u69 u70 u71 u72 u73 u74 u75 u76 u77 u78 u79 u80 u81 u82 u83 u84 k q ad at' yy1 ct hq HN hn hl zz5 zz7 zz8 wo u14 u15 u16 u86 u87 u88 u89 u90 u91 u92 u93 u94 u95 yy2 yy3 yy4 yy5 yy6 yy7 yy8 yy9 yy10 yy11 yy12 yy13 yy14 yy15 yy16 yy17 yy18 yy19 yy20 yy21 yy22 yy23 yy24 yy25 yy26 yy27 yy28 yy29 yy30 yy31 u126 u127 u128 u129 u130 u131 u132 u133 u134 u135 u136 u137 u138 u139 u140 u141 u142 yy32 yy33 yy34 yy35 yy36 yy37 yy38 yy39 u151 u152 u153 u154 u155 u156 u157 u158 u159 u160 u161 u162 u163 u164 u165 u166 u167 u168 u169 u170 u171 u172 u173 u174 u175 u176 u177 u178 u179 u180 u181 u182 u183 u184 u185 u186 u187 u188 u189 u190 u191 u192 u193 u194 u195 u196 u197 u198 u199 u200 u201 u202 u203 u204 u205 u206 u207 u208 u209 u210 u211 u212 u213 u214 u215 u216 u217 u218 u219 u220 u221 u222 u223 p cd hqp hpk hlt b off hbl RL zz6 ve vl vk vp vn vz vb va hl1 m pg hm60 hp8 G XT lXT XD lXD TA TB DA DB sv gv TX' T2 DX' AT2 bt HBL bd hcd g1 g2 W LW yy40 wi u96 u97 u98 u99 u100 u101 u102 u103 u104 u105 u106 u107 u108 u109 u110 u111 wj u112 u113 u114 u115 u116 u117 u118 u119 u120 u121 u122 u123 u124 u125 NJ ODj BXj low yy41 yy42 yy43 yy44 y0 y1 y2 y3 y4 y5 y6 y7 y8 y9 yy45 u143 u144 u145 u146 u147 u148 u149 u150 hwj g5 hek T2' HTH yy46 hs HX LX1 LX2 g6 hTB hct g7 bu cp yy47 HBT yy49 OTj yy50 yy51
  obtain ⟨VA, hVA⟩ : ∃ W, wj.alloc (.cells #[] 57) = W := ⟨_, rfl⟩
  have bVA : Below wj.heap.size wj VA := by rw [← hVA]; exact (Below.refl _ _).alloc (Nat.le_refl _) _
  have EA : Hid (Box VA wj.heap.size 57 #[]) := by unfold Hid; rw [← hVA]; exact Box.new _ _ _
  have lA : wj.heap.size < VA.heap.size := EA.out.lt
  obtain ⟨VAB, hVAB⟩ : ∃ W, VA.alloc (.cells #[.int .i64 (m : Int), .int .i64 vl] 57) = W := ⟨_, rfl⟩
  have bVAB : Below VA.heap.size VA VAB := by rw [← hVAB]; exact (Below.refl _ _).alloc (Nat.le_refl _) _
  have EAB : Hid (Box VAB wj.heap.size 57 #[]) := EA.out.belowS bVAB
  have XAB : Hid (Box VAB VA.heap.size 57 #[.int .i64 (m : Int), .int .i64 vl]) := by unfold Hid; rw [← hVAB]; exact Box.new _ _ _
  have lAB : VA.heap.size < VAB.heap.size := XAB.out.lt
  obtain ⟨VB, hVB⟩ : ∃ W, wj.alloc (.cells #[.int .i64 (m : Int), .int .i64 vl] 57) = W := ⟨_, rfl⟩
  have bVB : Below wj.heap.size wj VB := by rw [← hVB]; exact (Below.refl _ _).alloc (Nat.le_refl _) _
  have XB : Hid (Box VB wj.heap.size 57 #[.int .i64 (m : Int), .int .i64 vl]) := by unfold Hid; rw [← hVB]; exact Box.new _ _ _
  have lB : wj.heap.size < VB.heap.size := XB.out.lt
  obtain ⟨VBA, hVBA⟩ : ∃ W, VB.alloc (.cells #[] 57) = W := ⟨_, rfl⟩
  have bVBA : Below VB.heap.size VB VBA := by rw [← hVBA]; exact (Below.refl _ _).alloc (Nat.le_refl _) _
  have EBA : Hid (Box VBA VB.heap.size 57 #[]) := by unfold Hid; rw [← hVBA]; exact Box.new _ _ _
  have XBA : Hid (Box VBA wj.heap.size 57 #[.int .i64 (m : Int), .int .i64 vl]) := XB.out.belowS bVBA
  have lBA : VB.heap.size < VBA.heap.size := EBA.out.lt
  have BA : Hid (Below wj.heap.size wj VA) := bVA
  have BAB : Hid (Below wj.heap.size wj VAB) := bVA.trans (bVAB.mono bVA.size)
  have BBA : Hid (Below wj.heap.size wj VBA) := bVB.trans (bVBA.mono bVB.size)
  clear bVA bVAB bVB bVBA
  have ea1 := far6 BA.out y2
  have ea2 := far6 BA.out y1
  have SR1 : Hid (∀ W, Below wj.heap.size wj W → ∀ ad : Addr, (some ⟨bu, 0, none⟩ : Option Addr) = some ad → ∀ j u, (cellsT (toT TA))[j]? = some u → W.cell? (ad.add j) = some u) := fun W hW ad ex => by cases ex; exact own_srk (own_below OTj.out hW) (us := []) (vs := (cellsT (toT TA))) (ws := (cellsT (toT TB))) (by rw [HX.out, toT_cut]; rfl) (by rw [cellsT_pr]; omega)
  have TL : Hid ((cellsT (toT TA)).length = TA.length * 2) := cellsT_pr _
  have DL : Hid ((cellsT (toT TB)).length = TB.length * 2) := cellsT_pr _
  have OA : Hid (∀ u ∈ (cellsT (toT TA)), u.oneCell' = true) := cellsT_one _
  have OB : Hid (∀ u ∈ (cellsT (toT TB)), u.oneCell' = true) := cellsT_one _
  go_wp2_with fail
  go_region_law (first
    | (refine step_app_any _ (by rfl) (.tmp 126) (.tmp 129) 31 (by rfl) wj.heap.size 57 j0 (.agg #[.int .i64 0, .int .i64 0]) 2 16 Try.underlying31 hj0.out jz0.out jz1.out jz2.out rfl (by omega) (.slice (some ⟨wj.heap.size, 0, none⟩) 0 0) 0 [] (by rfl) (by exact emp_own EA.out (by omega)) (some ⟨bu, 0, none⟩) TA.length TA.length (cellsT (toT TA)) (by rfl) (fun ex => by cases ex) TL.out (SR1.out _ (Below.drew BA.out)) OA.out (by unfold maxLen; omega) (by omega) (by exact BA.out.size) ?_
       intro a6 c6 w6 ox hgx hax
       rw [Nat.zero_add, List.nil_append] at ox
       rw [ob_slice] at hgx hax
       have B6 : Hid (Below wj.heap.size wj w6) := (Below.drew BA.out).grown hgx BA.out.size (fun j hj => by have e' : wj.heap.size = j := Option.some.inj hj; omega)
       have O6 : Hid (w6.ownsRow wj.heap.size 57 2 (.slice a6 TA.length c6) TA.length (cellsT (toT TA))) := ox
       have s6 : VA.heap.size ≤ w6.heap.size := hgx.size
       clear ox hgx hax
       have ew1 := far6 B6.out y2
       have ew2 := far6 B6.out y1
       obtain ⟨w6n, hw6n⟩ : ∃ Q, w6.alloc (.cells #[.int .i64 (m : Int), .int .i64 vl] 57) = Q := ⟨_, rfl⟩
       have hbn : Below w6.heap.size w6 w6n := by rw [← hw6n]; exact (Below.refl _ _).alloc (Nat.le_refl _) _
       have XN : Hid (Box w6n w6.heap.size 57 #[.int .i64 (m : Int), .int .i64 vl]) := by unfold Hid; rw [← hw6n]; exact Box.new _ _ _
       have BN : Hid (Below wj.heap.size wj w6n) := B6.out.trans (hbn.mono B6.out.size)
       have ON : Hid (w6n.ownsRow wj.heap.size 57 2 (.slice a6 TA.length c6) TA.length (cellsT (toT TA))) := own_below O6.out hbn
       have sN : w6.heap.size < w6n.heap.size := XN.out.lt
       clear hbn)
    | (refine step_app_any _ (by rfl) (.tmp 126) (.tmp 129) 31 (by rfl) wj.heap.size 57 j0 (.agg #[.int .i64 0, .int .i64 0]) 2 16 Try.underlying31 hj0.out jz0.out jz1.out jz2.out rfl (by omega) (.slice (some ⟨wj.heap.size, 0, none⟩) 0 0) 0 [] (by rfl) (by exact emp_own EAB.out (by omega)) (some ⟨bu, 0, none⟩) TA.length TA.length (cellsT (toT TA)) (by rfl) (fun ex => by cases ex) TL.out (SR1.out _ (Below.drew BAB.out)) OA.out (by unfold maxLen; omega) (by omega) (by exact BAB.out.size) ?_
       intro a6 c6 w6 ox hgx hax
       rw [Nat.zero_add, List.nil_append] at ox
       rw [ob_slice] at hgx hax
       have B6 : Hid (Below wj.heap.size wj w6) := (Below.drew BAB.out).grown hgx BAB.out.size (fun j hj => by have e' : wj.heap.size = j := Option.some.inj hj; omega)
       have O6 : Hid (w6.ownsRow wj.heap.size 57 2 (.slice a6 TA.length c6) TA.length (cellsT (toT TA))) := ox
       have s6 : VAB.heap.size ≤ w6.heap.size := hgx.size
       have X6 : Hid (Box w6 VA.heap.size 57 #[.int .i64 (m : Int), .int .i64 vl]) := Box.grown (show Box VAB.drew VA.heap.size 57 #[.int .i64 (m : Int), .int .i64 vl] from XAB.out) hgx (fun e => by have e' : wj.heap.size = VA.heap.size := Option.some.inj e; omega)
       clear ox hgx hax)
    | (refine step_app_any _ (by rfl) (.tmp 126) (.tmp 129) 31 (by rfl) wj.heap.size 57 j0 (.agg #[.int .i64 0, .int .i64 0]) 2 16 Try.underlying31 hj0.out jz0.out jz1.out jz2.out rfl (by omega) (.slice (some ⟨VB.heap.size, 0, none⟩) 0 0) 0 [] (by rfl) (by exact emp_own EBA.out (by omega)) (some ⟨bu, 0, none⟩) TA.length TA.length (cellsT (toT TA)) (by rfl) (fun ex => by cases ex) TL.out (SR1.out _ (Below.drew BBA.out)) OA.out (by unfold maxLen; omega) (by omega) (by exact BBA.out.size) ?_
       intro a6 c6 w6 ox hgx hax
       rw [Nat.zero_add, List.nil_append] at ox
       rw [ob_slice] at hgx hax
       have B6 : Hid (Below wj.heap.size wj w6) := (Below.drew BBA.out).grown hgx BBA.out.size (fun j hj => by have e' : VB.heap.size = j := Option.some.inj hj; omega)
       have O6 : Hid (w6.ownsRow wj.heap.size 57 2 (.slice a6 TA.length c6) TA.length (cellsT (toT TA))) := ox
       have s6 : VBA.heap.size ≤ w6.heap.size := hgx.size
       have X6 : Hid (Box w6 wj.heap.size 57 #[.int .i64 (m : Int), .int .i64 vl]) := Box.grown (show Box VBA.drew wj.heap.size 57 #[.int .i64 (m : Int), .int .i64 vl] from XBA.out) hgx (fun e => by have e' : VB.heap.size = wj.heap.size := Option.some.inj e; omega)
       clear ox hgx hax)
    | (refine step_app_any _ (by rfl) (.tmp 130) (.tmp 136) 31 (by rfl) wj.heap.size 57 j0 (.agg #[.int .i64 0, .int .i64 0]) 2 16 Try.underlying31 hj0.out jz0.out jz1.out jz2.out rfl (by omega) (.slice a6 TA.length c6) TA.length (cellsT (toT TA)) (by rfl) (by exact O6.out) (some ⟨VA.heap.size, 0, none⟩) 1 1 (cT ⟨(m : Int), vl⟩) (by rfl) (fun ex => by cases ex) rfl (by exact box_newsT X6.out) (cT_one _) (by unfold maxLen; omega) (by omega) (by exact B6.out.size) ?_
       intro a7 c7 w7 ox hgx hax
       rw [ob_slice] at hgx hax
       have B7 : Hid (Below wj.heap.size wj w7) := B6.out.grown hgx B6.out.size (fun j hj => by obtain ⟨aa, cc, ee, hh⟩ := own_slc O6.out; simp only [Value.slice.injEq] at ee; rw [ee.1] at hj; exact (hh j hj).1)
       have O7 : Hid (w7.ownsRow wj.heap.size 57 2 (.slice a7 (TA.length + 1) c7) (TA.length + 1) ((cellsT (toT TA)) ++ cT ⟨(m : Int), vl⟩)) := ox
       have s7 : w6.heap.size ≤ w7.heap.size := hgx.size
       clear ox hgx hax)
    | (refine step_app_any _ (by rfl) (.tmp 130) (.tmp 136) 31 (by rfl) wj.heap.size 57 j0 (.agg #[.int .i64 0, .int .i64 0]) 2 16 Try.underlying31 hj0.out jz0.out jz1.out jz2.out rfl (by omega) (.slice a6 TA.length c6) TA.length (cellsT (toT TA)) (by rfl) (by exact O6.out) (some ⟨wj.heap.size, 0, none⟩) 1 1 (cT ⟨(m : Int), vl⟩) (by rfl) (fun ex => by cases ex) rfl (by exact box_newsT X6.out) (cT_one _) (by unfold maxLen; omega) (by omega) (by exact B6.out.size) ?_
       intro a7 c7 w7 ox hgx hax
       rw [ob_slice] at hgx hax
       have B7 : Hid (Below wj.heap.size wj w7) := B6.out.grown hgx B6.out.size (fun j hj => by obtain ⟨aa, cc, ee, hh⟩ := own_slc O6.out; simp only [Value.slice.injEq] at ee; rw [ee.1] at hj; exact (hh j hj).1)
       have O7 : Hid (w7.ownsRow wj.heap.size 57 2 (.slice a7 (TA.length + 1) c7) (TA.length + 1) ((cellsT (toT TA)) ++ cT ⟨(m : Int), vl⟩)) := ox
       have s7 : w6.heap.size ≤ w7.heap.size := hgx.size
       clear ox hgx hax)
    | (refine step_app_any _ (by rfl) (.tmp 130) (.tmp 136) 31 (by rfl) wj.heap.size 57 j0 (.agg #[.int .i64 0, .int .i64 0]) 2 16 Try.underlying31 hj0.out jz0.out jz1.out jz2.out rfl (by omega) (.slice a6 TA.length c6) TA.length (cellsT (toT TA)) (by rfl) (by exact ON.out) (some ⟨w6.heap.size, 0, none⟩) 1 1 (cT ⟨(m : Int), vl⟩) (by rfl) (fun ex => by cases ex) rfl (by exact box_newsT XN.out) (cT_one _) (by unfold maxLen; omega) (by omega) (by exact BN.out.size) ?_
       intro a7 c7 w7 ox hgx hax
       rw [ob_slice] at hgx hax
       have B7 : Hid (Below wj.heap.size wj w7) := BN.out.grown hgx BN.out.size (fun j hj => by obtain ⟨aa, cc, ee, hh⟩ := own_slc ON.out; simp only [Value.slice.injEq] at ee; rw [ee.1] at hj; exact (hh j hj).1)
       have O7 : Hid (w7.ownsRow wj.heap.size 57 2 (.slice a7 (TA.length + 1) c7) (TA.length + 1) ((cellsT (toT TA)) ++ cT ⟨(m : Int), vl⟩)) := ox
       have s7 : w6n.heap.size ≤ w7.heap.size := hgx.size
       clear ox hgx hax)
    | (refine step_app_any _ (by rfl) (.tmp 137) (.tmp 140) 31 (by rfl) wj.heap.size 57 j0 (.agg #[.int .i64 0, .int .i64 0]) 2 16 Try.underlying31 hj0.out jz0.out jz1.out jz2.out rfl (by omega) (.slice a7 (TA.length + 1) c7) (TA.length + 1) ((cellsT (toT TA)) ++ cT ⟨(m : Int), vl⟩) (by rfl) (by exact O7.out) (some ⟨bu, 0, none⟩) 0 _ [] (by rfl) (fun ex => by cases ex) rfl (fun ad ex j u hj => by cases hj) (fun u hu => by cases hu) (by unfold maxLen; omega) (by omega) (by exact B7.out.size) ?_
       intro a8 c8 w8 ox hgx hax
       rw [ob_slice] at hgx hax
       have B8 : Hid (Below wj.heap.size wj w8) := B7.out.grown hgx B7.out.size (fun j hj => by obtain ⟨aa, cc, ee, hh⟩ := own_slc O7.out; simp only [Value.slice.injEq] at ee; rw [ee.1] at hj; exact (hh j hj).1)
       have O8 : Hid (w8.ownsRow wj.heap.size 57 2 (.slice a8 (TA.length + 1 + 0) c8) (TA.length + 1 + 0) ((cellsT (toT TA)) ++ cT ⟨(m : Int), vl⟩ ++ [])) := ox
       clear ox hgx hax)
    )
  all_goals
    have LL : TA.length + 1 + 0 = TX'.length := by have := congrArg List.length T2'; rw [List.length_append, List.length_append, List.length_singleton] at this; omega
    have OT8 : Hid (w8.ownsRow w.heap.size 57 2 (.slice a8 TX'.length c8) TX'.length (cellsT (toT TX'))) := by
      unfold Hid
      rw [← LL]
      have e : cellsT (toT TX') = (cellsT (toT TA)) ++ cT ⟨(m : Int), vl⟩ ++ [] := by rw [T2', hTB, toT_cut, toT_one, ← List.append_assoc]; rfl
      rw [e]
      exact World.ownsRow.down O8.out BXj.out.size
    have OD8 : Hid (w8.ownsRow w.heap.size 54 2 (.slice (some ⟨bd, 0, none⟩) XD.length cd) XD.length (cellsD (toD XD))) := own_below ODj.out B8.out
    have N8 : Hid (Box w8 wo.heap.size 43 #[.int .i64 ve, .int .i64 vl, .int .i64 (m : Int), .int .i64 vk, .int .i64 vp, .int .i64 vn, .int .i64 (pg : Int), .int .i64 vz, .string vb, .string va]) := NJ.out.belowS B8.out
    have BX8 : Hid (Below w.heap.size w w8) := BXj.out.trans (B8.out.mono BXj.out.size)
    clear O8 B8
    go_wp2
    go_meet
    case rel => exact ⟨a8, c8, congrArg (fun x => Value.slice a8 x c8) LL, OT8, OD8, N8, BX8⟩
set_option maxRecDepth 100000 in
set_option maxHeartbeats 60000000 in
theorem c_specAn_p1_p4 : c_specAn_p1_1.2.2.2.2.1 := by
  unfold c_specAn_p1_1
  dsimp only
  intro cap L w HOK HS i0 j0 hi0 hz0 hz1 hz2 hj0 jz0 jz1 jz2 V1 V2 zz2 zz3 u8 u9 u10 u11 u12 u19 u20 u21 u22 u23 u24 u25 u26 u27 u28 u29 u30 u31 u32 u33 u34 u35 u36 u37 u38 u39 u40 u41 u42 u43 u44 u45 u46 u47 u48 u49 u50 u51 u52 u53 u54 u55 u56 u57 u58 u59 u60 u61 u62 u63 u64 u65 u66 u67 u68 u69 u70 u71 u72 u73 u74 u75 u76 u77 u78 u79 u80 u81 u82 u83 u84 k q ad at' yy1 yy2 hq HN hn hl zz5 zz7 zz8 wo u14 u15 u16 u86 u87 u88 u89 u90 u91 u92 u93 u94 u95 yy3 yy4 yy5 yy6 yy7 yy8 yy9 yy10 yy11 yy12 yy13 yy14 yy15 yy16 yy17 yy18 yy19 yy20 yy21 yy22 yy23 yy24 yy25 yy26 yy27 yy28 yy29 yy30 yy31 yy32 u126 u127 u128 u129 u130 u131 u132 u133 u134 u135 u136 u137 u138 u139 u140 u141 u142 yy33 yy34 yy35 yy36 yy37 yy38 yy39 yy40 u151 u152 u153 u154 u155 u156 u157 u158 u159 u160 u161 u162 u163 u164 u165 u166 u167 u168 u169 u170 u171 u172 u173 u174 u175 u176 u177 u178 u179 u180 u181 u182 u183 u184 u185 u186 u187 u188 u189 u190 u191 u192 u193 u194 u195 u196 u197 u198 u199 u200 u201 u202 u203 u204 u205 u206 u207 u208 u209 u210 u211 u212 u213 u214 u215 u216 u217 u218 u219 u220 u221 u222 u223 p cd ct hqp hpk hlt b off hbl RL zz6 ve vl vk vp vn vz vb va hl1 m pg hm60 hp8 G XT lXT XD lXD TA TB DA DB sv gv TX' T2 DX' AT2 bt HBL bd hct hcd g1 g2 W LW yy41 wi u96 u97 u98 u99 u100 u101 u102 u103 u104 u105 u106 u107 u108 u109 u110 u111 wj u112 u113 u114 u115 u116 u117 u118 u119 u120 u121 u122 u123 u124 u125 NJ ODj BXj low yy42 yy43 yy44 yy45 y0 y1 y2 y3 y4 y5 y6 y7 y8 y9 yy46 u143 u144 u145 u146 u147 u148 u149 u150 hwj g5 hek T2' HTH yy47 hs HX LX1 LX2 g6 g7 hcc bu cp yy48 HBT yy50 OTj yy51 yy52 HNC
  obtain ⟨VA, hVA⟩ : ∃ W, wj.alloc (.cells #[] 57) = W := ⟨_, rfl⟩
  have bVA : Below wj.heap.size wj VA := by rw [← hVA]; exact (Below.refl _ _).alloc (Nat.le_refl _) _
  have EA : Hid (Box VA wj.heap.size 57 #[]) := by unfold Hid; rw [← hVA]; exact Box.new _ _ _
  have lA : wj.heap.size < VA.heap.size := EA.out.lt
  obtain ⟨VAB, hVAB⟩ : ∃ W, VA.alloc (.cells #[.int .i64 (m : Int), .int .i64 vl] 57) = W := ⟨_, rfl⟩
  have bVAB : Below VA.heap.size VA VAB := by rw [← hVAB]; exact (Below.refl _ _).alloc (Nat.le_refl _) _
  have EAB : Hid (Box VAB wj.heap.size 57 #[]) := EA.out.belowS bVAB
  have XAB : Hid (Box VAB VA.heap.size 57 #[.int .i64 (m : Int), .int .i64 vl]) := by unfold Hid; rw [← hVAB]; exact Box.new _ _ _
  have lAB : VA.heap.size < VAB.heap.size := XAB.out.lt
  obtain ⟨VB, hVB⟩ : ∃ W, wj.alloc (.cells #[.int .i64 (m : Int), .int .i64 vl] 57) = W := ⟨_, rfl⟩
  have bVB : Below wj.heap.size wj VB := by rw [← hVB]; exact (Below.refl _ _).alloc (Nat.le_refl _) _
  have XB : Hid (Box VB wj.heap.size 57 #[.int .i64 (m : Int), .int .i64 vl]) := by unfold Hid; rw [← hVB]; exact Box.new _ _ _
  have lB : wj.heap.size < VB.heap.size := XB.out.lt
  obtain ⟨VBA, hVBA⟩ : ∃ W, VB.alloc (.cells #[] 57) = W := ⟨_, rfl⟩
  have bVBA : Below VB.heap.size VB VBA := by rw [← hVBA]; exact (Below.refl _ _).alloc (Nat.le_refl _) _
  have EBA : Hid (Box VBA VB.heap.size 57 #[]) := by unfold Hid; rw [← hVBA]; exact Box.new _ _ _
  have XBA : Hid (Box VBA wj.heap.size 57 #[.int .i64 (m : Int), .int .i64 vl]) := XB.out.belowS bVBA
  have lBA : VB.heap.size < VBA.heap.size := EBA.out.lt
  have BA : Hid (Below wj.heap.size wj VA) := bVA
  have BAB : Hid (Below wj.heap.size wj VAB) := bVA.trans (bVAB.mono bVA.size)
  have BBA : Hid (Below wj.heap.size wj VBA) := bVB.trans (bVBA.mono bVB.size)
  clear bVA bVAB bVB bVBA
  have ea1 := far6 BA.out y2
  have ea2 := far6 BA.out y1
  have SR1 : Hid (∀ W, Below wj.heap.size wj W → ∀ ad : Addr, (some ⟨bu, 0, none⟩ : Option Addr) = some ad → ∀ j u, (cellsT (toT TA))[j]? = some u → W.cell? (ad.add j) = some u) := fun W hW ad ex => by cases ex; exact own_srk (own_below OTj.out hW) (us := []) (vs := (cellsT (toT TA))) (ws := (cellsT (toT TB))) (by rw [HX.out, toT_cut]; rfl) (by rw [cellsT_pr]; omega)
  have SR2 : Hid (∀ W, Below wj.heap.size wj W → ∀ j u, (cellsT (toT TB))[j]? = some u → W.cell? ((⟨bu, TA.length * 2, none⟩ : Addr).add j) = some u) := fun W hW => by
    have := own_srk (own_below OTj.out hW) (us := (cellsT (toT TA))) (vs := (cellsT (toT TB))) (ws := []) (by rw [HX.out, toT_cut, List.append_nil]; rfl) (by rw [cellsT_pr]; omega)
    rwa [cellsT_pr] at this
  have TL : Hid ((cellsT (toT TA)).length = TA.length * 2) := cellsT_pr _
  have DL : Hid ((cellsT (toT TB)).length = TB.length * 2) := cellsT_pr _
  have OA : Hid (∀ u ∈ (cellsT (toT TA)), u.oneCell' = true) := cellsT_one _
  have OB : Hid (∀ u ∈ (cellsT (toT TB)), u.oneCell' = true) := cellsT_one _
  go_wp2_with fail
  go_region_law (first
    | (refine step_app_any _ (by rfl) (.tmp 126) (.tmp 129) 31 (by rfl) wj.heap.size 57 j0 (.agg #[.int .i64 0, .int .i64 0]) 2 16 Try.underlying31 hj0.out jz0.out jz1.out jz2.out rfl (by omega) (.slice (some ⟨wj.heap.size, 0, none⟩) 0 0) 0 [] (by rfl) (by exact emp_own EA.out (by omega)) (some ⟨bu, 0, none⟩) TA.length ct (cellsT (toT TA)) (by rfl) (fun ex => by cases ex) TL.out (SR1.out _ (Below.drew BA.out)) OA.out (by unfold maxLen; omega) (by omega) (by exact BA.out.size) ?_
       intro a6 c6 w6 ox hgx hax
       rw [Nat.zero_add, List.nil_append] at ox
       rw [ob_slice] at hgx hax
       have B6 : Hid (Below wj.heap.size wj w6) := (Below.drew BA.out).grown hgx BA.out.size (fun j hj => by have e' : wj.heap.size = j := Option.some.inj hj; omega)
       have O6 : Hid (w6.ownsRow wj.heap.size 57 2 (.slice a6 TA.length c6) TA.length (cellsT (toT TA))) := ox
       have s6 : VA.heap.size ≤ w6.heap.size := hgx.size
       clear ox hgx hax
       have ew1 := far6 B6.out y2
       have ew2 := far6 B6.out y1
       obtain ⟨w6n, hw6n⟩ : ∃ Q, w6.alloc (.cells #[.int .i64 (m : Int), .int .i64 vl] 57) = Q := ⟨_, rfl⟩
       have hbn : Below w6.heap.size w6 w6n := by rw [← hw6n]; exact (Below.refl _ _).alloc (Nat.le_refl _) _
       have XN : Hid (Box w6n w6.heap.size 57 #[.int .i64 (m : Int), .int .i64 vl]) := by unfold Hid; rw [← hw6n]; exact Box.new _ _ _
       have BN : Hid (Below wj.heap.size wj w6n) := B6.out.trans (hbn.mono B6.out.size)
       have ON : Hid (w6n.ownsRow wj.heap.size 57 2 (.slice a6 TA.length c6) TA.length (cellsT (toT TA))) := own_below O6.out hbn
       have sN : w6.heap.size < w6n.heap.size := XN.out.lt
       clear hbn)
    | (refine step_app_any _ (by rfl) (.tmp 126) (.tmp 129) 31 (by rfl) wj.heap.size 57 j0 (.agg #[.int .i64 0, .int .i64 0]) 2 16 Try.underlying31 hj0.out jz0.out jz1.out jz2.out rfl (by omega) (.slice (some ⟨wj.heap.size, 0, none⟩) 0 0) 0 [] (by rfl) (by exact emp_own EAB.out (by omega)) (some ⟨bu, 0, none⟩) TA.length ct (cellsT (toT TA)) (by rfl) (fun ex => by cases ex) TL.out (SR1.out _ (Below.drew BAB.out)) OA.out (by unfold maxLen; omega) (by omega) (by exact BAB.out.size) ?_
       intro a6 c6 w6 ox hgx hax
       rw [Nat.zero_add, List.nil_append] at ox
       rw [ob_slice] at hgx hax
       have B6 : Hid (Below wj.heap.size wj w6) := (Below.drew BAB.out).grown hgx BAB.out.size (fun j hj => by have e' : wj.heap.size = j := Option.some.inj hj; omega)
       have O6 : Hid (w6.ownsRow wj.heap.size 57 2 (.slice a6 TA.length c6) TA.length (cellsT (toT TA))) := ox
       have s6 : VAB.heap.size ≤ w6.heap.size := hgx.size
       have X6 : Hid (Box w6 VA.heap.size 57 #[.int .i64 (m : Int), .int .i64 vl]) := Box.grown (show Box VAB.drew VA.heap.size 57 #[.int .i64 (m : Int), .int .i64 vl] from XAB.out) hgx (fun e => by have e' : wj.heap.size = VA.heap.size := Option.some.inj e; omega)
       clear ox hgx hax)
    | (refine step_app_any _ (by rfl) (.tmp 126) (.tmp 129) 31 (by rfl) wj.heap.size 57 j0 (.agg #[.int .i64 0, .int .i64 0]) 2 16 Try.underlying31 hj0.out jz0.out jz1.out jz2.out rfl (by omega) (.slice (some ⟨VB.heap.size, 0, none⟩) 0 0) 0 [] (by rfl) (by exact emp_own EBA.out (by omega)) (some ⟨bu, 0, none⟩) TA.length ct (cellsT (toT TA)) (by rfl) (fun ex => by cases ex) TL.out (SR1.out _ (Below.drew BBA.out)) OA.out (by unfold maxLen; omega) (by omega) (by exact BBA.out.size) ?_
       intro a6 c6 w6 ox hgx hax
       rw [Nat.zero_add, List.nil_append] at ox
       rw [ob_slice] at hgx hax
       have B6 : Hid (Below wj.heap.size wj w6) := (Below.drew BBA.out).grown hgx BBA.out.size (fun j hj => by have e' : VB.heap.size = j := Option.some.inj hj; omega)
       have O6 : Hid (w6.ownsRow wj.heap.size 57 2 (.slice a6 TA.length c6) TA.length (cellsT (toT TA))) := ox
       have s6 : VBA.heap.size ≤ w6.heap.size := hgx.size
       have X6 : Hid (Box w6 wj.heap.size 57 #[.int .i64 (m : Int), .int .i64 vl]) := Box.grown (show Box VBA.drew wj.heap.size 57 #[.int .i64 (m : Int), .int .i64 vl] from XBA.out) hgx (fun e => by have e' : VB.heap.size = wj.heap.size := Option.some.inj e; omega)
       clear ox hgx hax)
    | (refine step_app_any _ (by rfl) (.tmp 130) (.tmp 136) 31 (by rfl) wj.heap.size 57 j0 (.agg #[.int .i64 0, .int .i64 0]) 2 16 Try.underlying31 hj0.out jz0.out jz1.out jz2.out rfl (by omega) (.slice a6 TA.length c6) TA.length (cellsT (toT TA)) (by rfl) (by exact O6.out) (some ⟨VA.heap.size, 0, none⟩) 1 1 (cT ⟨(m : Int), vl⟩) (by rfl) (fun ex => by cases ex) rfl (by exact box_newsT X6.out) (cT_one _) (by unfold maxLen; omega) (by omega) (by exact B6.out.size) ?_
       intro a7 c7 w7 ox hgx hax
       rw [ob_slice] at hgx hax
       have B7 : Hid (Below wj.heap.size wj w7) := B6.out.grown hgx B6.out.size (fun j hj => by obtain ⟨aa, cc, ee, hh⟩ := own_slc O6.out; simp only [Value.slice.injEq] at ee; rw [ee.1] at hj; exact (hh j hj).1)
       have O7 : Hid (w7.ownsRow wj.heap.size 57 2 (.slice a7 (TA.length + 1) c7) (TA.length + 1) ((cellsT (toT TA)) ++ cT ⟨(m : Int), vl⟩)) := ox
       have s7 : w6.heap.size ≤ w7.heap.size := hgx.size
       clear ox hgx hax)
    | (refine step_app_any _ (by rfl) (.tmp 130) (.tmp 136) 31 (by rfl) wj.heap.size 57 j0 (.agg #[.int .i64 0, .int .i64 0]) 2 16 Try.underlying31 hj0.out jz0.out jz1.out jz2.out rfl (by omega) (.slice a6 TA.length c6) TA.length (cellsT (toT TA)) (by rfl) (by exact O6.out) (some ⟨wj.heap.size, 0, none⟩) 1 1 (cT ⟨(m : Int), vl⟩) (by rfl) (fun ex => by cases ex) rfl (by exact box_newsT X6.out) (cT_one _) (by unfold maxLen; omega) (by omega) (by exact B6.out.size) ?_
       intro a7 c7 w7 ox hgx hax
       rw [ob_slice] at hgx hax
       have B7 : Hid (Below wj.heap.size wj w7) := B6.out.grown hgx B6.out.size (fun j hj => by obtain ⟨aa, cc, ee, hh⟩ := own_slc O6.out; simp only [Value.slice.injEq] at ee; rw [ee.1] at hj; exact (hh j hj).1)
       have O7 : Hid (w7.ownsRow wj.heap.size 57 2 (.slice a7 (TA.length + 1) c7) (TA.length + 1) ((cellsT (toT TA)) ++ cT ⟨(m : Int), vl⟩)) := ox
       have s7 : w6.heap.size ≤ w7.heap.size := hgx.size
       clear ox hgx hax)
    | (refine step_app_any _ (by rfl) (.tmp 130) (.tmp 136) 31 (by rfl) wj.heap.size 57 j0 (.agg #[.int .i64 0, .int .i64 0]) 2 16 Try.underlying31 hj0.out jz0.out jz1.out jz2.out rfl (by omega) (.slice a6 TA.length c6) TA.length (cellsT (toT TA)) (by rfl) (by exact ON.out) (some ⟨w6.heap.size, 0, none⟩) 1 1 (cT ⟨(m : Int), vl⟩) (by rfl) (fun ex => by cases ex) rfl (by exact box_newsT XN.out) (cT_one _) (by unfold maxLen; omega) (by omega) (by exact BN.out.size) ?_
       intro a7 c7 w7 ox hgx hax
       rw [ob_slice] at hgx hax
       have B7 : Hid (Below wj.heap.size wj w7) := BN.out.grown hgx BN.out.size (fun j hj => by obtain ⟨aa, cc, ee, hh⟩ := own_slc ON.out; simp only [Value.slice.injEq] at ee; rw [ee.1] at hj; exact (hh j hj).1)
       have O7 : Hid (w7.ownsRow wj.heap.size 57 2 (.slice a7 (TA.length + 1) c7) (TA.length + 1) ((cellsT (toT TA)) ++ cT ⟨(m : Int), vl⟩)) := ox
       have s7 : w6n.heap.size ≤ w7.heap.size := hgx.size
       clear ox hgx hax)
    | (refine step_app_any _ (by rfl) (.tmp 137) (.tmp 140) 31 (by rfl) wj.heap.size 57 j0 (.agg #[.int .i64 0, .int .i64 0]) 2 16 Try.underlying31 hj0.out jz0.out jz1.out jz2.out rfl (by omega) (.slice a7 (TA.length + 1) c7) (TA.length + 1) ((cellsT (toT TA)) ++ cT ⟨(m : Int), vl⟩) (by rfl) (by exact O7.out) (some ⟨bu, TA.length * 2, none⟩) (XT.length - TA.length) _ (cellsT (toT TB)) (by rfl) (fun ex => by cases ex) (by rw [DL.out]; omega) (fun ad ex => by cases ex; exact SR2.out _ B7.out) OB.out (by unfold maxLen; omega) (by omega) (by exact B7.out.size) ?_
       intro a8 c8 w8 ox hgx hax
       rw [ob_slice] at hgx hax
       have B8 : Hid (Below wj.heap.size wj w8) := B7.out.grown hgx B7.out.size (fun j hj => by obtain ⟨aa, cc, ee, hh⟩ := own_slc O7.out; simp only [Value.slice.injEq] at ee; rw [ee.1] at hj; exact (hh j hj).1)
       have O8 : Hid (w8.ownsRow wj.heap.size 57 2 (.slice a8 (TA.length + 1 + (XT.length - TA.length)) c8) (TA.length + 1 + (XT.length - TA.length)) ((cellsT (toT TA)) ++ cT ⟨(m : Int), vl⟩ ++ (cellsT (toT TB)))) := ox
       clear ox hgx hax)
    )
  all_goals
    have LL : TA.length + 1 + (XT.length - TA.length) = TX'.length := by have := congrArg List.length T2'; rw [List.length_append, List.length_append, List.length_singleton] at this; omega
    have OT8 : Hid (w8.ownsRow w.heap.size 57 2 (.slice a8 TX'.length c8) TX'.length (cellsT (toT TX'))) := by
      unfold Hid
      rw [← LL]
      have e : cellsT (toT TX') = (cellsT (toT TA)) ++ cT ⟨(m : Int), vl⟩ ++ (cellsT (toT TB)) := by rw [T2', toT_cut, toT_one, ← List.append_assoc]
      rw [e]
      exact World.ownsRow.down O8.out BXj.out.size
    have OD8 : Hid (w8.ownsRow w.heap.size 54 2 (.slice (some ⟨bd, 0, none⟩) XD.length cd) XD.length (cellsD (toD XD))) := own_below ODj.out B8.out
    have N8 : Hid (Box w8 wo.heap.size 43 #[.int .i64 ve, .int .i64 vl, .int .i64 (m : Int), .int .i64 vk, .int .i64 vp, .int .i64 vn, .int .i64 (pg : Int), .int .i64 vz, .string vb, .string va]) := NJ.out.belowS B8.out
    have BX8 : Hid (Below w.heap.size w w8) := BXj.out.trans (B8.out.mono BXj.out.size)
    clear O8 B8
    go_wp2
    go_meet
    case rel => exact ⟨a8, c8, congrArg (fun x => Value.slice a8 x c8) LL, OT8, OD8, N8, BX8⟩

end Go.Proofs.Ytimdoaehlciecaa
