/-
  l08Analyze, parts: a page put in, the list grown.
-/
import Derived.Test.YtimdoaehlciecaaAhA
import Derived.Deep.RegionHeld3
import Derived.Deep.QuietTactic
import Derived.BigQuiet
import Derived.Deep.RegionLaw
import Derived.Deep.RegionWith
import Derived.Deep.AppendLies
import Derived.Deep.RegionLawGrows
import Derived.Deep.CutBlock
import Derived.Deep.CutRange
namespace Go.Proofs.Ytimdoaehlciecaa
open Go Go.RowKit
attribute [local go_sem ↓] Go.wp_at_zero Go.wp_at_succ

set_option linter.unusedVariables false
set_option linter.unusedSimpArgs false
set_option maxRecDepth 100000 in
set_option maxHeartbeats 60000000 in
theorem c_specAn_p1_p6 : c_specAn_p1_1.2.2.2.2.2.2.1 := by
  unfold c_specAn_p1_1
  dsimp only
  intro cap L w HOK HS i0 j0 hi0 hz0 hz1 hz2 hj0 jz0 jz1 jz2 V1 V2 zz2 zz3 u8 u9 u10 u11 u12 u19 u20 u21 u22 u23 u24 u25 u26 u27 u28 u29 u30 u31 u32 u33 u34 u35 u36 u37 u38 u39 u40 u41 u42 u43 u44 u45 u46 u47 u48 u49 u50 u51 u52 u53 u54 u55 u56 u57 u58 u59 u60 u61 u62 u63 u64 u65 u66 u67 u68 u69 u70 u71 u72 u73 u74 u75 u76 u77 u78 u79 u80 u81 u82 u83 u84 k q ad yy1 yy2 yy3 hq HN hn hl zz5 zz7 zz8 wo u14 u15 u16 u86 u87 u88 u89 u90 u91 u92 u93 u94 u95 yy4 yy5 yy6 yy7 yy8 yy9 yy10 yy11 yy12 yy13 yy14 yy15 yy16 yy17 yy18 yy19 yy20 yy21 yy22 yy23 yy24 yy25 yy26 yy27 yy28 yy29 yy30 yy31 yy32 yy33 yy34 yy35 yy36 yy37 yy38 yy39 yy40 yy41 yy42 yy43 yy44 yy45 yy46 yy47 yy48 yy49 yy50 yy51 yy52 yy53 yy54 yy55 yy56 yy57 yy58 yy59 yy60 yy61 yy62 yy63 yy64 yy65 yy66 yy67 yy68 yy69 yy70 yy71 yy72 yy73 yy74 yy75 yy76 yy77 yy78 yy79 yy80 yy81 yy82 yy83 yy84 u177 yy85 yy86 yy87 yy88 yy89 yy90 yy91 yy92 yy93 yy94 yy95 yy96 yy97 yy98 yy99 yy100 yy101 yy102 yy103 yy104 yy105 yy106 yy107 yy108 yy109 yy110 yy111 yy112 yy113 u207 u208 u209 u210 u211 u212 u213 u214 u215 u216 u217 u218 u219 u220 u221 u222 u223 p at' cd ct hqp hpk hlt b off hbl RL zz6 ve vl vk vp vn vz vb va hl1 m pg hm60 hp8 G XT lXT XD lXD TA TB DA DB sv gv TX' DX' AT2 bt bd hct hcd g1 g2 W LW yy115 yy116 wi u96 u97 u98 u99 u100 u101 u102 u103 u104 u105 u106 u107 u108 u109 u110 u111 wj u112 u113 u114 u115 u116 u117 u118 u119 u120 u121 u122 u123 u124 u125 NJ OTj ODj BXj low th w2 u126 u127 u128 u129 u130 u131 u132 u133 u134 u135 u136 u137 u138 u139 u140 u141 u142 u143 u144 u145 u146 u147 u148 u149 u150 u151 u152 u153 u154 u155 u156 u157 u158 u159 u160 u161 u162 u163 u164 u165 u166 u167 u168 u169 at2 ct2 u170 u171 u172 u173 u174 u175 u176 yy117 yy118 w3 u178 u179 u180 u181 u182 u183 u184 u185 u186 u187 u188 u189 u190 u191 u192 u193 yy119 yy120 hwj w4 u194 u195 u196 u197 u198 u199 u200 u201 u202 u203 u204 u205 u206 N_w4 OT_w4 OD_w4 BX_w4 y0 y1 y2 y3 y4 y5 y6 y7 y8 y9 hs D2' HX LX1 LX2 g5 g6 g7 hcc HNC
  obtain ⟨VA, hVA⟩ : ∃ W, w4.alloc (.cells #[] 54) = W := ⟨_, rfl⟩
  have bVA : Below w4.heap.size w4 VA := by rw [← hVA]; exact (Below.refl _ _).alloc (Nat.le_refl _) _
  have EA : Hid (Box VA w4.heap.size 54 #[]) := by unfold Hid; rw [← hVA]; exact Box.new _ _ _
  have lA : w4.heap.size < VA.heap.size := EA.out.lt
  obtain ⟨VAB, hVAB⟩ : ∃ W, VA.alloc (.cells #[.int .i64 (pg : Int), .int .i64 vl] 54) = W := ⟨_, rfl⟩
  have bVAB : Below VA.heap.size VA VAB := by rw [← hVAB]; exact (Below.refl _ _).alloc (Nat.le_refl _) _
  have EAB : Hid (Box VAB w4.heap.size 54 #[]) := EA.out.belowS bVAB
  have XAB : Hid (Box VAB VA.heap.size 54 #[.int .i64 (pg : Int), .int .i64 vl]) := by unfold Hid; rw [← hVAB]; exact Box.new _ _ _
  have lAB : VA.heap.size < VAB.heap.size := XAB.out.lt
  obtain ⟨VB, hVB⟩ : ∃ W, w4.alloc (.cells #[.int .i64 (pg : Int), .int .i64 vl] 54) = W := ⟨_, rfl⟩
  have bVB : Below w4.heap.size w4 VB := by rw [← hVB]; exact (Below.refl _ _).alloc (Nat.le_refl _) _
  have XB : Hid (Box VB w4.heap.size 54 #[.int .i64 (pg : Int), .int .i64 vl]) := by unfold Hid; rw [← hVB]; exact Box.new _ _ _
  have lB : w4.heap.size < VB.heap.size := XB.out.lt
  obtain ⟨VBA, hVBA⟩ : ∃ W, VB.alloc (.cells #[] 54) = W := ⟨_, rfl⟩
  have bVBA : Below VB.heap.size VB VBA := by rw [← hVBA]; exact (Below.refl _ _).alloc (Nat.le_refl _) _
  have EBA : Hid (Box VBA VB.heap.size 54 #[]) := by unfold Hid; rw [← hVBA]; exact Box.new _ _ _
  have XBA : Hid (Box VBA w4.heap.size 54 #[.int .i64 (pg : Int), .int .i64 vl]) := XB.out.belowS bVBA
  have lBA : VB.heap.size < VBA.heap.size := EBA.out.lt
  have BA : Hid (Below w4.heap.size w4 VA) := bVA
  have BAB : Hid (Below w4.heap.size w4 VAB) := bVA.trans (bVAB.mono bVA.size)
  have BBA : Hid (Below w4.heap.size w4 VBA) := bVB.trans (bVBA.mono bVB.size)
  clear bVA bVAB bVB bVBA
  have ea1 := far6 BA.out y6
  have ea2 := far6 BA.out y1
  have SR1 : Hid (∀ W, Below w4.heap.size w4 W → ∀ ad : Addr, (some ⟨bd, 0, none⟩ : Option Addr) = some ad → ∀ j u, (cellsD (toD DA))[j]? = some u → W.cell? (ad.add j) = some u) := fun W hW ad ex => by cases ex; exact own_srk (own_below OD_w4.out hW) (us := []) (vs := (cellsD (toD DA))) (ws := (cellsD (toD DB))) (by rw [HX.out, toD_cut]; rfl) (by rw [cellsD_pr]; omega)
  have SR2 : Hid (∀ W, Below w4.heap.size w4 W → ∀ j u, (cellsD (toD DB))[j]? = some u → W.cell? ((⟨bd, DA.length * 2, none⟩ : Addr).add j) = some u) := fun W hW => by
    have := own_srk (own_below OD_w4.out hW) (us := (cellsD (toD DA))) (vs := (cellsD (toD DB))) (ws := []) (by rw [HX.out, toD_cut, List.append_nil]; rfl) (by rw [cellsD_pr]; omega)
    rwa [cellsD_pr] at this
  have TL : Hid ((cellsD (toD DA)).length = DA.length * 2) := cellsD_pr _
  have DL : Hid ((cellsD (toD DB)).length = DB.length * 2) := cellsD_pr _
  have OA : Hid (∀ u ∈ (cellsD (toD DA)), u.oneCell' = true) := cellsD_one _
  have OB : Hid (∀ u ∈ (cellsD (toD DB)), u.oneCell' = true) := cellsD_one _
  go_wp2_with fail
  go_region_law (first
    | (refine step_app_any _ (by rfl) (.tmp 208) (.tmp 211) 30 (by rfl) w4.heap.size 54 i0 (.agg #[.int .i64 0, .int .i64 0]) 2 16 Try.underlying30 hi0.out hz0.out hz1.out hz2.out rfl (by omega) (.slice (some ⟨w4.heap.size, 0, none⟩) 0 0) 0 [] (by rfl) (by exact emp_own EA.out (by omega)) (some ⟨bd, 0, none⟩) DA.length cd (cellsD (toD DA)) (by rfl) (fun ex => by cases ex) TL.out (SR1.out _ (Below.drew BA.out)) OA.out (by unfold maxLen; omega) (by omega) (by exact BA.out.size) ?_
       intro a6 c6 w6 ox hgx hax
       rw [Nat.zero_add, List.nil_append] at ox
       rw [ob_slice] at hgx hax
       have B6 : Hid (Below w4.heap.size w4 w6) := (Below.drew BA.out).grown hgx BA.out.size (fun j hj => by have e' : w4.heap.size = j := Option.some.inj hj; omega)
       have O6 : Hid (w6.ownsRow w4.heap.size 54 2 (.slice a6 DA.length c6) DA.length (cellsD (toD DA))) := ox
       have s6 : VA.heap.size ≤ w6.heap.size := hgx.size
       clear ox hgx hax
       have ew1 := far6 B6.out y6
       have ew2 := far6 B6.out y1
       obtain ⟨w6n, hw6n⟩ : ∃ Q, w6.alloc (.cells #[.int .i64 (pg : Int), .int .i64 vl] 54) = Q := ⟨_, rfl⟩
       have hbn : Below w6.heap.size w6 w6n := by rw [← hw6n]; exact (Below.refl _ _).alloc (Nat.le_refl _) _
       have XN : Hid (Box w6n w6.heap.size 54 #[.int .i64 (pg : Int), .int .i64 vl]) := by unfold Hid; rw [← hw6n]; exact Box.new _ _ _
       have BN : Hid (Below w4.heap.size w4 w6n) := B6.out.trans (hbn.mono B6.out.size)
       have ON : Hid (w6n.ownsRow w4.heap.size 54 2 (.slice a6 DA.length c6) DA.length (cellsD (toD DA))) := own_below O6.out hbn
       have sN : w6.heap.size < w6n.heap.size := XN.out.lt
       clear hbn)
    | (refine step_app_any _ (by rfl) (.tmp 208) (.tmp 211) 30 (by rfl) w4.heap.size 54 i0 (.agg #[.int .i64 0, .int .i64 0]) 2 16 Try.underlying30 hi0.out hz0.out hz1.out hz2.out rfl (by omega) (.slice (some ⟨w4.heap.size, 0, none⟩) 0 0) 0 [] (by rfl) (by exact emp_own EAB.out (by omega)) (some ⟨bd, 0, none⟩) DA.length cd (cellsD (toD DA)) (by rfl) (fun ex => by cases ex) TL.out (SR1.out _ (Below.drew BAB.out)) OA.out (by unfold maxLen; omega) (by omega) (by exact BAB.out.size) ?_
       intro a6 c6 w6 ox hgx hax
       rw [Nat.zero_add, List.nil_append] at ox
       rw [ob_slice] at hgx hax
       have B6 : Hid (Below w4.heap.size w4 w6) := (Below.drew BAB.out).grown hgx BAB.out.size (fun j hj => by have e' : w4.heap.size = j := Option.some.inj hj; omega)
       have O6 : Hid (w6.ownsRow w4.heap.size 54 2 (.slice a6 DA.length c6) DA.length (cellsD (toD DA))) := ox
       have s6 : VAB.heap.size ≤ w6.heap.size := hgx.size
       have X6 : Hid (Box w6 VA.heap.size 54 #[.int .i64 (pg : Int), .int .i64 vl]) := Box.grown (show Box VAB.drew VA.heap.size 54 #[.int .i64 (pg : Int), .int .i64 vl] from XAB.out) hgx (fun e => by have e' : w4.heap.size = VA.heap.size := Option.some.inj e; omega)
       clear ox hgx hax)
    | (refine step_app_any _ (by rfl) (.tmp 208) (.tmp 211) 30 (by rfl) w4.heap.size 54 i0 (.agg #[.int .i64 0, .int .i64 0]) 2 16 Try.underlying30 hi0.out hz0.out hz1.out hz2.out rfl (by omega) (.slice (some ⟨VB.heap.size, 0, none⟩) 0 0) 0 [] (by rfl) (by exact emp_own EBA.out (by omega)) (some ⟨bd, 0, none⟩) DA.length cd (cellsD (toD DA)) (by rfl) (fun ex => by cases ex) TL.out (SR1.out _ (Below.drew BBA.out)) OA.out (by unfold maxLen; omega) (by omega) (by exact BBA.out.size) ?_
       intro a6 c6 w6 ox hgx hax
       rw [Nat.zero_add, List.nil_append] at ox
       rw [ob_slice] at hgx hax
       have B6 : Hid (Below w4.heap.size w4 w6) := (Below.drew BBA.out).grown hgx BBA.out.size (fun j hj => by have e' : VB.heap.size = j := Option.some.inj hj; omega)
       have O6 : Hid (w6.ownsRow w4.heap.size 54 2 (.slice a6 DA.length c6) DA.length (cellsD (toD DA))) := ox
       have s6 : VBA.heap.size ≤ w6.heap.size := hgx.size
       have X6 : Hid (Box w6 w4.heap.size 54 #[.int .i64 (pg : Int), .int .i64 vl]) := Box.grown (show Box VBA.drew w4.heap.size 54 #[.int .i64 (pg : Int), .int .i64 vl] from XBA.out) hgx (fun e => by have e' : VB.heap.size = w4.heap.size := Option.some.inj e; omega)
       clear ox hgx hax)
    | (refine step_app_any _ (by rfl) (.tmp 212) (.tmp 218) 30 (by rfl) w4.heap.size 54 i0 (.agg #[.int .i64 0, .int .i64 0]) 2 16 Try.underlying30 hi0.out hz0.out hz1.out hz2.out rfl (by omega) (.slice a6 DA.length c6) DA.length (cellsD (toD DA)) (by rfl) (by exact O6.out) (some ⟨VA.heap.size, 0, none⟩) 1 1 (cD ⟨(pg : Int), vl⟩) (by rfl) (fun ex => by cases ex) rfl (by exact box_newsD X6.out) (cD_one _) (by unfold maxLen; omega) (by omega) (by exact B6.out.size) ?_
       intro a7 c7 w7 ox hgx hax
       rw [ob_slice] at hgx hax
       have B7 : Hid (Below w4.heap.size w4 w7) := B6.out.grown hgx B6.out.size (fun j hj => by obtain ⟨aa, cc, ee, hh⟩ := own_slc O6.out; simp only [Value.slice.injEq] at ee; rw [ee.1] at hj; exact (hh j hj).1)
       have O7 : Hid (w7.ownsRow w4.heap.size 54 2 (.slice a7 (DA.length + 1) c7) (DA.length + 1) ((cellsD (toD DA)) ++ cD ⟨(pg : Int), vl⟩)) := ox
       have s7 : w6.heap.size ≤ w7.heap.size := hgx.size
       clear ox hgx hax)
    | (refine step_app_any _ (by rfl) (.tmp 212) (.tmp 218) 30 (by rfl) w4.heap.size 54 i0 (.agg #[.int .i64 0, .int .i64 0]) 2 16 Try.underlying30 hi0.out hz0.out hz1.out hz2.out rfl (by omega) (.slice a6 DA.length c6) DA.length (cellsD (toD DA)) (by rfl) (by exact O6.out) (some ⟨w4.heap.size, 0, none⟩) 1 1 (cD ⟨(pg : Int), vl⟩) (by rfl) (fun ex => by cases ex) rfl (by exact box_newsD X6.out) (cD_one _) (by unfold maxLen; omega) (by omega) (by exact B6.out.size) ?_
       intro a7 c7 w7 ox hgx hax
       rw [ob_slice] at hgx hax
       have B7 : Hid (Below w4.heap.size w4 w7) := B6.out.grown hgx B6.out.size (fun j hj => by obtain ⟨aa, cc, ee, hh⟩ := own_slc O6.out; simp only [Value.slice.injEq] at ee; rw [ee.1] at hj; exact (hh j hj).1)
       have O7 : Hid (w7.ownsRow w4.heap.size 54 2 (.slice a7 (DA.length + 1) c7) (DA.length + 1) ((cellsD (toD DA)) ++ cD ⟨(pg : Int), vl⟩)) := ox
       have s7 : w6.heap.size ≤ w7.heap.size := hgx.size
       clear ox hgx hax)
    | (refine step_app_any _ (by rfl) (.tmp 212) (.tmp 218) 30 (by rfl) w4.heap.size 54 i0 (.agg #[.int .i64 0, .int .i64 0]) 2 16 Try.underlying30 hi0.out hz0.out hz1.out hz2.out rfl (by omega) (.slice a6 DA.length c6) DA.length (cellsD (toD DA)) (by rfl) (by exact ON.out) (some ⟨w6.heap.size, 0, none⟩) 1 1 (cD ⟨(pg : Int), vl⟩) (by rfl) (fun ex => by cases ex) rfl (by exact box_newsD XN.out) (cD_one _) (by unfold maxLen; omega) (by omega) (by exact BN.out.size) ?_
       intro a7 c7 w7 ox hgx hax
       rw [ob_slice] at hgx hax
       have B7 : Hid (Below w4.heap.size w4 w7) := BN.out.grown hgx BN.out.size (fun j hj => by obtain ⟨aa, cc, ee, hh⟩ := own_slc ON.out; simp only [Value.slice.injEq] at ee; rw [ee.1] at hj; exact (hh j hj).1)
       have O7 : Hid (w7.ownsRow w4.heap.size 54 2 (.slice a7 (DA.length + 1) c7) (DA.length + 1) ((cellsD (toD DA)) ++ cD ⟨(pg : Int), vl⟩)) := ox
       have s7 : w6n.heap.size ≤ w7.heap.size := hgx.size
       clear ox hgx hax)
    | (refine step_app_any _ (by rfl) (.tmp 219) (.tmp 222) 30 (by rfl) w4.heap.size 54 i0 (.agg #[.int .i64 0, .int .i64 0]) 2 16 Try.underlying30 hi0.out hz0.out hz1.out hz2.out rfl (by omega) (.slice a7 (DA.length + 1) c7) (DA.length + 1) ((cellsD (toD DA)) ++ cD ⟨(pg : Int), vl⟩) (by rfl) (by exact O7.out) (some ⟨bd, DA.length * 2, none⟩) (XD.length - DA.length) _ (cellsD (toD DB)) (by rfl) (fun ex => by cases ex) (by rw [DL.out]; omega) (fun ad ex => by cases ex; exact SR2.out _ B7.out) OB.out (by unfold maxLen; omega) (by omega) (by exact B7.out.size) ?_
       intro a8 c8 w8 ox hgx hax
       rw [ob_slice] at hgx hax
       have B8 : Hid (Below w4.heap.size w4 w8) := B7.out.grown hgx B7.out.size (fun j hj => by obtain ⟨aa, cc, ee, hh⟩ := own_slc O7.out; simp only [Value.slice.injEq] at ee; rw [ee.1] at hj; exact (hh j hj).1)
       have O8 : Hid (w8.ownsRow w4.heap.size 54 2 (.slice a8 (DA.length + 1 + (XD.length - DA.length)) c8) (DA.length + 1 + (XD.length - DA.length)) ((cellsD (toD DA)) ++ cD ⟨(pg : Int), vl⟩ ++ (cellsD (toD DB)))) := ox
       clear ox hgx hax)
    )
  all_goals
    have LL : DA.length + 1 + (XD.length - DA.length) = DX'.length := by have := congrArg List.length D2'; rw [List.length_append, List.length_append, List.length_singleton] at this; omega
    have OD8 : Hid (w8.ownsRow w.heap.size 54 2 (.slice a8 DX'.length c8) DX'.length (cellsD (toD DX'))) := by
      unfold Hid
      rw [← LL]
      have e : cellsD (toD DX') = (cellsD (toD DA)) ++ cD ⟨(pg : Int), vl⟩ ++ (cellsD (toD DB)) := by rw [D2', toD_cut, toD_one, ← List.append_assoc]
      rw [e]
      exact World.ownsRow.down O8.out BX_w4.out.size
    have FI : Hid (a8.isSome = true) := by
      rcases own_form O8.out with ⟨_, h0⟩ | ⟨gg, cc, h1, _⟩
      · omega
      · simp only [Value.slice.injEq] at h1; rw [h1.1]; rfl
    have OT8 : Hid (w8.ownsRow w.heap.size 57 2 (.slice at2 TX'.length ct2) TX'.length (cellsT (toT TX'))) := own_below OT_w4.out B8.out
    have BX_w8 : Hid (Below w.heap.size w w8) := BX_w4.out.trans (B8.out.mono BX_w4.out.size)
    have FD : Hid (w8.ownsRow w.heap.size 54 2 (.slice a8 (drS (anR (L.take (p + 1)))).length c8) (drS (anR (L.take (p + 1)))).length (cellsD (toD (drS (anR (L.take (p + 1))))))) := by unfold Hid; rw [AT2.out.2]; exact OD8.out
    have FT : Hid (w8.ownsRow w.heap.size 57 2 (.slice at2 (txS (anR (L.take (p + 1)))).length ct2) (txS (anR (L.take (p + 1)))).length (cellsT (toT (txS (anR (L.take (p + 1))))))) := by unfold Hid; rw [AT2.out.1]; exact OT8.out
    have HLL : Hid (DA.length + 1 + (XD.length - DA.length) = DX'.length) := LL
    clear O8 B8 LL
    go_wp2
    go_roundw
    case rel => exact ⟨p + 1, a8, at2, c8, ct2, by omega, by omega, by go_num, by rw [AT2.out.2]; exact congrArg (fun x => Value.slice a8 x c8) HLL.out, by rw [AT2.out.1], FD, FT, FI, BX_w8⟩
    case measure => simp [intOf]; omega

end Go.Proofs.Ytimdoaehlciecaa
