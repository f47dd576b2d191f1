/-
  The program's copy of a store.
-/
import Derived.Test.YtkpopingbbaomaaGreatDoorZzau
import Derived.Test.YtkpopingbbaomaaGreatDoorZzav
import Derived.Deep.DeepCutAuto
import Derived.Deep.CutRange
namespace Go.Proofs.YtkpopingbbaomaaGreatDoor
open Go Go.RowKit
attribute [local go_sem ↓] Go.wp_at_zero Go.wp_at_succ

theorem OwnT.wide {w : World} {B E B' E' : Nat} {h : HD} {D : DD} {la : Option Addr} {ln lc : Nat} {Lg : List DR} {fa : Option Addr} {fn fc : Nat} {F : List FF} (o : OwnT w B E h D la ln lc Lg fa fn fc F) (hb : B' ≤ B) (he : E ≤ E' ∧ E' ≤ w.heap.size) : OwnT w B' E' h D la ln lc Lg fa fn fc F := by
  obtain ⟨d0, d1, l0, l1, f0, f1, p1, hh, o1, o2, o3, o4, o5⟩ := o
  exact ⟨d0, d1, l0, l1, f0, f1, p1, by omega, o1, o2, o3, o4, o5⟩
theorem setF_pg {L : List Value} {o : Nat} {v : FF} (h0 : L[o]? = some (.int .i64 v.no)) (h3 : L[o + 3]? = some (.bool v.d)) (h4 : L[o + 4]? = some (.int .i64 v.fi)) : setF L o v = (L.set (o + 1) (.int .i64 v.h.l)).set (o + 2) (.slice v.h.a v.h.n v.h.c) := by
  unfold setF
  rw [set_same h0]
  rw [set_same (L := (L.set (o + 1) (.int .i64 v.h.l)).set (o + 2) (.slice v.h.a v.h.n v.h.c)) (by rw [List.getElem?_set_ne (by omega), List.getElem?_set_ne (by omega)]; exact h3)]
  rw [set_same (L := (L.set (o + 1) (.int .i64 v.h.l)).set (o + 2) (.slice v.h.a v.h.n v.h.c)) (by rw [List.getElem?_set_ne (by omega), List.getElem?_set_ne (by omega)]; exact h4)]
theorem set_mid {α : Type} (A B : List α) (x : α) (k : Nat) (h : A.length = k) (hB : 0 < B.length) : (A ++ B).set k x = (A ++ [x]) ++ B.drop 1 := by
  subst h
  cases B with
  | nil => simp at hB
  | cons b B => rw [List.set_append_right _ _ (Nat.le_refl _)]; simp
theorem getD_mid (A B : List FF) (k : Nat) (h : A.length = k) : (A ++ B).getD k zeroF = B.getD 0 zeroF := by
  subst h
  rw [List.getD_eq_getElem?_getD, List.getElem?_append_right (Nat.le_refl _), Nat.sub_self, List.getD_eq_getElem?_getD]
set_option maxRecDepth 100000 in
set_option maxHeartbeats 8000000 in
theorem c_copyStore (h : HD) (D : DD) (ep : Int) (la : Option Addr) (ln lc : Nat) (L : List DR) (su : Int) (fa : Option Addr) (fn fc : Nat) (F : List FF) (ha : Int) (w : World) (r : RdD w h D) (hk : HOK h) (rl : RdQ w la ln L) (hlk : la = none → lc = 0) (rf : RdF w fa fn F) (hfk : fa = none → fc = 0) (hpk : ∀ i, i < fn → G.SrcG (F.getD i zeroF).h) (hf : FitS D ln L fn F) :
    Calls Tryz.prog 99 #[.agg #[.slice h.a0 h.n0 h.c0, .slice h.a1 h.n1 h.c1, .bool h.b, .slice h.a2 h.n2 h.c2, .int .i64 ep, .slice la ln lc, .int .i64 su, .slice fa fn fc, .int .i64 ha]] w fun e w' => (∃ (h' : HD) (la' : Option Addr) (lc' : Nat) (fa' : Option Addr) (fc' : Nat) (gs : List FF), e = .returned (.agg #[.slice h'.a0 h'.n0 h'.c0, .slice h'.a1 h'.n1 h'.c1, .bool h'.b, .slice h'.a2 h'.n2 h'.c2, .int .i64 ep, .slice la' ln lc', .int .i64 su, .slice fa' fn fc', .int .i64 ha]) ∧ SameF F gs ∧ OwnT w' w.heap.size w'.heap.size h' D la' ln lc' L fa' fn fc' gs) ∧ Below w.heap.size w w' := by
  obtain ⟨V, hV⟩ : ∃ V, (w.alloc (.cells #[.slice h.a0 h.n0 h.c0, .slice h.a1 h.n1 h.c1, .bool h.b, .slice h.a2 h.n2 h.c2, .int .i64 ep, .slice la ln lc, .int .i64 su, .slice fa fn fc, .int .i64 ha] 46)).alloc (.cells #[.slice none 0 0, .slice none 0 0, .bool false, .slice none 0 0, .int .i64 0, .slice none 0 0, .int .i64 0, .slice none 0 0, .int .i64 0] 46) = V := ⟨_, rfl⟩
  have HB : Hid (Below w.heap.size w V) := by unfold Hid; rw [← hV]; exact ((Below.refl _ _).alloc (Nat.le_refl _) _).alloc (by simp) _
  have BX : Hid (Box V w.heap.size 46 #[.slice h.a0 h.n0 h.c0, .slice h.a1 h.n1 h.c1, .bool h.b, .slice h.a2 h.n2 h.c2, .int .i64 ep, .slice la ln lc, .int .i64 su, .slice fa fn fc, .int .i64 ha]) := by unfold Hid; rw [← hV]; exact (Box.new _ _ _).alloc _
  have BR : Hid (Box V (w.heap.size + 1) 46 #[.slice none 0 0, .slice none 0 0, .bool false, .slice none 0 0, .int .i64 0, .slice none 0 0, .int .i64 0, .slice none 0 0, .int .i64 0]) := by unfold Hid; rw [← hV]; exact Box.new2 _ _ _ _
  have C0 : Hid (∀ W, Below w.heap.size w W → Calls Tryz.prog 166 #[.agg #[.slice h.a0 h.n0 h.c0, .slice h.a1 h.n1 h.c1, .bool h.b, .slice h.a2 h.n2 h.c2]] W fun e w' => (∃ h' : HD, e = .returned (.agg #[.slice h'.a0 h'.n0 h'.c0, .slice h'.a1 h'.n1 h'.c1, .bool h'.b, .slice h'.a2 h'.n2 h'.c2]) ∧ OwnD w' W.heap.size w'.heap.size h' D) ∧ Below W.heap.size W w') := fun W hW => c_copyDisk h D W (r.below hW) hk hf.1
  have C1 : Hid (∀ W, Below w.heap.size w W → Calls Tryz.prog 183 #[.slice la ln lc] W fun e w' => (∃ a' c', e = .returned (.slice a' ln c') ∧ w'.ownsRow W.heap.size 78 10 (.slice a' ln c') ln (cellsQ L) ∧ ∀ g, ob a' = some g → W.heap.size ≤ g ∧ g < w'.heap.size) ∧ Below W.heap.size W w') := fun W hW => c_cpQ la ln lc L W (rl.below hW) hlk hf.2.1.1
  have C2 : Hid (∀ W, Below w.heap.size w W → Calls Tryz.prog 184 #[.slice fa fn fc] W fun e w' => (∃ a' c', e = .returned (.slice a' fn c') ∧ w'.ownsRow W.heap.size 142 5 (.slice a' fn c') fn (cellsF F) ∧ ∀ g, ob a' = some g → W.heap.size ≤ g ∧ g < w'.heap.size) ∧ Below W.heap.size W w') := fun W hW => c_cpF fa fn fc F W (rf.below hW) hfk hf.2.2.1
  have RF : Hid (RdF w fa fn F) := rf
  have HPK : Hid (∀ i, i < fn → G.SrcG (F.getD i zeroF).h) := hpk
  have HF : Hid (FitS D ln L fn F) := hf
  have HFL : Hid (F.length = fn) := rf.1
  clear r hk rl hlk rf hfk hpk hf
  obtain ⟨v0, v1, v2, v3, v4, v5, v6, v7, v8⟩ := box9 BX.out
  go_enter Tryz.func99, Tryz.ntmps99
  go_upto_region 1 with fail
  go_cut [] from 4 to 15 (fun wx => ∃ (h1 : HD) (l1 : Option Addr) (lc1 : Nat) (f1 : Option Addr) (fc1 : Nat) (q1 q2 : Nat), w.heap.size + 1 < q1 ∧ q1 ≤ q2 ∧ q2 ≤ wx.heap.size ∧ Hid (OwnD wx (w.heap.size + 2) q1 h1 D) ∧ Hid (wx.ownsRow q1 78 10 (.slice l1 ln lc1) ln (cellsQ L) ∧ ∀ g, ob l1 = some g → q1 ≤ g ∧ g < q2) ∧ Hid (wx.ownsRow q2 142 5 (.slice f1 fn fc1) fn (cellsF F) ∧ ∀ g, ob f1 = some g → q2 ≤ g ∧ g < wx.heap.size) ∧ Hid (Box wx w.heap.size 46 #[.slice h1.a0 h1.n0 h1.c0, .slice h1.a1 h1.n1 h1.c1, .bool h1.b, .slice h1.a2 h1.n2 h1.c2, .int .i64 ep, .slice l1 ln lc1, .int .i64 su, .slice f1 fn fc1, .int .i64 ha]) ∧ Hid (Box wx (w.heap.size + 1) 46 #[.slice none 0 0, .slice none 0 0, .bool false, .slice none 0 0, .int .i64 0, .slice none 0 0, .int .i64 0, .slice none 0 0, .int .i64 0]) ∧ Hid (Below w.heap.size w wx))
  case first =>
    · skip
      go_region_with (first
        | (go_at_call 166
           refine (C0.out _ ?_).mono ?_
           · first | exact below_drewN HB.out _ | exact HB.out.drew | exact HB.out
           rintro e w1 ⟨⟨h1, rfl, o1⟩, hb1⟩
           have u0 := far6 hb1 v0
           have u1 := far6 hb1 v1
           have u2 := far6 hb1 v2
           have u3 := far6 hb1 v3
           have u4 := far6 hb1 v4
           have u5 := far6 hb1 v5
           have u6 := far6 hb1 v6
           have u7 := far6 hb1 v7
           have u8 := far6 hb1 v8)
        | (go_at_call 183
           refine (C1.out _ ?_).mono ?_
           · exact HB.out.drew.trans (hb1.mono HB.out.size)
           rintro e w2 ⟨⟨l1, lc1, rfl, o2, g2⟩, hb2⟩
           have t0 := far6 hb2 u0
           have t1 := far6 hb2 u1
           have t2 := far6 hb2 u2
           have t3 := far6 hb2 u3
           have t4 := far6 hb2 u4
           have t5 := far6 hb2 u5
           have t6 := far6 hb2 u6
           have t7 := far6 hb2 u7
           have t8 := far6 hb2 u8)
        | (go_at_call 184
           refine (C2.out _ ?_).mono ?_
           · exact (HB.out.drew.trans (hb1.mono HB.out.size)).trans (hb2.mono (Nat.le_trans HB.out.size hb1.size))
           rintro e w3 ⟨⟨f1, fc1, rfl, o3, g3⟩, hb3⟩
           have x3 := ((BX.out.drewN 1).belowS hb1 |>.belowS hb2).belowS hb3
           obtain ⟨s0, s1, s2, s3, s4, s5, s6, s7, s8⟩ := box9 x3
           have z0 := x3.thaw 0
           have z1 := x3.thaw 1
           have z2 := x3.thaw 2
           have z3 := x3.thaw 3
           have z5 := x3.thaw 5
           have z7 := x3.thaw 7))
      all_goals
        have y3 := ((BR.out.drewN 1).belowS hb1 |>.belowS hb2).belowS hb3
        have L0 : w.heap.size + 1 < V.heap.size := BR.out.lt
        have L1 : V.heap.size ≤ w1.heap.size := hb1.size
        have L2 : w1.heap.size ≤ w2.heap.size := hb2.size
        have L3 : w2.heap.size ≤ w3.heap.size := hb3.size
        have HB3 : Below w.heap.size w w3 := ((HB.out.drew.trans (hb1.mono HB.out.size)).trans (hb2.mono (Nat.le_trans HB.out.size hb1.size))).trans (hb3.mono (by omega))
        have o1' : OwnD w1 V.heap.size w1.heap.size h1 D := o1
        have p1 : OwnD w3 V.heap.size w1.heap.size h1 D := (o1'.below hb2).below hb3
        have p2 : w3.ownsRow w1.heap.size 78 10 (.slice l1 ln lc1) ln (cellsQ L) := own_below o2 hb3
        obtain ⟨V3, hV3⟩ : ∃ V3, (((((w3.setCell ⟨w.heap.size, 0, none⟩ (.slice h1.a0 h1.n0 h1.c0)).setCell ⟨w.heap.size, 1, none⟩ (.slice h1.a1 h1.n1 h1.c1)).setCell ⟨w.heap.size, 2, none⟩ (.bool h1.b)).setCell ⟨w.heap.size, 3, none⟩ (.slice h1.a2 h1.n2 h1.c2)).setCell ⟨w.heap.size, 5, none⟩ (.slice l1 ln lc1)).setCell ⟨w.heap.size, 7, none⟩ (.slice f1 fn fc1) = V3 := ⟨_, rfl⟩
        have x4 := (((((x3.set 0 (.slice h1.a0 h1.n0 h1.c0)).set 1 (.slice h1.a1 h1.n1 h1.c1)).set 2 (.bool h1.b)).set 3 (.slice h1.a2 h1.n2 h1.c2)).set 5 (.slice l1 ln lc1)).set 7 (.slice f1 fn fc1)
        have K4 : ∀ g, g ≠ w.heap.size → V3.heap[g]? = w3.heap[g]? := fun g hg => by rw [← hV3, Below.heap_setCell _ _ _ _ hg, Below.heap_setCell _ _ _ _ hg, Below.heap_setCell _ _ _ _ hg, Below.heap_setCell _ _ _ _ hg, Below.heap_setCell _ _ _ _ hg, Below.heap_setCell _ _ _ _ hg]
        have S4 : V3.heap.size = w3.heap.size := by rw [← hV3]; simp
        have B4 : Hid (Below w.heap.size w V3) := by unfold Hid; rw [← hV3]; exact (((((HB3.setCell (Nat.le_refl _) _).setCell (Nat.le_refl _) _).setCell (Nat.le_refl _) _).setCell (Nat.le_refl _) _).setCell (Nat.le_refl _) _).setCell (Nat.le_refl _) _
        rw [hV3] at x4
        simp at x4
        have X4 : Hid (Box V3 w.heap.size 46 #[.slice h1.a0 h1.n0 h1.c0, .slice h1.a1 h1.n1 h1.c1, .bool h1.b, .slice h1.a2 h1.n2 h1.c2, .int .i64 ep, .slice l1 ln lc1, .int .i64 su, .slice f1 fn fc1, .int .i64 ha]) := x4
        have Y4 : Hid (Box V3 (w.heap.size + 1) 46 #[.slice none 0 0, .slice none 0 0, .bool false, .slice none 0 0, .int .i64 0, .slice none 0 0, .int .i64 0, .slice none 0 0, .int .i64 0]) := (K4 _ (by omega)).trans y3
        have P1 : Hid (OwnD V3 (w.heap.size + 2) w1.heap.size h1 D) := ((p1.same (w' := V3) (by omega) fun g h1 _ => K4 g (by omega)).from (by omega) (Nat.le_refl _) (by omega))
        have P2 : Hid (V3.ownsRow w1.heap.size 78 10 (.slice l1 ln lc1) ln (cellsQ L) ∧ ∀ g, ob l1 = some g → w1.heap.size ≤ g ∧ g < w2.heap.size) := ⟨own_same p2 fun g e => K4 g (by rw [ob_slice] at e; have := g2 g e; omega), g2⟩
        have P3 : Hid (V3.ownsRow w2.heap.size 142 5 (.slice f1 fn fc1) fn (cellsF F) ∧ ∀ g, ob f1 = some g → w2.heap.size ≤ g ∧ g < V3.heap.size) := ⟨own_same o3 fun g e => K4 g (by rw [ob_slice] at e; have := g3 g e; omega), fun g e => by have := g3 g e; omega⟩
        have M1 : w.heap.size + 1 < w1.heap.size ∧ w1.heap.size ≤ w2.heap.size ∧ w2.heap.size ≤ V3.heap.size := by omega
        rw [hV3]
        clear u0 t0 s0 v0 u1 t1 s1 v1 u2 t2 s2 v2 u3 t3 s3 v3 u4 t4 s4 v4 u5 t5 s5 v5 u6 t6 s6 v6 u7 t7 s7 v7 u8 t8 s8 v8 z0 z1 z2 z3 z5 z7 hb1 hb2 hb3 o1 o1' o2 o3 g2 g3 p1 p2 x3 x4 y3 HB3 K4 S4 L0 L1 L2 L3 C0 C1 C2 RF HPK HF HFL
        clear hV3
        go_wp2_with fail
        go_meet
        exact ⟨h1, l1, lc1, f1, fc1, w1.heap.size, w2.heap.size, M1.1, M1.2.1, M1.2.2, P1, P2, P3, X4, Y4, B4⟩
  case rest =>
    rename World => wx
    obtain ⟨h1, l1, lc1, f1, fc1, q1, q2, m1, m2, m3, P1, P2, P3, X4, Y4, B4⟩ := hcut
    clear C0 C1 C2 BX BR HB hV v0 v1 v2 v3 v4 v5 v6 v7 v8
    have hfn : fn ≤ 1048576 := HF.out.2.2.1
    have HP2 : Hid (∀ g, ob l1 = some g → q1 ≤ g ∧ g < q2) := P2.out.2
    have HP3 : Hid (∀ g, ob f1 = some g → q2 ≤ g ∧ g < wx.heap.size) := P3.out.2
    obtain ⟨x0, x1, x2, x3, x4, x5, x6, x7, x8⟩ := box9 X4.out
    go_wp2
    clear x0 x1 x2 x3 x4 x5 x6 x7 x8
    go_loopw [19] (fun i wr => ∃ (k : Nat) (gs : List FF), k ≤ fn ∧ i = .int .i64 k ∧ Hid (gs.length = k ∧ SameF (F.take k) gs) ∧ Hid (wr.ownsRow q2 142 5 (.slice f1 fn fc1) fn (cellsF (gs ++ F.drop k))) ∧ Hid (OwnF wr wx.heap.size wr.heap.size gs) ∧ Hid (PwF gs) ∧ Hid (∀ g, g < wx.heap.size → ob f1 ≠ some g → wr.heap[g]? = wx.heap[g]?) ∧ Hid (Below w.heap.size w wr) ∧ wx.heap.size ≤ wr.heap.size) (fun i _ => fn - (intOf i).toNat)
    case atStart => exact ⟨0, [], by omega, rfl, ⟨rfl, rfl⟩, P3.out.1, fun i h => absurd h (by simp), fun i j _ h => absurd h (by simp), fun g _ _ => rfl, B4, Nat.le_refl _⟩
    case round =>
      obtain ⟨k, gs, hk, rfl, HG, HR, HO, HPW, HKP, HB, hsz⟩ := hrel
      have XR : Hid (Box wr w.heap.size 46 #[.slice h1.a0 h1.n0 h1.c0, .slice h1.a1 h1.n1 h1.c1, .bool h1.b, .slice h1.a2 h1.n2 h1.c2, .int .i64 ep, .slice l1 ln lc1, .int .i64 su, .slice f1 fn fc1, .int .i64 ha]) := (HKP.out w.heap.size (by omega) (fun e => by have := HP3.out _ e; omega)).trans X4.out
      obtain ⟨x0, x1, x2, x3, x4, x5, x6, x7, x8⟩ := box9 XR.out
      by_cases hlt : k < fn
      · rcases own_form HR.out with ⟨hv, h0⟩ | ⟨g, cap', hv, hg1, hg2⟩
        · omega
        simp only [Value.slice.injEq] at hv
        obtain ⟨rfl, _, rfl⟩ := hv
        have hgw := HP3.out g rfl
        have hFl := HFL.out
        have hat : (gs ++ F.drop k).getD k zeroF = F.getD k zeroF := by rw [getD_mid _ _ _ HG.out.1, List.getD_eq_getElem?_getD, List.getElem?_drop, List.getD_eq_getElem?_getD]; rfl
        have RG : Hid (G.RdG w (F.getD k zeroF).h (F.getD k zeroF).D) := RF.out.2.2 k hlt
        have SG := HPK.out k hlt
        have FG := HF.out.2.2.2 k hlt
        have hlen : (gs ++ F.drop k).length = fn := by rw [List.length_append, List.length_drop, HG.out.1]; omega
        obtain ⟨⟨no, hh, D1, d, fi⟩, hv⟩ : ∃ v, v = F.getD k zeroF := ⟨_, rfl⟩
        rw [← hv] at hat RG SG FG
        dsimp only at RG SG FG
        obtain ⟨Lc, hLc⟩ : ∃ Lc, Lc = cellsF (gs ++ F.drop k) := ⟨_, rfl⟩
        have hLl : Lc.length = fn * 5 := by rw [hLc, cellsF_len, hlen]
        have cg : ∀ j, j < 5 → Lc[k * 5 + j]? = (cF ⟨no, hh, D1, d, fi⟩)[j]? := fun j hj => by rw [hLc, cellsF_get _ k (by omega) j hj, hat]
        have cg0 : Lc[k * 5]? = some (.int .i64 no) := cg 0 (by omega)
        have hown := HR.out
        rw [← hLc] at hown
        have e1 : wr.cell? ⟨g, k * 5 + 1, none⟩ = some (.int .i64 hh.l) := (hown.cellAt (k * 5 + 1) (by omega)).trans (cg 1 (by omega))
        have e2 : wr.cell? ⟨g, k * 5 + 2, none⟩ = some (.slice hh.a hh.n hh.c) := (hown.cellAt (k * 5 + 2) (by omega)).trans (cg 2 (by omega))
        have C : Hid (∀ W, Below w.heap.size w W → Calls Tryz.prog 185 #[.agg #[.int .i64 hh.l, .slice hh.a hh.n hh.c]] W fun e w' => (∃ h' : G.HG, e = .returned (.agg #[.int .i64 h'.l, .slice h'.a h'.n h'.c]) ∧ G.OwnG w' W.heap.size w'.heap.size h' D1) ∧ Below W.heap.size W w') := fun W hW => (c_copyPage hh D1 W (RG.out.below hW) SG FG).mono fun _ _ ⟨⟨h', p, _, q⟩, b⟩ => ⟨⟨h', p, q⟩, b⟩
        have HSET : Hid (∀ h' : G.HG, (Lc.set (k * 5 + 1) (.int .i64 h'.l)).set (k * 5 + 2) (.slice h'.a h'.n h'.c) = cellsF ((gs ++ [⟨no, h', D1, d, fi⟩]) ++ F.drop (k + 1))) := fun h' => by
          have hset := cellsF_set (gs ++ F.drop k) k ⟨no, h', D1, d, fi⟩ (by omega)
          rw [set_mid _ _ _ _ HG.out.1 (by rw [List.length_drop]; omega), List.drop_drop, ← hLc, setF_pg (v := ⟨no, h', D1, d, fi⟩) cg0 (cg 3 (by omega)) (cg 4 (by omega))] at hset
          exact hset
        have HSM : Hid (∀ h' : G.HG, SameF (F.take (k + 1)) (gs ++ [⟨no, h', D1, d, fi⟩])) := fun h' => by
          unfold SameF
          rw [List.take_add_one, List.map_append, List.map_append, HG.out.2]
          have e : F[k]? = some ⟨no, hh, D1, d, fi⟩ := by
            rw [List.getD_eq_getElem?_getD, List.getElem?_eq_getElem (by omega)] at hv
            rw [List.getElem?_eq_getElem (by omega)]
            exact congrArg some hv.symm
          rw [e]
          rfl
        have HOWN : Hid (wr.ownsRow q2 142 5 (.slice (some ⟨g, 0, none⟩) fn fc1) fn Lc) := hown
        have HGL : Hid (gs.length = k) := HG.out.1
        have g1 : (0 : Int) ≤ (k : Int) := by omega
        have g2 : (k : Int) < (fn : Int) := by omega
        clear hat hLc cg hown hv hg1 hg2 RG SG FG hlen HR HG
        go_wp2_with fail
        go_region_with (first
          | (go_at_call 185
             refine (C.out _ ?_).mono ?_
             · first | exact below_drewN HB.out _ | exact HB.out.drew | exact HB.out
             rintro e w1 ⟨⟨h', rfl, og⟩, hb1⟩
             have y7 := far6 hb1 x7
             have hown1 := own_below (own_drewN HOWN.out 1) hb1
             obtain ⟨j1, i1⟩ : ∃ u, w1.cell? ⟨g, k * 5 + 1, none⟩ = some u := ⟨_, (hown1.cellAt (k * 5 + 1) (by omega)).trans (List.getElem?_eq_getElem (by omega))⟩
             obtain ⟨j2, i2⟩ : ∃ u, w1.cell? ⟨g, k * 5 + 2, none⟩ = some u := ⟨_, (hown1.cellAt (k * 5 + 2) (by omega)).trans (List.getElem?_eq_getElem (by omega))⟩
             have z1 := hown1.frozenAt (k * 5 + 1)
             have z2 := hown1.frozenAt (k * 5 + 2)))
        all_goals
          have L1 : wr.heap.size ≤ w1.heap.size := hb1.size
          have og' : G.OwnG w1 wr.heap.size w1.heap.size h' D1 := og
          have s2 := (hown1.stored (k * 5 + 1) (.int .i64 h'.l)).1.stored (k * 5 + 1 + 1) (.slice h'.a h'.n h'.c)
          obtain ⟨V3, hV3⟩ : ∃ V3, (w1.setCell ⟨g, k * 5 + 1, none⟩ (.int .i64 h'.l)).setCell ⟨g, k * 5 + 1 + 1, none⟩ (.slice h'.a h'.n h'.c) = V3 := ⟨_, rfl⟩
          have K4 : ∀ g', g' ≠ g → V3.heap[g']? = w1.heap[g']? := fun g' hg => by rw [← hV3, Below.heap_setCell _ _ _ _ hg, Below.heap_setCell _ _ _ _ hg]
          have S4 : V3.heap.size = w1.heap.size := by rw [← hV3]; simp
          have K5 : ∀ g', g' < wr.heap.size → g' ≠ g → V3.heap[g']? = wr.heap[g']? := fun g' h1 h2 => (K4 g' h2).trans (hb1.block g' h1)
          have HB1 : Below w.heap.size w w1 := HB.out.drew.trans (hb1.mono HB.out.size)
          have B5 : Hid (Below w.heap.size w V3) := by unfold Hid; rw [← hV3]; exact (HB1.setCell (show w.heap.size ≤ g by omega) _).setCell (show w.heap.size ≤ g by omega) _
          have R5 : Hid (V3.ownsRow q2 142 5 (.slice (some ⟨g, 0, none⟩) fn fc1) fn (cellsF ((gs ++ [⟨no, h', D1, d, fi⟩]) ++ F.drop (k + 1)))) := by
            unfold Hid
            rw [← HSET.out h', ← hV3]
            exact s2.1
          have G5 : Hid ((gs ++ [(⟨no, h', D1, d, fi⟩ : FF)]).length = k + 1 ∧ SameF (F.take (k + 1)) (gs ++ [⟨no, h', D1, d, fi⟩])) := ⟨by rw [List.length_append, HGL.out]; rfl, HSM.out h'⟩
          have O5 : Hid (OwnF V3 wx.heap.size V3.heap.size (gs ++ [⟨no, h', D1, d, fi⟩])) := fun i hi => by
            rw [List.length_append, List.length_singleton] at hi
            rw [getD_app]
            by_cases e : i < gs.length
            · rw [if_pos e]
              have q := HO.out i e
              exact (q.same (w' := V3) (by omega) fun g' h1 h2 => K5 g' h2 (by omega)).wide (Nat.le_refl _)
            · rw [if_neg e, if_pos (by omega)]
              exact (og'.same (w' := V3) (by omega) fun g' h1 h2 => K4 g' (by omega)).wide (by omega)
          have W5 : Hid (PwF (gs ++ [⟨no, h', D1, d, fi⟩])) := fun i j hij hj g' e1' e2' => by
            rw [List.length_append, List.length_singleton] at hj
            rw [getD_app] at e1' e2'
            by_cases h2 : j < gs.length
            · rw [if_pos h2] at e2'; rw [if_pos (by omega)] at e1'; exact HPW.out i j hij h2 g' e1' e2'
            · rw [if_neg h2, if_pos (by omega)] at e2'; rw [if_pos (by omega)] at e1'
              have a := (HO.out i (by omega)).2.2.2 g' e1'
              have b := og'.2.2.2 g' e2'
              omega
          have K6 : Hid (∀ g', g' < wx.heap.size → ob (some (⟨g, 0, none⟩ : Addr)) ≠ some g' → V3.heap[g']? = wx.heap[g']?) := fun g' h1 h2 => (K5 g' (by omega) (fun e => h2 (by rw [e]; rfl))).trans (HKP.out g' h1 h2)
          have S5 : wx.heap.size ≤ V3.heap.size := by omega
          have HK1 : Hid (k + 1 ≤ fn) := by unfold Hid; omega
          rw [hV3]
          clear hV3 K4 S4 K5 HB1 s2 og og' hown1 i1 i2 z1 z2 y7 hb1 L1 x0 x1 x2 x3 x4 x5 x6 x7 x8 e1 e2 C HSET HSM HOWN
          go_wp2
          go_roundw
          case rel => exact ⟨k + 1, gs ++ [⟨no, h', D1, d, fi⟩], HK1.out, by go_num, G5, R5, O5, W5, K6, B5, S5⟩
          case measure => have := HK1.out; simp [intOf]; omega
      · have e : k = fn := by omega
        subst e
        have hr := HR.out
        rw [List.drop_eq_nil_of_le (by have := HFL.out; omega), List.append_nil] at hr
        have hs := HG.out.2
        rw [List.take_of_length_le (by have := HFL.out; omega)] at hs
        have hkp := HKP.out
        have YR : Hid (Box wr (w.heap.size + 1) 46 #[.slice none 0 0, .slice none 0 0, .bool false, .slice none 0 0, .int .i64 0, .slice none 0 0, .int .i64 0, .slice none 0 0, .int .i64 0]) := (hkp (w.heap.size + 1) (by omega) (fun e => by have := HP3.out _ e; omega)).trans Y4.out
        have Q1 : OwnD wr (w.heap.size + 2) q1 h1 D := P1.out.same hsz fun g h1 h2 => hkp g (by omega) (fun e => by have := HP3.out _ e; omega)
        have Q2 : wr.ownsRow q1 78 10 (.slice l1 ln lc1) ln (cellsQ L) := own_same P2.out.1 fun g e => by rw [ob_slice] at e; have := HP2.out g e; exact hkp g (by omega) (fun e => by have := HP3.out _ e; omega)
        have OT : Hid (OwnT wr (w.heap.size + 2) wr.heap.size h1 D l1 ln lc1 L f1 k fc1 gs) := ⟨w.heap.size + 2, q1, q1, q2, q2, wx.heap.size, wr.heap.size, by omega, Q1, ⟨Q2, HP2.out⟩, ⟨hr, HP3.out⟩, HO.out, HPW.out⟩
        have HS : Hid (SameF F gs) := hs
        have hge : ¬ (k : Int) < (k : Int) := by omega
        clear hr hs hkp Q1 Q2 HR HG HO HPW HKP
        obtain ⟨y0, y1, y2, y3, y4, y5, y6, y7, y8⟩ := box9 YR.out
        have t0 := YR.out.thaw 0
        have t1 := YR.out.thaw 1
        have t2 := YR.out.thaw 2
        have t3 := YR.out.thaw 3
        have t4 := YR.out.thaw 4
        have t5 := YR.out.thaw 5
        have t6 := YR.out.thaw 6
        have t7 := YR.out.thaw 7
        have t8 := YR.out.thaw 8
        go_wp2
        refine ret9 Tryz.results99 rfl rfl (put9_box YR.out _ _ _ _ _ _ _ _ _) ⟨⟨h1, l1, lc1, f1, fc1, rfl, gs, HS.out, ?_⟩, put9_below HB.out (by omega) _ _ _ _ _ _ _ _ _⟩
        have o := OT.out.same (w' := (((((((((wr.setCell ⟨(w.heap.size + 1), 0, none⟩ (.slice h1.a0 h1.n0 h1.c0)).setCell ⟨(w.heap.size + 1), 1, none⟩ (.slice h1.a1 h1.n1 h1.c1)).setCell ⟨(w.heap.size + 1), 2, none⟩ (.bool h1.b)).setCell ⟨(w.heap.size + 1), 3, none⟩ (.slice h1.a2 h1.n2 h1.c2)).setCell ⟨(w.heap.size + 1), 4, none⟩ (.int .i64 ep)).setCell ⟨(w.heap.size + 1), 5, none⟩ (.slice l1 ln lc1)).setCell ⟨(w.heap.size + 1), 6, none⟩ (.int .i64 su)).setCell ⟨(w.heap.size + 1), 7, none⟩ (.slice f1 k fc1)).setCell ⟨(w.heap.size + 1), 8, none⟩ (.int .i64 ha))) (by simp) fun g h1 h2 => put9_same _ _ _ _ _ _ _ _ _ _ _ _ (by omega)
        exact o.wide (B' := w.heap.size) (by omega) ⟨by simp, by simp⟩

end Go.Proofs.YtkpopingbbaomaaGreatDoor
