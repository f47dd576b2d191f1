/-
  The laws of EngineOK and UndoNeeds.
-/
import Derived.Test.YtfibdpfhfgnbiaaGreatDoorYxlq
import Derived.Test.YtfibdpfhfgnbiaaGreatDoorYxnq
import Derived.Test.YtfibdpfhfgnbiaaGreatDoorZzay
namespace Go.Proofs.YtfibdpfhfgnbiaaGreatDoor
open Go Go.RowKit
attribute [local go_sem ↓] Go.wp_at_zero Go.wp_at_succ

/-- What UndoNeeds tells, and its code. -/
def unZ (ok : Bool) (Lg : List DR) (T : List X.WK) : Int := if ok then (resT Lg T : Int) else 0
def unC (ok : Bool) : Int := if ok then 0 else 1
theorem okEN_parts {D : DD} {n0 : Nat} {ep : Int} {ln : Nat} {Lg : List DR} {su : Int} {fn : Nat} {F : List FF} {ha : Int} {up : Bool} {T : List X.WK} {K : List L.LK} {Wt : List L.WK} {nx : Int} (h : okEN D n0 ep ln Lg su fn F ha up T K Wt nx = true) : ln ≤ 60 ∧ Pln Lg ∧ T.length ≤ 10 ∧ ((T.all fun v => lnk Lg v.x v.f) = true) := by
  unfold okEN at h
  simp only [Bool.and_eq_true, decide_eq_true_eq] at h
  obtain ⟨p0, p1, p2, p3, p4, ⟨p5, p6⟩, ⟨p7, p8⟩, p9, p10⟩ := h
  have hs := okST_parts p0
  exact ⟨hs.1, pln_of hs.2, p5, p9⟩
theorem ret_un {ok : Bool} {Lg : List DR} {T : List X.WK} {a b : Int} (h : a = unZ ok Lg T ∧ b = unC ok) : (Ending.returned (.tuple #[.int .i64 a, .int .i64 b]) : Ending) = .returned (.tuple #[.int .i64 (unZ ok Lg T), .int .i64 (unC ok)]) := by rw [h.1, h.2]
set_option maxRecDepth 100000 in
set_option maxHeartbeats 4000000 in
theorem c_specUN (h : HD) (D : DD) (ep : Int) (la : Option Addr) (ln lc : Nat) (Lg : List DR) (su : Int) (fa : Option Addr) (fn fc : Nat) (F : List FF) (ha : Int) (up : Bool) (ta : Option Addr) (tc : Nat) (T : List X.WK) (k : L.HL) (K : List L.LK) (Wt : List L.WK) (nx : Int) (w : World) (r : RdE w h D la ln Lg fa fn F ta T k K Wt) (hf : FitE D ln Lg fn F T K Wt) :
    Calls Tryz.prog 31 #[.agg #[.slice h.a0 h.n0 h.c0, .slice h.a1 h.n1 h.c1, .bool h.b, .slice h.a2 h.n2 h.c2, .int .i64 ep, .slice la ln lc, .int .i64 su, .slice fa fn fc, .int .i64 ha, .bool up, .slice ta T.length tc, .slice k.a0 K.length k.c0, .slice k.a1 Wt.length k.c1, .int .i64 nx]] w fun e w' => e = .returned (.tuple #[.int .i64 (unZ (okEN D h.n0 ep ln Lg su fn F ha up T K Wt nx) Lg T), .int .i64 (unC (okEN D h.n0 ep ln Lg su fn F ha up T K Wt nx))]) ∧ Below w.heap.size w w' := by
  obtain ⟨V, hV⟩ : ∃ V, w.alloc (.cells #[.slice h.a0 h.n0 h.c0, .slice h.a1 h.n1 h.c1, .bool h.b, .slice h.a2 h.n2 h.c2, .int .i64 ep, .slice la ln lc, .int .i64 su, .slice fa fn fc, .int .i64 ha, .bool up, .slice ta T.length tc, .slice k.a0 K.length k.c0, .slice k.a1 Wt.length k.c1, .int .i64 nx] 53) = V := ⟨_, rfl⟩
  have B0 : Hid (Below w.heap.size w V) := by unfold Hid; rw [← hV]; exact (Below.refl _ _).alloc (Nat.le_refl _) _
  have X0 : Hid (Box V w.heap.size 53 #[.slice h.a0 h.n0 h.c0, .slice h.a1 h.n1 h.c1, .bool h.b, .slice h.a2 h.n2 h.c2, .int .i64 ep, .slice la ln lc, .int .i64 su, .slice fa fn fc, .int .i64 ha, .bool up, .slice ta T.length tc, .slice k.a0 K.length k.c0, .slice k.a1 Wt.length k.c1, .int .i64 nx]) := by unfold Hid; rw [← hV]; exact Box.new _ _ _
  have C1 := c_specEN h D ep la ln lc Lg su fa fn fc F ha up ta tc T k K Wt nx V (r.below B0.out) hf
  have HL : Hid (Lg.length = ln) := r.2.1.1
  have R : Hid (RdE w h D la ln Lg fa fn F ta T k K Wt) := r
  obtain ⟨x0, x1, x2, x3, x4, x5, x6, x7, x8, x9, x10, x11, x12, x13⟩ := box14 X0.out
  clear r hf
  go_enter Tryz.func31, Tryz.ntmps31
  go_wp2_with fail
  refine C1.mono ?_
  rintro e w1 ⟨rfl, hb⟩
  have B1 : Hid (Below w.heap.size w w1) := B0.out.trans (hb.mono B0.out.size)
  have X1 : Hid (Box w1 w.heap.size 53 #[.slice h.a0 h.n0 h.c0, .slice h.a1 h.n1 h.c1, .bool h.b, .slice h.a2 h.n2 h.c2, .int .i64 ep, .slice la ln lc, .int .i64 su, .slice fa fn fc, .int .i64 ha, .bool up, .slice ta T.length tc, .slice k.a0 K.length k.c0, .slice k.a1 Wt.length k.c1, .int .i64 nx]) := X0.out.belowS hb
  clear hb X0 B0 C1 hV x0 x1 x2 x3 x4 x5 x6 x7 x8 x9 x10 x11 x12 x13
  obtain ⟨x0, x1, x2, x3, x4, x5, x6, x7, x8, x9, x10, x11, x12, x13⟩ := box14 X1.out
  cases hok : okEN D h.n0 ep ln Lg su fn F ha up T K Wt nx
  · have HK : Hid (okEN D h.n0 ep ln Lg su fn F ha up T K Wt nx = false) := hok
    clear hok
    go_wp2
    go_ret2
    exact ⟨ret_un ⟨by rw [HK.out]; rfl, by rw [HK.out]; rfl⟩, B1.out⟩
  · have HP := okEN_parts hok
    have LST := lnk_last HP.2.2.2
    rw [HL.out] at LST
    have C2 := c_l07Res h ep la ln lc Lg su fa fn fc ha up ta tc T k K Wt nx w1 (R.out.2.1.below B1.out) HP.1 HP.2.1 (R.out.2.2.2.1.below B1.out) HP.2.2.1 LST
    have HK : Hid (okEN D h.n0 ep ln Lg su fn F ha up T K Wt nx = true) := hok
    clear hok HP LST
    obtain ⟨q, hq⟩ : ∃ q, q = resT Lg T := ⟨_, rfl⟩
    rw [← hq] at C2
    have HQ : Hid ((q : Int) = unZ (okEN D h.n0 ep ln Lg su fn F ha up T K Wt nx) Lg T) := by unfold Hid; rw [hq, HK.out]; rfl
    clear hq
    go_wp2_with fail
    refine C2.mono ?_
    rintro e w2 ⟨rfl, hb⟩
    have B2 : Hid (Below w.heap.size w w2) := B1.out.trans (hb.mono B1.out.size)
    clear hb X1 B1 C2 x0 x1 x2 x3 x4 x5 x6 x7 x8 x9 x10 x11 x12 x13
    go_wp2
    go_ret2
    exact ⟨ret_un ⟨HQ.out, by rw [HK.out]; rfl⟩, B2.out⟩
set_option maxRecDepth 100000 in
set_option maxHeartbeats 4000000 in
theorem c_implUN (h : HD) (D : DD) (ep : Int) (la : Option Addr) (ln lc : Nat) (Lg : List DR) (su : Int) (fa : Option Addr) (fn fc : Nat) (F : List FF) (ha : Int) (up : Bool) (ta : Option Addr) (tc : Nat) (T : List X.WK) (k : L.HL) (K : List L.LK) (Wt : List L.WK) (nx : Int) (w : World) (r : RdE w h D la ln Lg fa fn F ta T k K Wt) (hf : FitE D ln Lg fn F T K Wt) (ht : TabH w) (hi : L.FitH w) :
    Calls Tryz.prog 32 #[.agg #[.slice h.a0 h.n0 h.c0, .slice h.a1 h.n1 h.c1, .bool h.b, .slice h.a2 h.n2 h.c2, .int .i64 ep, .slice la ln lc, .int .i64 su, .slice fa fn fc, .int .i64 ha, .bool up, .slice ta T.length tc, .slice k.a0 K.length k.c0, .slice k.a1 Wt.length k.c1, .int .i64 nx]] w fun e w' => e = .returned (.tuple #[.int .i64 (unZ (okEN D h.n0 ep ln Lg su fn F ha up T K Wt nx) Lg T), .int .i64 (unC (okEN D h.n0 ep ln Lg su fn F ha up T K Wt nx))]) ∧ Below w.heap.size w w' := by
  obtain ⟨V, hV⟩ : ∃ V, w.alloc (.cells #[.slice h.a0 h.n0 h.c0, .slice h.a1 h.n1 h.c1, .bool h.b, .slice h.a2 h.n2 h.c2, .int .i64 ep, .slice la ln lc, .int .i64 su, .slice fa fn fc, .int .i64 ha, .bool up, .slice ta T.length tc, .slice k.a0 K.length k.c0, .slice k.a1 Wt.length k.c1, .int .i64 nx] 53) = V := ⟨_, rfl⟩
  have B0 : Hid (Below w.heap.size w V) := by unfold Hid; rw [← hV]; exact (Below.refl _ _).alloc (Nat.le_refl _) _
  have X0 : Hid (Box V w.heap.size 53 #[.slice h.a0 h.n0 h.c0, .slice h.a1 h.n1 h.c1, .bool h.b, .slice h.a2 h.n2 h.c2, .int .i64 ep, .slice la ln lc, .int .i64 su, .slice fa fn fc, .int .i64 ha, .bool up, .slice ta T.length tc, .slice k.a0 K.length k.c0, .slice k.a1 Wt.length k.c1, .int .i64 nx]) := by unfold Hid; rw [← hV]; exact Box.new _ _ _
  have C1 := c_implEN h D ep la ln lc Lg su fa fn fc F ha up ta tc T k K Wt nx V (r.below B0.out) hf (ht.below B0.out) (hi.below B0.out)
  have HL : Hid (Lg.length = ln) := r.2.1.1
  have R : Hid (RdE w h D la ln Lg fa fn F ta T k K Wt) := r
  obtain ⟨x0, x1, x2, x3, x4, x5, x6, x7, x8, x9, x10, x11, x12, x13⟩ := box14 X0.out
  clear r hf ht hi
  go_enter Tryz.func32, Tryz.ntmps32
  go_wp2_with fail
  refine C1.mono ?_
  rintro e w1 ⟨rfl, hb⟩
  have B1 : Hid (Below w.heap.size w w1) := B0.out.trans (hb.mono B0.out.size)
  have X1 : Hid (Box w1 w.heap.size 53 #[.slice h.a0 h.n0 h.c0, .slice h.a1 h.n1 h.c1, .bool h.b, .slice h.a2 h.n2 h.c2, .int .i64 ep, .slice la ln lc, .int .i64 su, .slice fa fn fc, .int .i64 ha, .bool up, .slice ta T.length tc, .slice k.a0 K.length k.c0, .slice k.a1 Wt.length k.c1, .int .i64 nx]) := X0.out.belowS hb
  clear hb X0 B0 C1 hV x0 x1 x2 x3 x4 x5 x6 x7 x8 x9 x10 x11 x12 x13
  obtain ⟨x0, x1, x2, x3, x4, x5, x6, x7, x8, x9, x10, x11, x12, x13⟩ := box14 X1.out
  cases hok : okEN D h.n0 ep ln Lg su fn F ha up T K Wt nx
  · have HK : Hid (okEN D h.n0 ep ln Lg su fn F ha up T K Wt nx = false) := hok
    clear hok
    go_wp2
    go_ret2
    exact ⟨ret_un ⟨by rw [HK.out]; rfl, by rw [HK.out]; rfl⟩, B1.out⟩
  · have HP := okEN_parts hok
    have LST := lnk_last HP.2.2.2
    rw [HL.out] at LST
    have C2 := c_undoNeeds h ep la ln lc Lg su fa fn fc ha up ta tc T k K Wt nx w.heap.size w1 X1.out (R.out.2.1.below B1.out) HP.1 HP.2.1 (R.out.2.2.2.1.below B1.out) HP.2.2.1 LST
    have HK : Hid (okEN D h.n0 ep ln Lg su fn F ha up T K Wt nx = true) := hok
    clear hok HP LST
    obtain ⟨q, hq⟩ : ∃ q, q = resT Lg T := ⟨_, rfl⟩
    rw [← hq] at C2
    have HQ : Hid ((q : Int) = unZ (okEN D h.n0 ep ln Lg su fn F ha up T K Wt nx) Lg T) := by unfold Hid; rw [hq, HK.out]; rfl
    clear hq
    go_wp2_with fail
    refine C2.mono ?_
    rintro e w2 ⟨rfl, hb⟩
    have B2 : Hid (Below w.heap.size w w2) := B1.out.trans (hb.mono B1.out.size)
    clear hb X1 B1 C2 x0 x1 x2 x3 x4 x5 x6 x7 x8 x9 x10 x11 x12 x13
    go_wp2
    go_ret2
    exact ⟨ret_un ⟨HQ.out, by rw [HK.out]; rfl⟩, B2.out⟩

end Go.Proofs.YtfibdpfhfgnbiaaGreatDoor
namespace Go.Proofs.YtfibdpfhfgnbiaaGreatDoor
open Go Go.RowKit
attribute [local go_sem ↓] Go.wp_at_zero Go.wp_at_succ

theorem arF_says (last : Int) : ∀ (fs gs : List FF) (tk : List Nat), fs.map saysF = gs.map saysF → arF last tk fs = arF last tk gs
  | [], [], _, _ => rfl
  | [], _ :: _, _, h => by cases h
  | _ :: _, [], _, h => by cases h
  | f :: fs, g :: gs, tk, h => by
    simp only [List.map_cons, List.cons.injEq, saysF, Prod.mk.injEq] at h
    obtain ⟨⟨h1, h2, h3, h4⟩, h5⟩ := h
    show (okFr f.no f.D f.d f.fi last && (!(tk.contains f.no.toNat) && arF last (f.no.toNat :: tk) fs)) = (okFr g.no g.D g.d g.fi last && (!(tk.contains g.no.toNat) && arF last (g.no.toNat :: tk) gs))
    rw [h1, h2, h3, h4, arF_says last fs gs _ h5]
theorem okST_same {D : DD} {n0 : Nat} {ep : Int} {ln : Nat} {L : List DR} {su : Int} {fn : Nat} {F gs : List FF} {ha : Int} (h : SameF F gs) : okST D n0 ep ln L su fn gs ha = okST D n0 ep ln L su fn F ha := by
  unfold okST
  rw [arF_says _ gs F [] h.symm]
theorem okEN_same {D : DD} {n0 m0 : Nat} {ep : Int} {ln : Nat} {Lg : List DR} {su : Int} {fn : Nat} {F gs : List FF} {ha : Int} {up : Bool} {T : List X.WK} {K : List L.LK} {Wt : List L.WK} {nx : Int} (h : SameF F gs) (e : m0 = n0) : okEN D m0 ep ln Lg su fn gs ha up T K Wt nx = okEN D n0 ep ln Lg su fn F ha up T K Wt nx := by
  subst e
  unfold okEN
  rw [okST_same h]
theorem lawE (h : HD) (D : DD) (ep : Int) (la : Option Addr) (ln lc : Nat) (Lg : List DR) (su : Int) (fa : Option Addr) (fn fc : Nat) (F : List FF) (ha : Int) (up : Bool) (ta : Option Addr) (tc : Nat) (T : List X.WK) (k : L.HL) (K : List L.LK) (Wt : List L.WK) (nx : Int) (w : World) (r : RdE w h D la ln Lg fa fn F ta T k K Wt) (m : MaxE h D ln Lg fn F T K Wt) (ht : TabH w) (hi : L.FitH w) :
    Calls Tryz.prog 3 #[.agg #[.slice h.a0 h.n0 h.c0, .slice h.a1 h.n1 h.c1, .bool h.b, .slice h.a2 h.n2 h.c2, .int .i64 ep, .slice la ln lc, .int .i64 su, .slice fa fn fc, .int .i64 ha, .bool up, .slice ta T.length tc, .slice k.a0 K.length k.c0, .slice k.a1 Wt.length k.c1, .int .i64 nx]] w fun e w' => e = .returned (.bool true) ∧ Below w.heap.size w w' := by
  refine law_FnExactEngineOK h D ep la ln lc Lg su fa fn fc F ha up ta tc T k K Wt nx (okEN D h.n0 ep ln Lg su fn F ha up T K Wt nx) w r m ht hi (fun hf W h2 l2 lc2 f2 fc2 g2 t2 tc2 k2 sm r2 _ _ => ?_) (fun hf W h2 l2 lc2 f2 fc2 g2 t2 tc2 k2 sm r2 ht2 hi2 => ?_)
  · have C := c_specEN h2 D ep l2 ln lc2 Lg su f2 fn fc2 g2 ha up t2 tc2 T k2 K Wt nx W r2 ⟨hf.1.same sm, hf.2⟩
    rw [okEN_same sm (r2.1.l0.symm.trans r.1.l0)] at C
    exact C
  · have C := c_implEN h2 D ep l2 ln lc2 Lg su f2 fn fc2 g2 ha up t2 tc2 T k2 K Wt nx W r2 ⟨hf.1.same sm, hf.2⟩ ht2 hi2
    rw [okEN_same sm (r2.1.l0.symm.trans r.1.l0)] at C
    exact C
theorem lawU (h : HD) (D : DD) (ep : Int) (la : Option Addr) (ln lc : Nat) (Lg : List DR) (su : Int) (fa : Option Addr) (fn fc : Nat) (F : List FF) (ha : Int) (up : Bool) (ta : Option Addr) (tc : Nat) (T : List X.WK) (k : L.HL) (K : List L.LK) (Wt : List L.WK) (nx : Int) (w : World) (r : RdE w h D la ln Lg fa fn F ta T k K Wt) (m : MaxE h D ln Lg fn F T K Wt) (ht : TabH w) (hi : L.FitH w) :
    Calls Tryz.prog 8 #[.agg #[.slice h.a0 h.n0 h.c0, .slice h.a1 h.n1 h.c1, .bool h.b, .slice h.a2 h.n2 h.c2, .int .i64 ep, .slice la ln lc, .int .i64 su, .slice fa fn fc, .int .i64 ha, .bool up, .slice ta T.length tc, .slice k.a0 K.length k.c0, .slice k.a1 Wt.length k.c1, .int .i64 nx]] w fun e w' => e = .returned (.bool true) ∧ Below w.heap.size w w' := by
  refine law_FnExactUndoNeeds h D ep la ln lc Lg su fa fn fc F ha up ta tc T k K Wt nx (unZ (okEN D h.n0 ep ln Lg su fn F ha up T K Wt nx) Lg T) (unC (okEN D h.n0 ep ln Lg su fn F ha up T K Wt nx)) w r m ht hi (fun hf W h2 l2 lc2 f2 fc2 g2 t2 tc2 k2 sm r2 _ _ => ?_) (fun hf W h2 l2 lc2 f2 fc2 g2 t2 tc2 k2 sm r2 ht2 hi2 => ?_)
  · have C := c_specUN h2 D ep l2 ln lc2 Lg su f2 fn fc2 g2 ha up t2 tc2 T k2 K Wt nx W r2 ⟨hf.1.same sm, hf.2⟩
    rw [okEN_same sm (r2.1.l0.symm.trans r.1.l0)] at C
    exact C
  · have C := c_implUN h2 D ep l2 ln lc2 Lg su f2 fn fc2 g2 ha up t2 tc2 T k2 K Wt nx W r2 ⟨hf.1.same sm, hf.2⟩ ht2 hi2
    rw [okEN_same sm (r2.1.l0.symm.trans r.1.l0)] at C
    exact C

end Go.Proofs.YtfibdpfhfgnbiaaGreatDoor
