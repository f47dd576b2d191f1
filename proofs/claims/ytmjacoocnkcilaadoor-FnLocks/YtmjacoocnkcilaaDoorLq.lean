/-
  LocksOK: the program's walk.
-/
import Derived.Test.YtmjacoocnkcilaaDoorLo
import Derived.Test.YtmjacoocnkcilaaDoorLp
namespace Go.Proofs.YtmjacoocnkcilaaDoor
open Go Go.RowKit
attribute [local go_sem ↓] Go.wp_at_zero Go.wp_at_succ

def okLs (vs : List LK) (ws : List WK) : Bool := decide (vs.length ≤ 60) && decide (ws.length ≤ 100) && vs.all okK && fitL vs && ws.all okW
set_option maxRecDepth 100000 in
set_option maxHeartbeats 8000000 in
theorem c_implLO (h : HL) (vs : List LK) (ws : List WK) (w : World) (r : RdL w h vs ws) (f0 : vs.length ≤ 1048576) (f1 : ws.length ≤ 1048576) (ht : FitH w) :
    Calls Tryd.prog 18 #[.agg #[.slice h.a0 vs.length h.c0, .slice h.a1 ws.length h.c1]] w fun e w' => e = .returned (.bool (okLs vs ws)) ∧ Below w.heap.size w w' := by
  have R : Hid (RdL w h vs ws) := r
  have HT : Hid (FitH w) := ht
  clear r ht
  obtain ⟨V, hV⟩ : ∃ V, w.alloc (.cells #[.slice h.a0 vs.length h.c0, .slice h.a1 ws.length h.c1] 34) = V := ⟨_, rfl⟩
  have B : Hid (Below w.heap.size w V) := by unfold Hid; rw [← hV]; exact (Below.refl _ _).alloc (Nat.le_refl _) _
  have X : Hid (Box V w.heap.size 34 #[.slice h.a0 vs.length h.c0, .slice h.a1 ws.length h.c1]) := by unfold Hid; rw [← hV]; exact Box.new _ _ _
  obtain ⟨x0, x1⟩ := box2 X.out
  by_cases n0 : vs.length ≤ 60
  case neg =>
    have c0 : ¬ (vs.length : Int) ≤ 60 := by omega
    have E : Hid (okLs vs ws = false) := by simp [Hid, okLs, n0]
    go_enter Tryd.func18, Tryd.ntmps18
    go_wp2
    go_ret
    exact ⟨ret_bool (by first | exact E.out.symm | (rw [E.out]; simp; omega)), B.out⟩
  have c0 : (vs.length : Int) ≤ 60 := by omega
  by_cases n1 : ws.length ≤ 100
  case neg =>
    have c1 : ¬ (ws.length : Int) ≤ 100 := by omega
    have E : Hid (okLs vs ws = false) := by simp [Hid, okLs, n1]
    go_enter Tryd.func18, Tryd.ntmps18
    go_wp2
    go_ret
    exact ⟨ret_bool (by first | exact E.out.symm | (rw [E.out]; simp; omega)), B.out⟩
  have c1 : (ws.length : Int) ≤ 100 := by omega
  obtain ⟨p1, h1⟩ : ∃ p, vs.all okK = p := ⟨_, rfl⟩
  obtain ⟨p2, h2⟩ : ∃ p, fitL vs = p := ⟨_, rfl⟩
  obtain ⟨p3, h3⟩ : ∃ p, ws.all okW = p := ⟨_, rfl⟩
  have C1 : Hid (Calls Tryd.prog 48 #[.slice h.a0 vs.length h.c0] V fun e w' => e = .returned (.bool p1) ∧ Below V.heap.size V w') := by unfold Hid; rw [← h1]; exact c_areK h.a0 _ h.c0 vs V (R.out.1.below B.out) f0
  have C2 : Hid (p1 = true → ∀ W, Below w.heap.size w W → Calls Tryd.prog 49 #[.slice h.a0 vs.length h.c0] W fun e w' => e = .returned (.bool p2) ∧ Below W.heap.size W w') := fun hp W hW => by rw [← h2]; exact c_fitting h.a0 _ h.c0 vs W (R.out.1.below hW) n0 (h1.trans hp) (HT.out.below hW)
  have C3 : Hid (∀ W, Below w.heap.size w W → Calls Tryd.prog 50 #[.slice h.a1 ws.length h.c1] W fun e w' => e = .returned (.bool p3) ∧ Below W.heap.size W w') := fun W hW => by rw [← h3]; exact c_areW h.a1 _ h.c1 ws W (R.out.2.below hW) f1
  have E : Hid (okLs vs ws = (p1 && p2 && p3)) := by unfold Hid okLs; rw [h1, h2, h3, decide_eq_true n0, decide_eq_true n1]; simp
  clear h1 h2 h3
  go_enter Tryd.func18, Tryd.ntmps18
  go_wp2_with fail
  refine C1.out.mono ?_
  rintro e w1 ⟨rfl, hb⟩
  have B1 : Hid (Below w.heap.size w w1) := B.out.trans (hb.mono B.out.size)
  have X1 : Hid (Box w1 w.heap.size 34 #[.slice h.a0 vs.length h.c0, .slice h.a1 ws.length h.c1]) := X.out.belowS hb
  clear hb x0 x1 hV X B C1
  obtain ⟨x0, x1⟩ := box2 X1.out
  cases p1
  · go_wp2
    go_ret
    exact ⟨ret_bool (by rw [E.out]; rfl), B1.out⟩
  go_wp2_with fail
  refine (C2.out (by first | rfl | trivial) w1 B1.out).mono ?_
  rintro e w2 ⟨rfl, hb⟩
  have B2 : Hid (Below w.heap.size w w2) := B1.out.trans (hb.mono B1.out.size)
  have X2 : Hid (Box w2 w.heap.size 34 #[.slice h.a0 vs.length h.c0, .slice h.a1 ws.length h.c1]) := X1.out.belowS hb
  clear hb x0 x1 X1 B1 C2
  obtain ⟨x0, x1⟩ := box2 X2.out
  cases p2
  · go_wp2
    go_ret
    exact ⟨ret_bool (by rw [E.out]; rfl), B2.out⟩
  go_wp2_with fail
  refine (C3.out w2 B2.out).mono ?_
  rintro e w3 ⟨rfl, hb⟩
  have B3 : Hid (Below w.heap.size w w3) := B2.out.trans (hb.mono B2.out.size)
  clear hb x0 x1 X2 B2 C3
  go_wp2
  go_ret
  exact ⟨ret_bool (by rw [E.out]; simp), B3.out⟩

end Go.Proofs.YtmjacoocnkcilaaDoor
