/-
  The walk of the law of WaitsRound.
-/
import Derived.Test.YtmkfclbamecgaaaDoorLgf
import Derived.Deep.RegionHeld3
namespace Go.Proofs.YtmkfclbamecgaaaDoor
open Go Go.RowKit
attribute [local go_sem ↓] Go.wp_at_zero Go.wp_at_succ

set_option maxRecDepth 100000 in
set_option maxHeartbeats 8000000 in
theorem law_FnExactWaitsRound (h : HL) (vs : List LK) (ws : List WK) (x : Int) (RB : Bool) (RC : Int) (w : World) (r0 : RdL w h vs ws) (m0 : vs.length ≤ maxLen) (m1 : ws.length ≤ maxLen)
    (cs : vs.length ≤ 1048576 → ws.length ≤ 1048576 → ∀ (W : World) (h : HL), Below w.heap.size w W → RdL W h vs ws → Calls Tryd.prog 31 #[.agg #[.slice h.a0 vs.length h.c0, .slice h.a1 ws.length h.c1], .int .i64 x] W fun e w' => e = .returned (.tuple #[.bool RB, .int .i64 RC]) ∧ Below W.heap.size W w')
    (ci : vs.length ≤ 1048576 → ws.length ≤ 1048576 → ∀ (W : World) (h : HL), Below w.heap.size w W → RdL W h vs ws → Calls Tryd.prog 32 #[.agg #[.slice h.a0 vs.length h.c0, .slice h.a1 ws.length h.c1], .int .i64 x] W fun e w' => e = .returned (.tuple #[.bool RB, .int .i64 RC]) ∧ Below W.heap.size W w') :
    Calls Tryd.prog 8 #[.agg #[.slice h.a0 vs.length h.c0, .slice h.a1 ws.length h.c1], .int .i64 x] w fun e w' => e = .returned (.bool true) ∧ Below w.heap.size w w' := by
  have R : Hid (RdL w h vs ws) := r0
  have CS0 : Hid (vs.length ≤ 1048576 → ws.length ≤ 1048576 → ∀ (W : World) (h : HL), Below w.heap.size w W → RdL W h vs ws → Calls Tryd.prog 31 #[.agg #[.slice h.a0 vs.length h.c0, .slice h.a1 ws.length h.c1], .int .i64 x] W fun e w' => e = .returned (.tuple #[.bool RB, .int .i64 RC]) ∧ Below W.heap.size W w') := cs
  have CI0 : Hid (vs.length ≤ 1048576 → ws.length ≤ 1048576 → ∀ (W : World) (h : HL), Below w.heap.size w W → RdL W h vs ws → Calls Tryd.prog 32 #[.agg #[.slice h.a0 vs.length h.c0, .slice h.a1 ws.length h.c1], .int .i64 x] W fun e w' => e = .returned (.tuple #[.bool RB, .int .i64 RC]) ∧ Below W.heap.size W w') := ci
  obtain ⟨V, hV⟩ : ∃ V, w.alloc (.cells #[.slice h.a0 vs.length h.c0, .slice h.a1 ws.length h.c1] 28) = V := ⟨_, rfl⟩
  have B : Hid (Below w.heap.size w V) := by unfold Hid; rw [← hV]; exact (Below.refl _ _).alloc (Nat.le_refl _) _
  have X : Hid (Box V w.heap.size 28 #[.slice h.a0 vs.length h.c0, .slice h.a1 ws.length h.c1]) := by unfold Hid; rw [← hV]; exact Box.new _ _ _
  have C := c_szL h vs ws V m0 m1
  clear r0 m0 m1 cs ci
  obtain ⟨x0, x1⟩ := box2 X.out
  go_enter Tryd.func8, Tryd.ntmps8
  go_wp2_with fail
  refine C.mono ?_
  rintro e w1 ⟨⟨z, rfl, hz⟩, hb⟩
  have B1 : Hid (Below w.heap.size w w1) := B.out.trans (hb.mono B.out.size)
  have X1 : Hid (Box w1 w.heap.size 28 #[.slice h.a0 vs.length h.c0, .slice h.a1 ws.length h.c1]) := X.out.belowS hb
  clear hb B X x0 x1 hV
  by_cases hneg : z < 0
  · clear hz
    go_wp2
    go_ret
    exact ⟨rfl, B1.out⟩
  obtain ⟨f0, f1⟩ := hz (by omega)
  obtain ⟨x0, x1⟩ := box2 X1.out
  have TO : Hid (∀ W, Below w.heap.size w W → Calls Tryd.prog 17 #[.agg #[.slice h.a0 vs.length h.c0, .slice h.a1 ws.length h.c1]] W fun e w' => (∃ h' : HL, e = .returned (.agg #[.slice h'.a0 vs.length h'.c0, .slice h'.a1 ws.length h'.c1]) ∧ OwnL w' W.heap.size h' vs ws) ∧ Below W.heap.size W w') := fun W hW => c_toL h vs ws W (R.out.below hW) f0 f1
  go_wp2_with fail
  refine (TO.out w1 B1.out).mono ?_
  rintro e w2 ⟨⟨h2, rfl, o2⟩, hb⟩
  have B2 : Hid (Below w.heap.size w w2) := B1.out.trans (hb.mono B1.out.size)
  have X2 : Hid (Box w2 w.heap.size 28 #[.slice h.a0 vs.length h.c0, .slice h.a1 ws.length h.c1]) := X1.out.belowS hb
  have O2 : Hid (RdL w2 h2 vs ws) := o2.rd
  clear hb o2 X1 B1 x0 x1
  go_wp2_with fail
  refine (CS0.out f0 f1 w2 h2 B2.out O2.out).mono ?_
  rintro e w3 ⟨rfl, hb⟩
  have B3 : Hid (Below w.heap.size w w3) := B2.out.trans (hb.mono B2.out.size)
  have X3 : Hid (Box w3 w.heap.size 28 #[.slice h.a0 vs.length h.c0, .slice h.a1 ws.length h.c1]) := X2.out.belowS hb
  clear hb O2 X2 B2
  obtain ⟨x0, x1⟩ := box2 X3.out
  go_wp2_with fail
  refine (TO.out w3 B3.out).mono ?_
  rintro e w4 ⟨⟨h4, rfl, o4⟩, hb⟩
  obtain ⟨w5, hw5⟩ : ∃ W, w4.alloc (.cells #[.slice h4.a0 vs.length h4.c0, .slice h4.a1 ws.length h4.c1] 34) = W := ⟨_, rfl⟩
  have hb5 : Below w4.heap.size w4 w5 := by rw [← hw5]; exact (Below.refl _ _).alloc (Nat.le_refl _) _
  have B5 : Hid (Below w.heap.size w w5) := (B3.out.trans (hb.mono B3.out.size)).trans (hb5.mono (Nat.le_trans B3.out.size hb.size))
  have X5 : Hid (Box w5 w.heap.size 28 #[.slice h.a0 vs.length h.c0, .slice h.a1 ws.length h.c1]) := (X3.out.belowS hb).belowS hb5
  have Y5 : Hid (Box w5 w4.heap.size 34 #[.slice h4.a0 vs.length h4.c0, .slice h4.a1 ws.length h4.c1]) := by unfold Hid; rw [← hw5]; exact Box.new _ _ _
  have O5 : Hid (RdL w5 h4 vs ws) := o4.rd.below hb5
  clear hb hb5 o4 X3 B3 x0 x1
  obtain ⟨y0, y1⟩ := box2 Y5.out
  go_wp2_with fail
  refine (CI0.out f0 f1 w5 h4 B5.out O5.out).mono ?_
  rintro e w6 ⟨rfl, hb⟩
  have B6 : Hid (Below w.heap.size w w6) := B5.out.trans (hb.mono B5.out.size)
  have X6 : Hid (Box w6 w.heap.size 28 #[.slice h.a0 vs.length h.c0, .slice h.a1 ws.length h.c1]) := X5.out.belowS hb
  have Y6 : Hid (Box w6 w4.heap.size 34 #[.slice h4.a0 vs.length h4.c0, .slice h4.a1 ws.length h4.c1]) := Y5.out.belowS hb
  have O6 : Hid (RdL w6 h4 vs ws) := O5.out.below hb
  clear hb O5 X5 Y5 B5 y0 y1 hw5
  have hne : (RB != RB) = false := by simp
  have hne2 : (RC != RC) = false := by simp
  obtain ⟨x0, x1⟩ := box2 X6.out
  obtain ⟨y0, y1⟩ := box2 Y6.out
  go_wp2_with fail
  go_region_held3 (fun x => x.cell? ⟨w.heap.size, 0, none⟩ = some (.slice h.a0 vs.length h.c0) ∧ x.cell? ⟨w.heap.size, 1, none⟩ = some (.slice h.a1 ws.length h.c1) ∧ x.cell? ⟨w4.heap.size, 0, none⟩ = some (.slice h4.a0 vs.length h4.c0) ∧ x.cell? ⟨w4.heap.size, 1, none⟩ = some (.slice h4.a1 ws.length h4.c1))
    (first | go_keep | exact ⟨far6 hb7 x0, far6 hb7 x1, far6 hb7 y0, far6 hb7 y1⟩ | exact ⟨far6 hb8 (far6 hb7 x0), far6 hb8 (far6 hb7 x1), far6 hb8 (far6 hb7 y0), far6 hb8 (far6 hb7 y1)⟩)
    (first | (go_at_call 17; refine (TO.out _ (below_drewN B6.out _)).mono ?_; rintro e w7 ⟨⟨h7, rfl, o7⟩, hb7⟩)
           | (go_at_call 19; refine (c_eqL h4 h7 vs ws _ ((O6.out.below (below_drewN (Below.refl _ _) _)).below hb7) o7.rd f0 f1).mono ?_; rintro e w8 ⟨rfl, hb8⟩))
  all_goals
    have B8 : Below w.heap.size w w8 := ((below_drewN B6.out _).trans (hb7.mono B6.out.size)).trans (hb8.mono (Nat.le_trans B6.out.size hb7.size))
    clear hb7 hb8
    go_wp2
    go_ret
    exact ⟨rfl, B8⟩

end Go.Proofs.YtmkfclbamecgaaaDoor
