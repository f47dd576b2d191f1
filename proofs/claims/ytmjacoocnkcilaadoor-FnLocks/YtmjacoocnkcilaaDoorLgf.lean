/-
  WaitsRound on both sides.
-/
import Derived.Test.YtmjacoocnkcilaaDoorLge
import Derived.Test.YtmjacoocnkcilaaDoorLx
namespace Go.Proofs.YtmjacoocnkcilaaDoor
open Go Go.RowKit
attribute [local go_sem ↓] Go.wp_at_zero Go.wp_at_succ

open Classical in
noncomputable def rdB (ws : List WK) (x : Int) : Bool := decide (Rch ws x x)
theorem rdB_eq {ws : List WK} {x : Int} {b : Bool} (h : b = true ↔ Rch ws x x) : b = rdB ws x := by
  unfold rdB
  rw [Bool.eq_iff_iff, h]
  simp
noncomputable def wrB (vs : List LK) (ws : List WK) (x : Int) : Bool := okLs vs ws && inB x 1 60 && rdB ws x
def wrC (vs : List LK) (ws : List WK) (x : Int) : Int := if okLs vs ws = false then 1 else if inB x 1 60 = false then 4 else 0
theorem wr1 {vs : List LK} {ws : List WK} {x : Int} (h : okLs vs ws = false) : wrB vs ws x = false ∧ wrC vs ws x = 1 := by unfold wrB wrC; rw [h]; exact ⟨rfl, rfl⟩
theorem wr4 {vs : List LK} {ws : List WK} {x : Int} (h : okLs vs ws = true) (h2 : inB x 1 60 = false) : wrB vs ws x = false ∧ wrC vs ws x = 4 := by unfold wrB wrC; rw [h, h2]; exact ⟨rfl, rfl⟩
theorem wr0 {vs : List LK} {ws : List WK} {x : Int} (h : okLs vs ws = true) (h2 : inB x 1 60 = true) : wrB vs ws x = rdB ws x ∧ wrC vs ws x = 0 := by unfold wrB wrC; rw [h, h2]; exact ⟨rfl, rfl⟩
set_option maxRecDepth 100000 in
set_option maxHeartbeats 8000000 in
theorem c_specWR (h : HL) (vs : List LK) (ws : List WK) (x : Int) (w : World) (rd : RdL w h vs ws) (f0 : vs.length ≤ 1048576) (f1 : ws.length ≤ 1048576) :
    Calls Tryd.prog 31 #[.agg #[.slice h.a0 vs.length h.c0, .slice h.a1 ws.length h.c1], .int .i64 x] w fun e w' => e = .returned (.tuple #[.bool (wrB vs ws x), .int .i64 (wrC vs ws x)]) ∧ Below w.heap.size w w' := by
  have R : Hid (RdL w h vs ws) := rd
  obtain ⟨V, hV⟩ : ∃ V, w.alloc (.cells #[.slice h.a0 vs.length h.c0, .slice h.a1 ws.length h.c1] 34) = V := ⟨_, rfl⟩
  have B : Hid (Below w.heap.size w V) := by unfold Hid; rw [← hV]; exact (Below.refl _ _).alloc (Nat.le_refl _) _
  have X : Hid (Box V w.heap.size 34 #[.slice h.a0 vs.length h.c0, .slice h.a1 ws.length h.c1]) := by unfold Hid; rw [← hV]; exact Box.new _ _ _
  obtain ⟨x0, x1⟩ := box2 X.out
  obtain ⟨p, hp⟩ : ∃ p, okLs vs ws = p := ⟨_, rfl⟩
  obtain ⟨q, hq⟩ : ∃ q, inB x 1 60 = q := ⟨_, rfl⟩
  have C : Hid (Calls Tryd.prog 16 #[.agg #[.slice h.a0 vs.length h.c0, .slice h.a1 ws.length h.c1]] V fun e w' => e = .returned (.bool p) ∧ Below V.heap.size V w') := by unfold Hid; rw [← hp]; exact c_specLO h vs ws V (R.out.below B.out) f0 f1
  have CX : Hid (∀ W : World, Calls Tryd.prog 39 #[.int .i64 x, .int .i64 1, .int .i64 60] W fun e w' => e = .returned (.bool q) ∧ w' = W) := fun W => by rw [← hq]; exact c_in x 1 60 W
  clear rd
  go_enter Tryd.func31, Tryd.ntmps31
  go_wp2_with fail
  refine C.out.mono ?_
  rintro e w1 ⟨rfl, hb⟩
  have B1 : Hid (Below w.heap.size w w1) := B.out.trans (hb.mono B.out.size)
  have X1 : Hid (Box w1 w.heap.size 34 #[.slice h.a0 vs.length h.c0, .slice h.a1 ws.length h.c1]) := X.out.belowS hb
  clear hb x0 x1 C X B hV
  obtain ⟨x0, x1⟩ := box2 X1.out
  cases p
  · have E : Hid (_ ∧ _) := wr1 (x := x) hp
    clear hp hq
    go_wp2
    go_ret2
    exact ⟨by rw [E.out.1, E.out.2]; rfl, B1.out⟩
  go_wp2_with fail
  refine (CX.out w1).mono ?_
  rintro e wq ⟨rfl, hwq⟩; rw [hwq]; clear hwq
  cases q
  · have E : Hid (_ ∧ _) := wr4 hp hq
    clear hp hq
    go_wp2
    go_ret2
    exact ⟨by rw [E.out.1, E.out.2]; rfl, B1.out⟩
  have E : Hid (_ ∧ _) := wr0 hp hq
  have HW : Hid (ws.all okW = true) := (okLs_parts hp).2.2.2
  have bx := inB_iff.1 hq
  clear hp hq
  go_wp2_with fail
  refine (c_l06Round h vs ws x w1 (R.out.below B1.out) f1 HW.out bx).mono ?_
  rintro e w2 ⟨⟨b, rfl, hb'⟩, hb⟩
  have hbe := rdB_eq hb'
  subst hbe
  have B2 : Hid (Below w.heap.size w w2) := B1.out.trans (hb.mono B1.out.size)
  clear hb hb'
  go_wp2
  go_ret2
  exact ⟨by rw [E.out.1, E.out.2]; rfl, B2.out⟩
set_option maxRecDepth 100000 in
set_option maxHeartbeats 8000000 in
theorem c_implWR (h : HL) (vs : List LK) (ws : List WK) (x : Int) (w : World) (rd : RdL w h vs ws) (f0 : vs.length ≤ 1048576) (f1 : ws.length ≤ 1048576) (ht : FitH w) (hz : TabZ w) :
    Calls Tryd.prog 32 #[.agg #[.slice h.a0 vs.length h.c0, .slice h.a1 ws.length h.c1], .int .i64 x] w fun e w' => e = .returned (.tuple #[.bool (wrB vs ws x), .int .i64 (wrC vs ws x)]) ∧ Below w.heap.size w w' := by
  have R : Hid (RdL w h vs ws) := rd
  obtain ⟨V, hV⟩ : ∃ V, w.alloc (.cells #[.slice h.a0 vs.length h.c0, .slice h.a1 ws.length h.c1] 34) = V := ⟨_, rfl⟩
  have B : Hid (Below w.heap.size w V) := by unfold Hid; rw [← hV]; exact (Below.refl _ _).alloc (Nat.le_refl _) _
  have X : Hid (Box V w.heap.size 34 #[.slice h.a0 vs.length h.c0, .slice h.a1 ws.length h.c1]) := by unfold Hid; rw [← hV]; exact Box.new _ _ _
  obtain ⟨x0, x1⟩ := box2 X.out
  obtain ⟨p, hp⟩ : ∃ p, okLs vs ws = p := ⟨_, rfl⟩
  obtain ⟨q, hq⟩ : ∃ q, inB x 1 60 = q := ⟨_, rfl⟩
  have C : Hid (Calls Tryd.prog 18 #[.agg #[.slice h.a0 vs.length h.c0, .slice h.a1 ws.length h.c1]] V fun e w' => e = .returned (.bool p) ∧ Below V.heap.size V w') := by unfold Hid; rw [← hp]; exact c_implLO h vs ws V (R.out.below B.out) f0 f1 (ht.below B.out)
  have CX : Hid (∀ W : World, Calls Tryd.prog 56 #[.int .i64 x] W fun e w' => e = .returned (.bool q) ∧ w' = W) := fun W => by rw [← hq]; exact c_isTx x W
  have HZ : Hid (TabZ w) := hz
  clear rd ht hz
  go_enter Tryd.func32, Tryd.ntmps32
  go_wp2_with fail
  refine C.out.mono ?_
  rintro e w1 ⟨rfl, hb⟩
  have B1 : Hid (Below w.heap.size w w1) := B.out.trans (hb.mono B.out.size)
  have X1 : Hid (Box w1 w.heap.size 34 #[.slice h.a0 vs.length h.c0, .slice h.a1 ws.length h.c1]) := X.out.belowS hb
  clear hb x0 x1 C X B hV
  obtain ⟨x0, x1⟩ := box2 X1.out
  cases p
  · have E : Hid (_ ∧ _) := wr1 (x := x) hp
    clear hp hq
    go_wp2
    go_ret2
    exact ⟨by rw [E.out.1, E.out.2]; rfl, B1.out⟩
  go_wp2_with fail
  refine (CX.out w1).mono ?_
  rintro e wq ⟨rfl, hwq⟩; rw [hwq]; clear hwq
  cases q
  · have E : Hid (_ ∧ _) := wr4 hp hq
    clear hp hq
    go_wp2
    go_ret2
    exact ⟨by rw [E.out.1, E.out.2]; rfl, B1.out⟩
  have E : Hid (_ ∧ _) := wr0 hp hq
  have HW : Hid (ws.all okW = true) := (okLs_parts hp).2.2.2
  have bx := inB_iff.1 hq
  clear hp hq
  obtain ⟨xn, hxn⟩ : ∃ xn : Nat, x = (xn : Int) := ⟨x.toNat, by omega⟩
  have CL : Hid (Calls Tryd.prog 65 #[.slice h.a1 ws.length h.c1, .int .i64 x] w1 fun e w' => (∃ b : Bool, e = .returned (.bool b) ∧ (b = true ↔ Rch ws x x)) ∧ Below w1.heap.size w1 w') := by
    unfold Hid
    rw [hxn]
    exact c_lead h.a1 _ h.c1 ws xn w1 (R.out.2.below B1.out) f1 HW.out (by omega) (HZ.out.below B1.out)
  clear hxn
  go_wp2_with fail
  refine CL.out.mono ?_
  rintro e w2 ⟨⟨b, rfl, hb'⟩, hb⟩
  have hbe := rdB_eq hb'
  subst hbe
  have B2 : Hid (Below w.heap.size w w2) := B1.out.trans (hb.mono B1.out.size)
  clear hb hb'
  go_wp2
  go_ret2
  exact ⟨by rw [E.out.1, E.out.2]; rfl, B2.out⟩

end Go.Proofs.YtmjacoocnkcilaaDoor
