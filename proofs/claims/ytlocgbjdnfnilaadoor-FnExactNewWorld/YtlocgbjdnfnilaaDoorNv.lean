/-
  Stores as they are made: alike, marked, held.
-/
import Derived.Test.YtlocgbjdnfnilaaDoorNt
namespace Go.Proofs.YtlocgbjdnfnilaaDoor
open Go Go.RowKit
attribute [local go_sem ↓] Go.wp_at_zero Go.wp_at_succ


/-- Where such a store's lists lie. -/
structure HS where
  a0 : Option Addr
  c0 : Nat
  a1 : Option Addr
  c1 : Nat
  a2 : Option Addr
  c2 : Nat
  a3 : Option Addr
  c3 : Nat
  a4 : Option Addr
  c4 : Nat
theorem box4d {w : World} {g : Nat} {t : TypeId} {v0 v1 v2 v3 : Value} (h : Box w g t #[v0, v1, v2, v3]) : w.cell? ⟨g, 0, none⟩ = some v0 ∧ w.cell? ⟨g, 1, none⟩ = some v1 ∧ w.cell? ⟨g, 2, none⟩ = some v2 ∧ w.cell? ⟨g, 3, none⟩ = some v3 := ⟨h.cell 0, h.cell 1, h.cell 2, h.cell 3⟩
theorem box9 {w : World} {g : Nat} {t : TypeId} {v0 v1 v2 v3 v4 v5 v6 v7 v8 : Value} (h : Box w g t #[v0, v1, v2, v3, v4, v5, v6, v7, v8]) : w.cell? ⟨g, 0, none⟩ = some v0 ∧ w.cell? ⟨g, 1, none⟩ = some v1 ∧ w.cell? ⟨g, 2, none⟩ = some v2 ∧ w.cell? ⟨g, 3, none⟩ = some v3 ∧ w.cell? ⟨g, 4, none⟩ = some v4 ∧ w.cell? ⟨g, 5, none⟩ = some v5 ∧ w.cell? ⟨g, 6, none⟩ = some v6 ∧ w.cell? ⟨g, 7, none⟩ = some v7 ∧ w.cell? ⟨g, 8, none⟩ = some v8 :=
  ⟨h.cell 0, h.cell 1, h.cell 2, h.cell 3, h.cell 4, h.cell 5, h.cell 6, h.cell 7, h.cell 8⟩
set_option maxRecDepth 100000 in
set_option maxHeartbeats 2000000 in
theorem c_eqD0 (h h' : HS) (S : List ByteArray) (w : World) (r : RdV w h.a0 69 (S.map Value.string)) (r' : RdV w h'.a0 69 (S.map Value.string)) :
    Calls Tryd.prog 37 #[.agg #[.slice h.a0 69 h.c0, .slice h.a1 0 h.c1, .bool false, .slice h.a2 0 h.c2], .agg #[.slice h'.a0 69 h'.c0, .slice h'.a1 0 h'.c1, .bool false, .slice h'.a2 0 h'.c2]] w fun e w' => e = .returned (.bool true) ∧ Below w.heap.size w w' := by
  have R : Hid (RdV w h.a0 69 (S.map Value.string)) := r
  have R' : Hid (RdV w h'.a0 69 (S.map Value.string)) := r'
  clear r r'
  obtain ⟨V, hV⟩ : ∃ V, (w.alloc (.cells #[.slice h.a0 69 h.c0, .slice h.a1 0 h.c1, .bool false, .slice h.a2 0 h.c2] 26)).alloc (.cells #[.slice h'.a0 69 h'.c0, .slice h'.a1 0 h'.c1, .bool false, .slice h'.a2 0 h'.c2] 26) = V := ⟨_, rfl⟩
  have HB : Hid (Below w.heap.size w V) := by unfold Hid; rw [← hV]; exact ((Below.refl _ _).alloc (Nat.le_refl _) _).alloc (by simp) _
  have x1 : Box V w.heap.size 26 #[.slice h.a0 69 h.c0, .slice h.a1 0 h.c1, .bool false, .slice h.a2 0 h.c2] := by rw [← hV]; exact (Box.new _ _ _).alloc _
  have x2 : Box V (w.heap.size + 1) 26 #[.slice h'.a0 69 h'.c0, .slice h'.a1 0 h'.c1, .bool false, .slice h'.a2 0 h'.c2] := by rw [← hV]; exact Box.new2 _ _ _ _
  obtain ⟨v0, v1, v2, v3⟩ := box4d x1
  obtain ⟨u0, u1, u2, u3⟩ := box4d x2
  go_enter Tryd.func37, Tryd.ntmps37
  go_wp2_with fail
  refine (c_eqS h.a0 h'.a0 _ _ _ _ S S _ (R.out.below HB.out) (R'.out.below HB.out) (by omega) (by omega)).mono ?_
  rintro e w1 ⟨rfl, q1, hq⟩
  have B1 : Hid (Below w.heap.size w w1) := by unfold Hid; rw [hq]; exact below_drewN HB.out q1
  have y1 := x1.drewN q1
  have y2 := x2.drewN q1
  rw [← hq] at y1 y2
  clear hq v0 v1 v2 v3 u0 u1 u2 u3 x1 x2 hV HB
  rw [decide_eq_true (rfl : S = S)]
  obtain ⟨v0, v1, v2, v3⟩ := box4d y1
  obtain ⟨u0, u1, u2, u3⟩ := box4d y2
  clear y1 y2
  go_wp2_with (first
    | (go_at_call 58; refine (c_eqPending0 _ _ _ _ _).mono ?_; rintro e w' ⟨rfl, hq⟩; have hq' := hq.symm; subst hq'; clear hq)
    | (go_at_call 15; refine (c_eqInt0 _ _ _ _ _).mono ?_; rintro e w' ⟨rfl, hq⟩; have hq' := hq.symm; subst hq'; clear hq))
  go_ret
  exact ⟨rfl, B1.out⟩
set_option maxRecDepth 100000 in
set_option maxHeartbeats 2000000 in
theorem c_eqSt (h h' : HS) (S : List ByteArray) (w : World) (r : RdV w h.a0 69 (S.map Value.string)) (r' : RdV w h'.a0 69 (S.map Value.string)) :
    Calls Tryd.prog 23 #[.agg #[.slice h.a0 69 h.c0, .slice h.a1 0 h.c1, .bool false, .slice h.a2 0 h.c2, .int .i64 1, .slice h.a3 0 h.c3, .int .i64 0, .slice h.a4 0 h.c4, .int .i64 0], .agg #[.slice h'.a0 69 h'.c0, .slice h'.a1 0 h'.c1, .bool false, .slice h'.a2 0 h'.c2, .int .i64 1, .slice h'.a3 0 h'.c3, .int .i64 0, .slice h'.a4 0 h'.c4, .int .i64 0]] w fun e w' => e = .returned (.bool true) ∧ Below w.heap.size w w' := by
  have R : Hid (RdV w h.a0 69 (S.map Value.string)) := r
  have R' : Hid (RdV w h'.a0 69 (S.map Value.string)) := r'
  clear r r'
  obtain ⟨V, hV⟩ : ∃ V, (w.alloc (.cells #[.slice h.a0 69 h.c0, .slice h.a1 0 h.c1, .bool false, .slice h.a2 0 h.c2, .int .i64 1, .slice h.a3 0 h.c3, .int .i64 0, .slice h.a4 0 h.c4, .int .i64 0] 30)).alloc (.cells #[.slice h'.a0 69 h'.c0, .slice h'.a1 0 h'.c1, .bool false, .slice h'.a2 0 h'.c2, .int .i64 1, .slice h'.a3 0 h'.c3, .int .i64 0, .slice h'.a4 0 h'.c4, .int .i64 0] 30) = V := ⟨_, rfl⟩
  have HB : Hid (Below w.heap.size w V) := by unfold Hid; rw [← hV]; exact ((Below.refl _ _).alloc (Nat.le_refl _) _).alloc (by simp) _
  have x1 : Box V w.heap.size 30 #[.slice h.a0 69 h.c0, .slice h.a1 0 h.c1, .bool false, .slice h.a2 0 h.c2, .int .i64 1, .slice h.a3 0 h.c3, .int .i64 0, .slice h.a4 0 h.c4, .int .i64 0] := by rw [← hV]; exact (Box.new _ _ _).alloc _
  have x2 : Box V (w.heap.size + 1) 30 #[.slice h'.a0 69 h'.c0, .slice h'.a1 0 h'.c1, .bool false, .slice h'.a2 0 h'.c2, .int .i64 1, .slice h'.a3 0 h'.c3, .int .i64 0, .slice h'.a4 0 h'.c4, .int .i64 0] := by rw [← hV]; exact Box.new2 _ _ _ _
  obtain ⟨v0, v1, v2, v3, v4, v5, v6, v7, v8⟩ := box9 x1
  obtain ⟨u0, u1, u2, u3, u4, u5, u6, u7, u8⟩ := box9 x2
  go_enter Tryd.func23, Tryd.ntmps23
  go_wp2_with fail
  refine (c_eqD0 h h' S V (R.out.below HB.out) (R'.out.below HB.out)).mono ?_
  rintro e w1 ⟨rfl, hb⟩
  have B1 : Hid (Below w.heap.size w w1) := HB.out.trans (hb.mono HB.out.size)
  have y1 := x1.belowS hb
  have y2 := x2.belowS hb
  clear hb v0 v1 v2 v3 v4 v5 v6 v7 v8 u0 u1 u2 u3 u4 u5 u6 u7 u8 x1 x2 hV HB
  obtain ⟨v0, v1, v2, v3, v4, v5, v6, v7, v8⟩ := box9 y1
  obtain ⟨u0, u1, u2, u3, u4, u5, u6, u7, u8⟩ := box9 y2
  clear y1 y2
  go_wp2_with (first
    | (go_at_call 38; refine (c_eqLogRecord0 _ _ _ _ _).mono ?_; rintro e w' ⟨rfl, hq⟩; have hq' := hq.symm; subst hq'; clear hq)
    | (go_at_call 39; refine (c_eqFrame0 _ _ _ _ _).mono ?_; rintro e w' ⟨rfl, hq⟩; have hq' := hq.symm; subst hq'; clear hq))
  go_ret
  exact ⟨rfl, B1.out⟩
set_option maxRecDepth 100000 in
set_option maxHeartbeats 2000000 in
theorem c_markD0 (h : HS) (B E : Nat) (xs : List Value) (w : World) (o : w.ownsRow B 9 1 (.slice h.a0 69 h.c0) 69 xs) (hE : ∀ g, ob h.a0 = some g → g < E) (hw : E ≤ w.heap.size) :
    Calls Tryd.prog 43 #[.agg #[.slice h.a0 69 h.c0, .slice h.a1 0 h.c1, .bool false, .slice h.a2 0 h.c2], .int .i64 1] w fun e w' => e = .returned (.int .i64 70) ∧ w'.ownsRow B 9 1 (.slice h.a0 69 h.c0) 69 (marksS 1 69) ∧ Inn B E w w' := by
  have O : Hid (w.ownsRow B 9 1 (.slice h.a0 69 h.c0) 69 xs) := o
  have HE : Hid (∀ g, ob h.a0 = some g → B ≤ g ∧ g < E) := fun g e => ⟨(o.lt g (by rw [ob_slice]; exact e)).1, hE g e⟩
  clear o hE
  obtain ⟨V, hV⟩ : ∃ V, w.alloc (.cells #[.slice h.a0 69 h.c0, .slice h.a1 0 h.c1, .bool false, .slice h.a2 0 h.c2] 26) = V := ⟨_, rfl⟩
  have HB : Hid (Below w.heap.size w V) := by unfold Hid; rw [← hV]; exact (Below.refl _ _).alloc (Nat.le_refl _) _
  have OV : Hid (V.ownsRow B 9 1 (.slice h.a0 69 h.c0) 69 xs) := by unfold Hid; rw [← hV]; exact O.out.alloc _
  have x1 : Box V w.heap.size 26 #[.slice h.a0 69 h.c0, .slice h.a1 0 h.c1, .bool false, .slice h.a2 0 h.c2] := by rw [← hV]; exact Box.new _ _ _
  have hsz := HB.out.size
  obtain ⟨v0, v1, v2, v3⟩ := box4d x1
  go_enter Tryd.func43, Tryd.ntmps43
  go_wp2_with fail
  refine (c_markS B _ 69 1 xs V OV.out (by omega) (by omega) (by omega)).mono ?_
  rintro e w1 ⟨rfl, om, hg⟩
  have hi : Inn B E V w1 := Inn.of_grown hg (fun g e => HE.out g (by rw [← ob_slice]; exact e))
  clear hg
  have y1 : Box w1 w.heap.size 26 #[.slice h.a0 69 h.c0, .slice h.a1 0 h.c1, .bool false, .slice h.a2 0 h.c2] := x1.innO hi (.inr hw)
  have I1 : Hid (Inn B E w w1) := (Inn.of_below HB.out).trans hi
  have O1 : Hid (w1.ownsRow B 9 1 (.slice h.a0 69 h.c0) 69 (marksS 1 69)) := om
  clear om hi v0 v1 v2 v3 x1 hV HB OV O
  obtain ⟨v0, v1, v2, v3⟩ := box4d y1
  clear y1
  go_wp2_with (first
    | (go_at_call 64; refine (c_markPending0 _ _ _ _).mono ?_; rintro e w' ⟨rfl, hq⟩; have hq' := hq.symm; subst hq'; clear hq)
    | (go_at_call 17; refine (c_markInt0 _ _ _ _).mono ?_; rintro e w' ⟨rfl, hq⟩; have hq' := hq.symm; subst hq'; clear hq))
  go_ret
  exact ⟨rfl, O1.out, I1.out⟩
set_option maxRecDepth 100000 in
set_option maxHeartbeats 2000000 in
theorem c_markSt (h : HS) (B E : Nat) (xs : List Value) (w : World) (o : w.ownsRow B 9 1 (.slice h.a0 69 h.c0) 69 xs) (hE : ∀ g, ob h.a0 = some g → g < E) (hw : E ≤ w.heap.size) :
    Calls Tryd.prog 26 #[.agg #[.slice h.a0 69 h.c0, .slice h.a1 0 h.c1, .bool false, .slice h.a2 0 h.c2, .int .i64 1, .slice h.a3 0 h.c3, .int .i64 0, .slice h.a4 0 h.c4, .int .i64 0], .int .i64 1] w fun e w' => e = .returned (.int .i64 70) ∧ w'.ownsRow B 9 1 (.slice h.a0 69 h.c0) 69 (marksS 1 69) ∧ Inn B E w w' := by
  have O : Hid (w.ownsRow B 9 1 (.slice h.a0 69 h.c0) 69 xs) := o
  have HE : Hid (∀ g, ob h.a0 = some g → B ≤ g ∧ g < E) := fun g e => ⟨(o.lt g (by rw [ob_slice]; exact e)).1, hE g e⟩
  clear o hE
  obtain ⟨V, hV⟩ : ∃ V, w.alloc (.cells #[.slice h.a0 69 h.c0, .slice h.a1 0 h.c1, .bool false, .slice h.a2 0 h.c2, .int .i64 1, .slice h.a3 0 h.c3, .int .i64 0, .slice h.a4 0 h.c4, .int .i64 0] 30) = V := ⟨_, rfl⟩
  have HB : Hid (Below w.heap.size w V) := by unfold Hid; rw [← hV]; exact (Below.refl _ _).alloc (Nat.le_refl _) _
  have OV : Hid (V.ownsRow B 9 1 (.slice h.a0 69 h.c0) 69 xs) := by unfold Hid; rw [← hV]; exact O.out.alloc _
  have x1 : Box V w.heap.size 30 #[.slice h.a0 69 h.c0, .slice h.a1 0 h.c1, .bool false, .slice h.a2 0 h.c2, .int .i64 1, .slice h.a3 0 h.c3, .int .i64 0, .slice h.a4 0 h.c4, .int .i64 0] := by rw [← hV]; exact Box.new _ _ _
  have hsz := HB.out.size
  obtain ⟨v0, v1, v2, v3, v4, v5, v6, v7, v8⟩ := box9 x1
  go_enter Tryd.func26, Tryd.ntmps26
  go_wp2_with fail
  refine (c_markD0 h B E xs V OV.out (fun g e => (HE.out g e).2) (by omega)).mono ?_
  rintro e w1 ⟨rfl, om, hi⟩
  have y1 : Box w1 w.heap.size 30 #[.slice h.a0 69 h.c0, .slice h.a1 0 h.c1, .bool false, .slice h.a2 0 h.c2, .int .i64 1, .slice h.a3 0 h.c3, .int .i64 0, .slice h.a4 0 h.c4, .int .i64 0] := x1.innO hi (.inr hw)
  have I1 : Hid (Inn B E w w1) := (Inn.of_below HB.out).trans hi
  have O1 : Hid (w1.ownsRow B 9 1 (.slice h.a0 69 h.c0) 69 (marksS 1 69)) := om
  clear om hi v0 v1 v2 v3 v4 v5 v6 v7 v8 x1 hV HB OV O
  obtain ⟨v0, v1, v2, v3, v4, v5, v6, v7, v8⟩ := box9 y1
  clear y1
  go_wp2_with (first
    | (go_at_call 44; refine (c_markLogRecord0 _ _ _ _).mono ?_; rintro e w' ⟨rfl, hq⟩; have hq' := hq.symm; subst hq'; clear hq)
    | (go_at_call 45; refine (c_markFrame0 _ _ _ _).mono ?_; rintro e w' ⟨rfl, hq⟩; have hq' := hq.symm; subst hq'; clear hq))
  go_ret
  exact ⟨rfl, O1.out, I1.out⟩
set_option maxRecDepth 100000 in
set_option maxHeartbeats 2000000 in
theorem c_heldD0 (h : HS) (w : World) (r : RdV w h.a0 69 (marksS 1 69)) :
    Calls Tryd.prog 48 #[.agg #[.slice h.a0 69 h.c0, .slice h.a1 0 h.c1, .bool false, .slice h.a2 0 h.c2], .int .i64 1] w fun e w' => e = .returned (.int .i64 70) ∧ Below w.heap.size w w' := by
  have R : Hid (RdV w h.a0 69 (marksS 1 69)) := r
  clear r
  obtain ⟨V, hV⟩ : ∃ V, w.alloc (.cells #[.slice h.a0 69 h.c0, .slice h.a1 0 h.c1, .bool false, .slice h.a2 0 h.c2] 26) = V := ⟨_, rfl⟩
  have HB : Hid (Below w.heap.size w V) := by unfold Hid; rw [← hV]; exact (Below.refl _ _).alloc (Nat.le_refl _) _
  have x1 : Box V w.heap.size 26 #[.slice h.a0 69 h.c0, .slice h.a1 0 h.c1, .bool false, .slice h.a2 0 h.c2] := by rw [← hV]; exact Box.new _ _ _
  obtain ⟨v0, v1, v2, v3⟩ := box4d x1
  go_enter Tryd.func48, Tryd.ntmps48
  go_wp2_with fail
  refine (c_heldS h.a0 69 h.c0 1 V (R.out.below HB.out) (by omega) (by omega) (by omega)).mono ?_
  rintro e w1 ⟨rfl, hb⟩
  have B1 : Hid (Below w.heap.size w w1) := HB.out.trans (hb.mono HB.out.size)
  have y1 := x1.belowS hb
  clear hb v0 v1 v2 v3 x1 hV HB R
  obtain ⟨v0, v1, v2, v3⟩ := box4d y1
  clear y1
  go_wp2_with (first
    | (go_at_call 66; refine (c_heldPending0 _ _ _ _).mono ?_; rintro e w' ⟨rfl, hq⟩; have hq' := hq.symm; subst hq'; clear hq)
    | (go_at_call 19; refine (c_heldInt0 _ _ _ _).mono ?_; rintro e w' ⟨rfl, hq⟩; have hq' := hq.symm; subst hq'; clear hq))
  go_ret
  exact ⟨rfl, B1.out⟩
set_option maxRecDepth 100000 in
set_option maxHeartbeats 2000000 in
theorem c_heldSt (h : HS) (w : World) (r : RdV w h.a0 69 (marksS 1 69)) :
    Calls Tryd.prog 29 #[.agg #[.slice h.a0 69 h.c0, .slice h.a1 0 h.c1, .bool false, .slice h.a2 0 h.c2, .int .i64 1, .slice h.a3 0 h.c3, .int .i64 0, .slice h.a4 0 h.c4, .int .i64 0], .int .i64 1] w fun e w' => e = .returned (.int .i64 70) ∧ Below w.heap.size w w' := by
  have R : Hid (RdV w h.a0 69 (marksS 1 69)) := r
  clear r
  obtain ⟨V, hV⟩ : ∃ V, w.alloc (.cells #[.slice h.a0 69 h.c0, .slice h.a1 0 h.c1, .bool false, .slice h.a2 0 h.c2, .int .i64 1, .slice h.a3 0 h.c3, .int .i64 0, .slice h.a4 0 h.c4, .int .i64 0] 30) = V := ⟨_, rfl⟩
  have HB : Hid (Below w.heap.size w V) := by unfold Hid; rw [← hV]; exact (Below.refl _ _).alloc (Nat.le_refl _) _
  have x1 : Box V w.heap.size 30 #[.slice h.a0 69 h.c0, .slice h.a1 0 h.c1, .bool false, .slice h.a2 0 h.c2, .int .i64 1, .slice h.a3 0 h.c3, .int .i64 0, .slice h.a4 0 h.c4, .int .i64 0] := by rw [← hV]; exact Box.new _ _ _
  obtain ⟨v0, v1, v2, v3, v4, v5, v6, v7, v8⟩ := box9 x1
  go_enter Tryd.func29, Tryd.ntmps29
  go_wp2_with fail
  refine (c_heldD0 h V (R.out.below HB.out)).mono ?_
  rintro e w1 ⟨rfl, hb⟩
  have B1 : Hid (Below w.heap.size w w1) := HB.out.trans (hb.mono HB.out.size)
  have y1 := x1.belowS hb
  clear hb v0 v1 v2 v3 v4 v5 v6 v7 v8 x1 hV HB R
  obtain ⟨v0, v1, v2, v3, v4, v5, v6, v7, v8⟩ := box9 y1
  clear y1
  go_wp2_with (first
    | (go_at_call 49; refine (c_heldLogRecord0 _ _ _ _).mono ?_; rintro e w' ⟨rfl, hq⟩; have hq' := hq.symm; subst hq'; clear hq)
    | (go_at_call 50; refine (c_heldFrame0 _ _ _ _).mono ?_; rintro e w' ⟨rfl, hq⟩; have hq' := hq.symm; subst hq'; clear hq))
  go_ret
  exact ⟨rfl, B1.out⟩

end Go.Proofs.YtlocgbjdnfnilaaDoor
