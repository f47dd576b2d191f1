/-
  BinaryValue: the specification's, more leaves.
-/
import Derived.Test.YtcgcaomaofppiaaDoorBvc
namespace Go.Proofs.YtcgcaomaofppiaaDoor
open Go Go.RowKit
set_option linter.unusedVariables false

set_option maxRecDepth 100000 in
set_option maxHeartbeats 2000000 in
theorem c_l10B_1300 (op : Int) (k n : Int) (t : ByteArray) (k' n' : Int) (t' : ByteArray) (w : World) (o12 : (op == 12) = false) (o13 : (op == 13) = true) (k2 : (k == 2) = false) (j2 : (k' == 2) = false) (k1 : (k == 1) = true) (k0 : (k == 0) = false) (n0 : (n == 0) = false) (nn : (n != 0) = true) (j1 : (k' == 1) = true) (j0 : (k' == 0) = false) (m0 : (n' == 0) = false) (mm : (n' != 0) = true) (E : Hid (binR op k n t k' n' t' = ⟨1, 1, 0⟩)) :
    Calls Tryd.prog 44 #[.int .i64 op, .agg #[.int .i64 k, .int .i64 n, .string t], .agg #[.int .i64 k', .int .i64 n', .string t']] w fun e w' => e = .returned (.tuple #[.agg #[.int .i64 (binR op k n t k' n' t').k, .int .i64 (binR op k n t k' n' t').n, .string ⟨#[]⟩], .int .i64 (binR op k n t k' n' t').c]) ∧ Below w.heap.size w w' := by
  obtain ⟨w0, hV0⟩ : ∃ V, ((w.alloc (.cells #[.int .i64 k, .int .i64 n, .string t] 29)).alloc (.cells #[.int .i64 k', .int .i64 n', .string t'] 29)).alloc (.cells #[.int .i64 0, .int .i64 0, .string ⟨#[]⟩] 29) = V := ⟨_, rfl⟩
  have B0 : Hid (Below w.heap.size w w0) := by unfold Hid; rw [← hV0]; exact (((Below.refl _ _).alloc (Nat.le_refl _) _).alloc (by simp) _).alloc (by simp; omega) _
  have A0 : Hid (Box w0 w.heap.size 29 #[.int .i64 k, .int .i64 n, .string t]) := by unfold Hid; rw [← hV0]; exact ((Box.new _ _ _).alloc _).alloc _
  have D0 : Hid (Box w0 (w.heap.size + 1) 29 #[.int .i64 k', .int .i64 n', .string t']) := by unfold Hid; rw [← hV0]; exact (Box.new2 _ _ _ _).alloc _
  have X0 : Hid (Box w0 (w.heap.size + 2) 29 #[.int .i64 0, .int .i64 0, .string ⟨#[]⟩]) := by unfold Hid; rw [← hV0]; have := Box.new2 (w.alloc (.cells #[.int .i64 k, .int .i64 n, .string t] 29)) (.cells #[.int .i64 k', .int .i64 n', .string t'] 29) #[.int .i64 0, .int .i64 0, .string ⟨#[]⟩] 29; simpa using this
  obtain ⟨q0, q1, q2⟩ := box3 A0.out
  obtain ⟨p0, p1, p2⟩ := box3 D0.out
  obtain ⟨x0, x1, x2⟩ := box3 X0.out
  have t0 := X0.out.thaw 0
  have t1 := X0.out.thaw 1
  have t2 := X0.out.thaw 2
  go_enter Tryd.func44, Tryd.ntmps44
  go_wp2_with fail
  refine (c_l10Int 1 _).mono ?_
  rintro e w1 ⟨rfl, hb⟩
  have B1 : Hid (Below w.heap.size w w1) := B0.out.trans (hb.mono B0.out.size)
  have A1 : Hid (Box w1 w.heap.size 29 #[.int .i64 k, .int .i64 n, .string t]) := A0.out.belowS hb
  have D1 : Hid (Box w1 (w.heap.size + 1) 29 #[.int .i64 k', .int .i64 n', .string t']) := D0.out.belowS hb
  have X1 : Hid (Box w1 (w.heap.size + 2) 29 #[.int .i64 0, .int .i64 0, .string ⟨#[]⟩]) := X0.out.belowS hb
  clear hb q0 q1 q2 p0 p1 p2 x0 x1 x2 t0 t1 t2
  obtain ⟨q0, q1, q2⟩ := box3 A1.out
  obtain ⟨p0, p1, p2⟩ := box3 D1.out
  obtain ⟨x0, x1, x2⟩ := box3 X1.out
  have t0 := X1.out.thaw 0
  have t1 := X1.out.thaw 1
  have t2 := X1.out.thaw 2
  go_wp2
  refine ret32 Tryd.results44 rfl rfl rfl (put3_box X1.out _ _ _) ⟨?_, put3_below B1.out (by omega) _ _ _⟩
  rw [E.out]
  rfl
set_option maxRecDepth 100000 in
set_option maxHeartbeats 2000000 in
theorem c_l10B_rT1 (op : Int) (k n : Int) (t : ByteArray) (k' n' : Int) (t' : ByteArray) (w : World) (o12 : (op == 12) = false) (o13 : (op == 13) = false) (o10 : (op == 10) = false) (o11 : (op == 11) = false) (k2 : (k == 2) = true) (E : Hid (binR op k n t k' n' t' = ⟨0, 0, 10⟩)) :
    Calls Tryd.prog 44 #[.int .i64 op, .agg #[.int .i64 k, .int .i64 n, .string t], .agg #[.int .i64 k', .int .i64 n', .string t']] w fun e w' => e = .returned (.tuple #[.agg #[.int .i64 (binR op k n t k' n' t').k, .int .i64 (binR op k n t k' n' t').n, .string ⟨#[]⟩], .int .i64 (binR op k n t k' n' t').c]) ∧ Below w.heap.size w w' := by
  obtain ⟨w0, hV0⟩ : ∃ V, ((w.alloc (.cells #[.int .i64 k, .int .i64 n, .string t] 29)).alloc (.cells #[.int .i64 k', .int .i64 n', .string t'] 29)).alloc (.cells #[.int .i64 0, .int .i64 0, .string ⟨#[]⟩] 29) = V := ⟨_, rfl⟩
  have B0 : Hid (Below w.heap.size w w0) := by unfold Hid; rw [← hV0]; exact (((Below.refl _ _).alloc (Nat.le_refl _) _).alloc (by simp) _).alloc (by simp; omega) _
  have A0 : Hid (Box w0 w.heap.size 29 #[.int .i64 k, .int .i64 n, .string t]) := by unfold Hid; rw [← hV0]; exact ((Box.new _ _ _).alloc _).alloc _
  have D0 : Hid (Box w0 (w.heap.size + 1) 29 #[.int .i64 k', .int .i64 n', .string t']) := by unfold Hid; rw [← hV0]; exact (Box.new2 _ _ _ _).alloc _
  have X0 : Hid (Box w0 (w.heap.size + 2) 29 #[.int .i64 0, .int .i64 0, .string ⟨#[]⟩]) := by unfold Hid; rw [← hV0]; have := Box.new2 (w.alloc (.cells #[.int .i64 k, .int .i64 n, .string t] 29)) (.cells #[.int .i64 k', .int .i64 n', .string t'] 29) #[.int .i64 0, .int .i64 0, .string ⟨#[]⟩] 29; simpa using this
  obtain ⟨q0, q1, q2⟩ := box3 A0.out
  obtain ⟨p0, p1, p2⟩ := box3 D0.out
  obtain ⟨x0, x1, x2⟩ := box3 X0.out
  have t0 := X0.out.thaw 0
  have t1 := X0.out.thaw 1
  have t2 := X0.out.thaw 2
  go_enter Tryd.func44, Tryd.ntmps44
  go_wp2
  refine ret32 Tryd.results44 rfl rfl rfl (put3_box X0.out _ _ _) ⟨?_, put3_below B0.out (by omega) _ _ _⟩
  rw [E.out]
  rfl
set_option maxRecDepth 100000 in
set_option maxHeartbeats 2000000 in
theorem c_l10B_rT2 (op : Int) (k n : Int) (t : ByteArray) (k' n' : Int) (t' : ByteArray) (w : World) (o12 : (op == 12) = false) (o13 : (op == 13) = false) (o10 : (op == 10) = false) (o11 : (op == 11) = false) (k2 : (k == 2) = false) (j2 : (k' == 2) = true) (E : Hid (binR op k n t k' n' t' = ⟨0, 0, 10⟩)) :
    Calls Tryd.prog 44 #[.int .i64 op, .agg #[.int .i64 k, .int .i64 n, .string t], .agg #[.int .i64 k', .int .i64 n', .string t']] w fun e w' => e = .returned (.tuple #[.agg #[.int .i64 (binR op k n t k' n' t').k, .int .i64 (binR op k n t k' n' t').n, .string ⟨#[]⟩], .int .i64 (binR op k n t k' n' t').c]) ∧ Below w.heap.size w w' := by
  obtain ⟨w0, hV0⟩ : ∃ V, ((w.alloc (.cells #[.int .i64 k, .int .i64 n, .string t] 29)).alloc (.cells #[.int .i64 k', .int .i64 n', .string t'] 29)).alloc (.cells #[.int .i64 0, .int .i64 0, .string ⟨#[]⟩] 29) = V := ⟨_, rfl⟩
  have B0 : Hid (Below w.heap.size w w0) := by unfold Hid; rw [← hV0]; exact (((Below.refl _ _).alloc (Nat.le_refl _) _).alloc (by simp) _).alloc (by simp; omega) _
  have A0 : Hid (Box w0 w.heap.size 29 #[.int .i64 k, .int .i64 n, .string t]) := by unfold Hid; rw [← hV0]; exact ((Box.new _ _ _).alloc _).alloc _
  have D0 : Hid (Box w0 (w.heap.size + 1) 29 #[.int .i64 k', .int .i64 n', .string t']) := by unfold Hid; rw [← hV0]; exact (Box.new2 _ _ _ _).alloc _
  have X0 : Hid (Box w0 (w.heap.size + 2) 29 #[.int .i64 0, .int .i64 0, .string ⟨#[]⟩]) := by unfold Hid; rw [← hV0]; have := Box.new2 (w.alloc (.cells #[.int .i64 k, .int .i64 n, .string t] 29)) (.cells #[.int .i64 k', .int .i64 n', .string t'] 29) #[.int .i64 0, .int .i64 0, .string ⟨#[]⟩] 29; simpa using this
  obtain ⟨q0, q1, q2⟩ := box3 A0.out
  obtain ⟨p0, p1, p2⟩ := box3 D0.out
  obtain ⟨x0, x1, x2⟩ := box3 X0.out
  have t0 := X0.out.thaw 0
  have t1 := X0.out.thaw 1
  have t2 := X0.out.thaw 2
  go_enter Tryd.func44, Tryd.ntmps44
  go_wp2
  refine ret32 Tryd.results44 rfl rfl rfl (put3_box X0.out _ _ _) ⟨?_, put3_below B0.out (by omega) _ _ _⟩
  rw [E.out]
  rfl
set_option maxRecDepth 100000 in
set_option maxHeartbeats 2000000 in
theorem c_l10B_rN1 (op : Int) (k n : Int) (t : ByteArray) (k' n' : Int) (t' : ByteArray) (w : World) (o12 : (op == 12) = false) (o13 : (op == 13) = false) (o10 : (op == 10) = false) (o11 : (op == 11) = false) (k2 : (k == 2) = false) (j2 : (k' == 2) = false) (k0 : (k == 0) = true) (E : Hid (binR op k n t k' n' t' = ⟨0, 0, 0⟩)) :
    Calls Tryd.prog 44 #[.int .i64 op, .agg #[.int .i64 k, .int .i64 n, .string t], .agg #[.int .i64 k', .int .i64 n', .string t']] w fun e w' => e = .returned (.tuple #[.agg #[.int .i64 (binR op k n t k' n' t').k, .int .i64 (binR op k n t k' n' t').n, .string ⟨#[]⟩], .int .i64 (binR op k n t k' n' t').c]) ∧ Below w.heap.size w w' := by
  obtain ⟨w0, hV0⟩ : ∃ V, ((w.alloc (.cells #[.int .i64 k, .int .i64 n, .string t] 29)).alloc (.cells #[.int .i64 k', .int .i64 n', .string t'] 29)).alloc (.cells #[.int .i64 0, .int .i64 0, .string ⟨#[]⟩] 29) = V := ⟨_, rfl⟩
  have B0 : Hid (Below w.heap.size w w0) := by unfold Hid; rw [← hV0]; exact (((Below.refl _ _).alloc (Nat.le_refl _) _).alloc (by simp) _).alloc (by simp; omega) _
  have A0 : Hid (Box w0 w.heap.size 29 #[.int .i64 k, .int .i64 n, .string t]) := by unfold Hid; rw [← hV0]; exact ((Box.new _ _ _).alloc _).alloc _
  have D0 : Hid (Box w0 (w.heap.size + 1) 29 #[.int .i64 k', .int .i64 n', .string t']) := by unfold Hid; rw [← hV0]; exact (Box.new2 _ _ _ _).alloc _
  have X0 : Hid (Box w0 (w.heap.size + 2) 29 #[.int .i64 0, .int .i64 0, .string ⟨#[]⟩]) := by unfold Hid; rw [← hV0]; have := Box.new2 (w.alloc (.cells #[.int .i64 k, .int .i64 n, .string t] 29)) (.cells #[.int .i64 k', .int .i64 n', .string t'] 29) #[.int .i64 0, .int .i64 0, .string ⟨#[]⟩] 29; simpa using this
  obtain ⟨q0, q1, q2⟩ := box3 A0.out
  obtain ⟨p0, p1, p2⟩ := box3 D0.out
  obtain ⟨x0, x1, x2⟩ := box3 X0.out
  have t0 := X0.out.thaw 0
  have t1 := X0.out.thaw 1
  have t2 := X0.out.thaw 2
  go_enter Tryd.func44, Tryd.ntmps44
  go_wp2
  refine ret32 Tryd.results44 rfl rfl rfl (put3_box X0.out _ _ _) ⟨?_, put3_below B0.out (by omega) _ _ _⟩
  rw [E.out]
  rfl
set_option maxRecDepth 100000 in
set_option maxHeartbeats 2000000 in
theorem c_l10B_rN2 (op : Int) (k n : Int) (t : ByteArray) (k' n' : Int) (t' : ByteArray) (w : World) (o12 : (op == 12) = false) (o13 : (op == 13) = false) (o10 : (op == 10) = false) (o11 : (op == 11) = false) (k2 : (k == 2) = false) (j2 : (k' == 2) = false) (k0 : (k == 0) = false) (j0 : (k' == 0) = true) (E : Hid (binR op k n t k' n' t' = ⟨0, 0, 0⟩)) :
    Calls Tryd.prog 44 #[.int .i64 op, .agg #[.int .i64 k, .int .i64 n, .string t], .agg #[.int .i64 k', .int .i64 n', .string t']] w fun e w' => e = .returned (.tuple #[.agg #[.int .i64 (binR op k n t k' n' t').k, .int .i64 (binR op k n t k' n' t').n, .string ⟨#[]⟩], .int .i64 (binR op k n t k' n' t').c]) ∧ Below w.heap.size w w' := by
  obtain ⟨w0, hV0⟩ : ∃ V, ((w.alloc (.cells #[.int .i64 k, .int .i64 n, .string t] 29)).alloc (.cells #[.int .i64 k', .int .i64 n', .string t'] 29)).alloc (.cells #[.int .i64 0, .int .i64 0, .string ⟨#[]⟩] 29) = V := ⟨_, rfl⟩
  have B0 : Hid (Below w.heap.size w w0) := by unfold Hid; rw [← hV0]; exact (((Below.refl _ _).alloc (Nat.le_refl _) _).alloc (by simp) _).alloc (by simp; omega) _
  have A0 : Hid (Box w0 w.heap.size 29 #[.int .i64 k, .int .i64 n, .string t]) := by unfold Hid; rw [← hV0]; exact ((Box.new _ _ _).alloc _).alloc _
  have D0 : Hid (Box w0 (w.heap.size + 1) 29 #[.int .i64 k', .int .i64 n', .string t']) := by unfold Hid; rw [← hV0]; exact (Box.new2 _ _ _ _).alloc _
  have X0 : Hid (Box w0 (w.heap.size + 2) 29 #[.int .i64 0, .int .i64 0, .string ⟨#[]⟩]) := by unfold Hid; rw [← hV0]; have := Box.new2 (w.alloc (.cells #[.int .i64 k, .int .i64 n, .string t] 29)) (.cells #[.int .i64 k', .int .i64 n', .string t'] 29) #[.int .i64 0, .int .i64 0, .string ⟨#[]⟩] 29; simpa using this
  obtain ⟨q0, q1, q2⟩ := box3 A0.out
  obtain ⟨p0, p1, p2⟩ := box3 D0.out
  obtain ⟨x0, x1, x2⟩ := box3 X0.out
  have t0 := X0.out.thaw 0
  have t1 := X0.out.thaw 1
  have t2 := X0.out.thaw 2
  go_enter Tryd.func44, Tryd.ntmps44
  go_wp2
  refine ret32 Tryd.results44 rfl rfl rfl (put3_box X0.out _ _ _) ⟨?_, put3_below B0.out (by omega) _ _ _⟩
  rw [E.out]
  rfl
set_option maxRecDepth 100000 in
set_option maxHeartbeats 2000000 in
theorem c_l10B_rK (op : Int) (k n : Int) (t : ByteArray) (k' n' : Int) (t' : ByteArray) (w : World) (o12 : (op == 12) = false) (o13 : (op == 13) = false) (o10 : (op == 10) = false) (o11 : (op == 11) = false) (k2 : (k == 2) = false) (j2 : (k' == 2) = false) (k0 : (k == 0) = false) (j0 : (k' == 0) = false) (kk : (k != k') = true) (E : Hid (binR op k n t k' n' t' = ⟨0, 0, 10⟩)) :
    Calls Tryd.prog 44 #[.int .i64 op, .agg #[.int .i64 k, .int .i64 n, .string t], .agg #[.int .i64 k', .int .i64 n', .string t']] w fun e w' => e = .returned (.tuple #[.agg #[.int .i64 (binR op k n t k' n' t').k, .int .i64 (binR op k n t k' n' t').n, .string ⟨#[]⟩], .int .i64 (binR op k n t k' n' t').c]) ∧ Below w.heap.size w w' := by
  obtain ⟨w0, hV0⟩ : ∃ V, ((w.alloc (.cells #[.int .i64 k, .int .i64 n, .string t] 29)).alloc (.cells #[.int .i64 k', .int .i64 n', .string t'] 29)).alloc (.cells #[.int .i64 0, .int .i64 0, .string ⟨#[]⟩] 29) = V := ⟨_, rfl⟩
  have B0 : Hid (Below w.heap.size w w0) := by unfold Hid; rw [← hV0]; exact (((Below.refl _ _).alloc (Nat.le_refl _) _).alloc (by simp) _).alloc (by simp; omega) _
  have A0 : Hid (Box w0 w.heap.size 29 #[.int .i64 k, .int .i64 n, .string t]) := by unfold Hid; rw [← hV0]; exact ((Box.new _ _ _).alloc _).alloc _
  have D0 : Hid (Box w0 (w.heap.size + 1) 29 #[.int .i64 k', .int .i64 n', .string t']) := by unfold Hid; rw [← hV0]; exact (Box.new2 _ _ _ _).alloc _
  have X0 : Hid (Box w0 (w.heap.size + 2) 29 #[.int .i64 0, .int .i64 0, .string ⟨#[]⟩]) := by unfold Hid; rw [← hV0]; have := Box.new2 (w.alloc (.cells #[.int .i64 k, .int .i64 n, .string t] 29)) (.cells #[.int .i64 k', .int .i64 n', .string t'] 29) #[.int .i64 0, .int .i64 0, .string ⟨#[]⟩] 29; simpa using this
  obtain ⟨q0, q1, q2⟩ := box3 A0.out
  obtain ⟨p0, p1, p2⟩ := box3 D0.out
  obtain ⟨x0, x1, x2⟩ := box3 X0.out
  have t0 := X0.out.thaw 0
  have t1 := X0.out.thaw 1
  have t2 := X0.out.thaw 2
  go_enter Tryd.func44, Tryd.ntmps44
  go_wp2
  refine ret32 Tryd.results44 rfl rfl rfl (put3_box X0.out _ _ _) ⟨?_, put3_below B0.out (by omega) _ _ _⟩
  rw [E.out]
  rfl
set_option maxRecDepth 100000 in
set_option maxHeartbeats 2000000 in
theorem c_l10B_r6 (op : Int) (k n : Int) (t : ByteArray) (k' n' : Int) (t' : ByteArray) (w : World) (o12 : (op == 12) = false) (o13 : (op == 13) = false) (o10 : (op == 10) = false) (o11 : (op == 11) = false) (k2 : (k == 2) = false) (j2 : (k' == 2) = false) (k0 : (k == 0) = false) (j0 : (k' == 0) = false) (kk : (k != k') = false) (o6 : (op == 6) = true) (W : wrap64 (n + n') = n + n') (E : Hid (binR op k n t k' n' t' = bndB (n + n'))) :
    Calls Tryd.prog 44 #[.int .i64 op, .agg #[.int .i64 k, .int .i64 n, .string t], .agg #[.int .i64 k', .int .i64 n', .string t']] w fun e w' => e = .returned (.tuple #[.agg #[.int .i64 (binR op k n t k' n' t').k, .int .i64 (binR op k n t k' n' t').n, .string ⟨#[]⟩], .int .i64 (binR op k n t k' n' t').c]) ∧ Below w.heap.size w w' := by
  obtain ⟨w0, hV0⟩ : ∃ V, ((w.alloc (.cells #[.int .i64 k, .int .i64 n, .string t] 29)).alloc (.cells #[.int .i64 k', .int .i64 n', .string t'] 29)).alloc (.cells #[.int .i64 0, .int .i64 0, .string ⟨#[]⟩] 29) = V := ⟨_, rfl⟩
  have B0 : Hid (Below w.heap.size w w0) := by unfold Hid; rw [← hV0]; exact (((Below.refl _ _).alloc (Nat.le_refl _) _).alloc (by simp) _).alloc (by simp; omega) _
  have A0 : Hid (Box w0 w.heap.size 29 #[.int .i64 k, .int .i64 n, .string t]) := by unfold Hid; rw [← hV0]; exact ((Box.new _ _ _).alloc _).alloc _
  have D0 : Hid (Box w0 (w.heap.size + 1) 29 #[.int .i64 k', .int .i64 n', .string t']) := by unfold Hid; rw [← hV0]; exact (Box.new2 _ _ _ _).alloc _
  have X0 : Hid (Box w0 (w.heap.size + 2) 29 #[.int .i64 0, .int .i64 0, .string ⟨#[]⟩]) := by unfold Hid; rw [← hV0]; have := Box.new2 (w.alloc (.cells #[.int .i64 k, .int .i64 n, .string t] 29)) (.cells #[.int .i64 k', .int .i64 n', .string t'] 29) #[.int .i64 0, .int .i64 0, .string ⟨#[]⟩] 29; simpa using this
  obtain ⟨q0, q1, q2⟩ := box3 A0.out
  obtain ⟨p0, p1, p2⟩ := box3 D0.out
  obtain ⟨x0, x1, x2⟩ := box3 X0.out
  have t0 := X0.out.thaw 0
  have t1 := X0.out.thaw 1
  have t2 := X0.out.thaw 2
  go_enter Tryd.func44, Tryd.ntmps44
  go_wp2_with fail
  refine (c_bounded (n + n') _).mono ?_
  rintro e w1 ⟨rfl, hb⟩
  have B1 : Hid (Below w.heap.size w w1) := B0.out.trans (hb.mono B0.out.size)
  have A1 : Hid (Box w1 w.heap.size 29 #[.int .i64 k, .int .i64 n, .string t]) := A0.out.belowS hb
  have D1 : Hid (Box w1 (w.heap.size + 1) 29 #[.int .i64 k', .int .i64 n', .string t']) := D0.out.belowS hb
  have X1 : Hid (Box w1 (w.heap.size + 2) 29 #[.int .i64 0, .int .i64 0, .string ⟨#[]⟩]) := X0.out.belowS hb
  clear hb q0 q1 q2 p0 p1 p2 x0 x1 x2 t0 t1 t2
  obtain ⟨q0, q1, q2⟩ := box3 A1.out
  obtain ⟨p0, p1, p2⟩ := box3 D1.out
  obtain ⟨x0, x1, x2⟩ := box3 X1.out
  have t0 := X1.out.thaw 0
  have t1 := X1.out.thaw 1
  have t2 := X1.out.thaw 2
  go_wp2
  refine ret32 Tryd.results44 rfl rfl rfl (put3_box X1.out _ _ _) ⟨?_, put3_below B1.out (by omega) _ _ _⟩
  rw [E.out]
  rfl
set_option maxRecDepth 100000 in
set_option maxHeartbeats 2000000 in
theorem c_l10B_r7 (op : Int) (k n : Int) (t : ByteArray) (k' n' : Int) (t' : ByteArray) (w : World) (o12 : (op == 12) = false) (o13 : (op == 13) = false) (o10 : (op == 10) = false) (o11 : (op == 11) = false) (k2 : (k == 2) = false) (j2 : (k' == 2) = false) (k0 : (k == 0) = false) (j0 : (k' == 0) = false) (kk : (k != k') = false) (o6 : (op == 6) = false) (o7 : (op == 7) = true) (W : wrap64 (n - n') = n - n') (E : Hid (binR op k n t k' n' t' = bndB (n - n'))) :
    Calls Tryd.prog 44 #[.int .i64 op, .agg #[.int .i64 k, .int .i64 n, .string t], .agg #[.int .i64 k', .int .i64 n', .string t']] w fun e w' => e = .returned (.tuple #[.agg #[.int .i64 (binR op k n t k' n' t').k, .int .i64 (binR op k n t k' n' t').n, .string ⟨#[]⟩], .int .i64 (binR op k n t k' n' t').c]) ∧ Below w.heap.size w w' := by
  obtain ⟨w0, hV0⟩ : ∃ V, ((w.alloc (.cells #[.int .i64 k, .int .i64 n, .string t] 29)).alloc (.cells #[.int .i64 k', .int .i64 n', .string t'] 29)).alloc (.cells #[.int .i64 0, .int .i64 0, .string ⟨#[]⟩] 29) = V := ⟨_, rfl⟩
  have B0 : Hid (Below w.heap.size w w0) := by unfold Hid; rw [← hV0]; exact (((Below.refl _ _).alloc (Nat.le_refl _) _).alloc (by simp) _).alloc (by simp; omega) _
  have A0 : Hid (Box w0 w.heap.size 29 #[.int .i64 k, .int .i64 n, .string t]) := by unfold Hid; rw [← hV0]; exact ((Box.new _ _ _).alloc _).alloc _
  have D0 : Hid (Box w0 (w.heap.size + 1) 29 #[.int .i64 k', .int .i64 n', .string t']) := by unfold Hid; rw [← hV0]; exact (Box.new2 _ _ _ _).alloc _
  have X0 : Hid (Box w0 (w.heap.size + 2) 29 #[.int .i64 0, .int .i64 0, .string ⟨#[]⟩]) := by unfold Hid; rw [← hV0]; have := Box.new2 (w.alloc (.cells #[.int .i64 k, .int .i64 n, .string t] 29)) (.cells #[.int .i64 k', .int .i64 n', .string t'] 29) #[.int .i64 0, .int .i64 0, .string ⟨#[]⟩] 29; simpa using this
  obtain ⟨q0, q1, q2⟩ := box3 A0.out
  obtain ⟨p0, p1, p2⟩ := box3 D0.out
  obtain ⟨x0, x1, x2⟩ := box3 X0.out
  have t0 := X0.out.thaw 0
  have t1 := X0.out.thaw 1
  have t2 := X0.out.thaw 2
  go_enter Tryd.func44, Tryd.ntmps44
  go_wp2_with fail
  refine (c_bounded (n - n') _).mono ?_
  rintro e w1 ⟨rfl, hb⟩
  have B1 : Hid (Below w.heap.size w w1) := B0.out.trans (hb.mono B0.out.size)
  have A1 : Hid (Box w1 w.heap.size 29 #[.int .i64 k, .int .i64 n, .string t]) := A0.out.belowS hb
  have D1 : Hid (Box w1 (w.heap.size + 1) 29 #[.int .i64 k', .int .i64 n', .string t']) := D0.out.belowS hb
  have X1 : Hid (Box w1 (w.heap.size + 2) 29 #[.int .i64 0, .int .i64 0, .string ⟨#[]⟩]) := X0.out.belowS hb
  clear hb q0 q1 q2 p0 p1 p2 x0 x1 x2 t0 t1 t2
  obtain ⟨q0, q1, q2⟩ := box3 A1.out
  obtain ⟨p0, p1, p2⟩ := box3 D1.out
  obtain ⟨x0, x1, x2⟩ := box3 X1.out
  have t0 := X1.out.thaw 0
  have t1 := X1.out.thaw 1
  have t2 := X1.out.thaw 2
  go_wp2
  refine ret32 Tryd.results44 rfl rfl rfl (put3_box X1.out _ _ _) ⟨?_, put3_below B1.out (by omega) _ _ _⟩
  rw [E.out]
  rfl
set_option maxRecDepth 100000 in
set_option maxHeartbeats 2000000 in
theorem c_l10B_r8 (op : Int) (k n : Int) (t : ByteArray) (k' n' : Int) (t' : ByteArray) (w : World) (o12 : (op == 12) = false) (o13 : (op == 13) = false) (o10 : (op == 10) = false) (o11 : (op == 11) = false) (k2 : (k == 2) = false) (j2 : (k' == 2) = false) (k0 : (k == 0) = false) (j0 : (k' == 0) = false) (kk : (k != k') = false) (o6 : (op == 6) = false) (o7 : (op == 7) = false) (o8 : (op == 8) = true) (W : wrap64 (n * n') = n * n') (E : Hid (binR op k n t k' n' t' = bndB (n * n'))) :
    Calls Tryd.prog 44 #[.int .i64 op, .agg #[.int .i64 k, .int .i64 n, .string t], .agg #[.int .i64 k', .int .i64 n', .string t']] w fun e w' => e = .returned (.tuple #[.agg #[.int .i64 (binR op k n t k' n' t').k, .int .i64 (binR op k n t k' n' t').n, .string ⟨#[]⟩], .int .i64 (binR op k n t k' n' t').c]) ∧ Below w.heap.size w w' := by
  obtain ⟨w0, hV0⟩ : ∃ V, ((w.alloc (.cells #[.int .i64 k, .int .i64 n, .string t] 29)).alloc (.cells #[.int .i64 k', .int .i64 n', .string t'] 29)).alloc (.cells #[.int .i64 0, .int .i64 0, .string ⟨#[]⟩] 29) = V := ⟨_, rfl⟩
  have B0 : Hid (Below w.heap.size w w0) := by unfold Hid; rw [← hV0]; exact (((Below.refl _ _).alloc (Nat.le_refl _) _).alloc (by simp) _).alloc (by simp; omega) _
  have A0 : Hid (Box w0 w.heap.size 29 #[.int .i64 k, .int .i64 n, .string t]) := by unfold Hid; rw [← hV0]; exact ((Box.new _ _ _).alloc _).alloc _
  have D0 : Hid (Box w0 (w.heap.size + 1) 29 #[.int .i64 k', .int .i64 n', .string t']) := by unfold Hid; rw [← hV0]; exact (Box.new2 _ _ _ _).alloc _
  have X0 : Hid (Box w0 (w.heap.size + 2) 29 #[.int .i64 0, .int .i64 0, .string ⟨#[]⟩]) := by unfold Hid; rw [← hV0]; have := Box.new2 (w.alloc (.cells #[.int .i64 k, .int .i64 n, .string t] 29)) (.cells #[.int .i64 k', .int .i64 n', .string t'] 29) #[.int .i64 0, .int .i64 0, .string ⟨#[]⟩] 29; simpa using this
  obtain ⟨q0, q1, q2⟩ := box3 A0.out
  obtain ⟨p0, p1, p2⟩ := box3 D0.out
  obtain ⟨x0, x1, x2⟩ := box3 X0.out
  have t0 := X0.out.thaw 0
  have t1 := X0.out.thaw 1
  have t2 := X0.out.thaw 2
  go_enter Tryd.func44, Tryd.ntmps44
  go_wp2_with fail
  refine (c_bounded (n * n') _).mono ?_
  rintro e w1 ⟨rfl, hb⟩
  have B1 : Hid (Below w.heap.size w w1) := B0.out.trans (hb.mono B0.out.size)
  have A1 : Hid (Box w1 w.heap.size 29 #[.int .i64 k, .int .i64 n, .string t]) := A0.out.belowS hb
  have D1 : Hid (Box w1 (w.heap.size + 1) 29 #[.int .i64 k', .int .i64 n', .string t']) := D0.out.belowS hb
  have X1 : Hid (Box w1 (w.heap.size + 2) 29 #[.int .i64 0, .int .i64 0, .string ⟨#[]⟩]) := X0.out.belowS hb
  clear hb q0 q1 q2 p0 p1 p2 x0 x1 x2 t0 t1 t2
  obtain ⟨q0, q1, q2⟩ := box3 A1.out
  obtain ⟨p0, p1, p2⟩ := box3 D1.out
  obtain ⟨x0, x1, x2⟩ := box3 X1.out
  have t0 := X1.out.thaw 0
  have t1 := X1.out.thaw 1
  have t2 := X1.out.thaw 2
  go_wp2
  refine ret32 Tryd.results44 rfl rfl rfl (put3_box X1.out _ _ _) ⟨?_, put3_below B1.out (by omega) _ _ _⟩
  rw [E.out]
  rfl
set_option maxRecDepth 100000 in
set_option maxHeartbeats 2000000 in
theorem c_l10B_r9z (op : Int) (k n : Int) (t : ByteArray) (k' n' : Int) (t' : ByteArray) (w : World) (o12 : (op == 12) = false) (o13 : (op == 13) = false) (o10 : (op == 10) = false) (o11 : (op == 11) = false) (k2 : (k == 2) = false) (j2 : (k' == 2) = false) (k0 : (k == 0) = false) (j0 : (k' == 0) = false) (kk : (k != k') = false) (o6 : (op == 6) = false) (o7 : (op == 7) = false) (o8 : (op == 8) = false) (m0 : (n' == 0) = true) (E : Hid (binR op k n t k' n' t' = ⟨0, 0, 11⟩)) :
    Calls Tryd.prog 44 #[.int .i64 op, .agg #[.int .i64 k, .int .i64 n, .string t], .agg #[.int .i64 k', .int .i64 n', .string t']] w fun e w' => e = .returned (.tuple #[.agg #[.int .i64 (binR op k n t k' n' t').k, .int .i64 (binR op k n t k' n' t').n, .string ⟨#[]⟩], .int .i64 (binR op k n t k' n' t').c]) ∧ Below w.heap.size w w' := by
  obtain ⟨w0, hV0⟩ : ∃ V, ((w.alloc (.cells #[.int .i64 k, .int .i64 n, .string t] 29)).alloc (.cells #[.int .i64 k', .int .i64 n', .string t'] 29)).alloc (.cells #[.int .i64 0, .int .i64 0, .string ⟨#[]⟩] 29) = V := ⟨_, rfl⟩
  have B0 : Hid (Below w.heap.size w w0) := by unfold Hid; rw [← hV0]; exact (((Below.refl _ _).alloc (Nat.le_refl _) _).alloc (by simp) _).alloc (by simp; omega) _
  have A0 : Hid (Box w0 w.heap.size 29 #[.int .i64 k, .int .i64 n, .string t]) := by unfold Hid; rw [← hV0]; exact ((Box.new _ _ _).alloc _).alloc _
  have D0 : Hid (Box w0 (w.heap.size + 1) 29 #[.int .i64 k', .int .i64 n', .string t']) := by unfold Hid; rw [← hV0]; exact (Box.new2 _ _ _ _).alloc _
  have X0 : Hid (Box w0 (w.heap.size + 2) 29 #[.int .i64 0, .int .i64 0, .string ⟨#[]⟩]) := by unfold Hid; rw [← hV0]; have := Box.new2 (w.alloc (.cells #[.int .i64 k, .int .i64 n, .string t] 29)) (.cells #[.int .i64 k', .int .i64 n', .string t'] 29) #[.int .i64 0, .int .i64 0, .string ⟨#[]⟩] 29; simpa using this
  obtain ⟨q0, q1, q2⟩ := box3 A0.out
  obtain ⟨p0, p1, p2⟩ := box3 D0.out
  obtain ⟨x0, x1, x2⟩ := box3 X0.out
  have t0 := X0.out.thaw 0
  have t1 := X0.out.thaw 1
  have t2 := X0.out.thaw 2
  go_enter Tryd.func44, Tryd.ntmps44
  go_wp2
  refine ret32 Tryd.results44 rfl rfl rfl (put3_box X0.out _ _ _) ⟨?_, put3_below B0.out (by omega) _ _ _⟩
  rw [E.out]
  rfl
set_option maxRecDepth 100000 in
set_option maxHeartbeats 2000000 in
theorem c_l10B_r9 (op : Int) (k n : Int) (t : ByteArray) (k' n' : Int) (t' : ByteArray) (w : World) (o12 : (op == 12) = false) (o13 : (op == 13) = false) (o10 : (op == 10) = false) (o11 : (op == 11) = false) (k2 : (k == 2) = false) (j2 : (k' == 2) = false) (k0 : (k == 0) = false) (j0 : (k' == 0) = false) (kk : (k != k') = false) (o6 : (op == 6) = false) (o7 : (op == 7) = false) (o8 : (op == 8) = false) (m0 : (n' == 0) = false) (W : wrap64 (n.tdiv n') = n.tdiv n') (hz : ¬ n' = 0) (E : Hid (binR op k n t k' n' t' = bndB (n.tdiv n'))) :
    Calls Tryd.prog 44 #[.int .i64 op, .agg #[.int .i64 k, .int .i64 n, .string t], .agg #[.int .i64 k', .int .i64 n', .string t']] w fun e w' => e = .returned (.tuple #[.agg #[.int .i64 (binR op k n t k' n' t').k, .int .i64 (binR op k n t k' n' t').n, .string ⟨#[]⟩], .int .i64 (binR op k n t k' n' t').c]) ∧ Below w.heap.size w w' := by
  obtain ⟨w0, hV0⟩ : ∃ V, ((w.alloc (.cells #[.int .i64 k, .int .i64 n, .string t] 29)).alloc (.cells #[.int .i64 k', .int .i64 n', .string t'] 29)).alloc (.cells #[.int .i64 0, .int .i64 0, .string ⟨#[]⟩] 29) = V := ⟨_, rfl⟩
  have B0 : Hid (Below w.heap.size w w0) := by unfold Hid; rw [← hV0]; exact (((Below.refl _ _).alloc (Nat.le_refl _) _).alloc (by simp) _).alloc (by simp; omega) _
  have A0 : Hid (Box w0 w.heap.size 29 #[.int .i64 k, .int .i64 n, .string t]) := by unfold Hid; rw [← hV0]; exact ((Box.new _ _ _).alloc _).alloc _
  have D0 : Hid (Box w0 (w.heap.size + 1) 29 #[.int .i64 k', .int .i64 n', .string t']) := by unfold Hid; rw [← hV0]; exact (Box.new2 _ _ _ _).alloc _
  have X0 : Hid (Box w0 (w.heap.size + 2) 29 #[.int .i64 0, .int .i64 0, .string ⟨#[]⟩]) := by unfold Hid; rw [← hV0]; have := Box.new2 (w.alloc (.cells #[.int .i64 k, .int .i64 n, .string t] 29)) (.cells #[.int .i64 k', .int .i64 n', .string t'] 29) #[.int .i64 0, .int .i64 0, .string ⟨#[]⟩] 29; simpa using this
  obtain ⟨q0, q1, q2⟩ := box3 A0.out
  obtain ⟨p0, p1, p2⟩ := box3 D0.out
  obtain ⟨x0, x1, x2⟩ := box3 X0.out
  have t0 := X0.out.thaw 0
  have t1 := X0.out.thaw 1
  have t2 := X0.out.thaw 2
  go_enter Tryd.func44, Tryd.ntmps44
  go_wp2_with fail
  refine (c_bounded (n.tdiv n') _).mono ?_
  rintro e w1 ⟨rfl, hb⟩
  have B1 : Hid (Below w.heap.size w w1) := B0.out.trans (hb.mono B0.out.size)
  have A1 : Hid (Box w1 w.heap.size 29 #[.int .i64 k, .int .i64 n, .string t]) := A0.out.belowS hb
  have D1 : Hid (Box w1 (w.heap.size + 1) 29 #[.int .i64 k', .int .i64 n', .string t']) := D0.out.belowS hb
  have X1 : Hid (Box w1 (w.heap.size + 2) 29 #[.int .i64 0, .int .i64 0, .string ⟨#[]⟩]) := X0.out.belowS hb
  clear hb q0 q1 q2 p0 p1 p2 x0 x1 x2 t0 t1 t2
  obtain ⟨q0, q1, q2⟩ := box3 A1.out
  obtain ⟨p0, p1, p2⟩ := box3 D1.out
  obtain ⟨x0, x1, x2⟩ := box3 X1.out
  have t0 := X1.out.thaw 0
  have t1 := X1.out.thaw 1
  have t2 := X1.out.thaw 2
  go_wp2
  refine ret32 Tryd.results44 rfl rfl rfl (put3_box X1.out _ _ _) ⟨?_, put3_below B1.out (by omega) _ _ _⟩
  rw [E.out]
  rfl
set_option maxRecDepth 100000 in
set_option maxHeartbeats 2000000 in
theorem c_l10B_qN1 (op : Int) (k n : Int) (t : ByteArray) (k' n' : Int) (t' : ByteArray) (w : World) (o12 : (op == 12) = false) (o13 : (op == 13) = false) (o10 : (op == 10) = true) (k0 : (k == 0) = true) (E : Hid (binR op k n t k' n' t' = ⟨0, 0, 0⟩)) :
    Calls Tryd.prog 44 #[.int .i64 op, .agg #[.int .i64 k, .int .i64 n, .string t], .agg #[.int .i64 k', .int .i64 n', .string t']] w fun e w' => e = .returned (.tuple #[.agg #[.int .i64 (binR op k n t k' n' t').k, .int .i64 (binR op k n t k' n' t').n, .string ⟨#[]⟩], .int .i64 (binR op k n t k' n' t').c]) ∧ Below w.heap.size w w' := by
  obtain ⟨w0, hV0⟩ : ∃ V, ((w.alloc (.cells #[.int .i64 k, .int .i64 n, .string t] 29)).alloc (.cells #[.int .i64 k', .int .i64 n', .string t'] 29)).alloc (.cells #[.int .i64 0, .int .i64 0, .string ⟨#[]⟩] 29) = V := ⟨_, rfl⟩
  have B0 : Hid (Below w.heap.size w w0) := by unfold Hid; rw [← hV0]; exact (((Below.refl _ _).alloc (Nat.le_refl _) _).alloc (by simp) _).alloc (by simp; omega) _
  have A0 : Hid (Box w0 w.heap.size 29 #[.int .i64 k, .int .i64 n, .string t]) := by unfold Hid; rw [← hV0]; exact ((Box.new _ _ _).alloc _).alloc _
  have D0 : Hid (Box w0 (w.heap.size + 1) 29 #[.int .i64 k', .int .i64 n', .string t']) := by unfold Hid; rw [← hV0]; exact (Box.new2 _ _ _ _).alloc _
  have X0 : Hid (Box w0 (w.heap.size + 2) 29 #[.int .i64 0, .int .i64 0, .string ⟨#[]⟩]) := by unfold Hid; rw [← hV0]; have := Box.new2 (w.alloc (.cells #[.int .i64 k, .int .i64 n, .string t] 29)) (.cells #[.int .i64 k', .int .i64 n', .string t'] 29) #[.int .i64 0, .int .i64 0, .string ⟨#[]⟩] 29; simpa using this
  obtain ⟨q0, q1, q2⟩ := box3 A0.out
  obtain ⟨p0, p1, p2⟩ := box3 D0.out
  obtain ⟨x0, x1, x2⟩ := box3 X0.out
  have t0 := X0.out.thaw 0
  have t1 := X0.out.thaw 1
  have t2 := X0.out.thaw 2
  go_enter Tryd.func44, Tryd.ntmps44
  go_wp2
  refine ret32 Tryd.results44 rfl rfl rfl (put3_box X0.out _ _ _) ⟨?_, put3_below B0.out (by omega) _ _ _⟩
  rw [E.out]
  rfl
set_option maxRecDepth 100000 in
set_option maxHeartbeats 2000000 in
theorem c_l10B_qN2 (op : Int) (k n : Int) (t : ByteArray) (k' n' : Int) (t' : ByteArray) (w : World) (o12 : (op == 12) = false) (o13 : (op == 13) = false) (o10 : (op == 10) = true) (k0 : (k == 0) = false) (j0 : (k' == 0) = true) (E : Hid (binR op k n t k' n' t' = ⟨0, 0, 0⟩)) :
    Calls Tryd.prog 44 #[.int .i64 op, .agg #[.int .i64 k, .int .i64 n, .string t], .agg #[.int .i64 k', .int .i64 n', .string t']] w fun e w' => e = .returned (.tuple #[.agg #[.int .i64 (binR op k n t k' n' t').k, .int .i64 (binR op k n t k' n' t').n, .string ⟨#[]⟩], .int .i64 (binR op k n t k' n' t').c]) ∧ Below w.heap.size w w' := by
  obtain ⟨w0, hV0⟩ : ∃ V, ((w.alloc (.cells #[.int .i64 k, .int .i64 n, .string t] 29)).alloc (.cells #[.int .i64 k', .int .i64 n', .string t'] 29)).alloc (.cells #[.int .i64 0, .int .i64 0, .string ⟨#[]⟩] 29) = V := ⟨_, rfl⟩
  have B0 : Hid (Below w.heap.size w w0) := by unfold Hid; rw [← hV0]; exact (((Below.refl _ _).alloc (Nat.le_refl _) _).alloc (by simp) _).alloc (by simp; omega) _
  have A0 : Hid (Box w0 w.heap.size 29 #[.int .i64 k, .int .i64 n, .string t]) := by unfold Hid; rw [← hV0]; exact ((Box.new _ _ _).alloc _).alloc _
  have D0 : Hid (Box w0 (w.heap.size + 1) 29 #[.int .i64 k', .int .i64 n', .string t']) := by unfold Hid; rw [← hV0]; exact (Box.new2 _ _ _ _).alloc _
  have X0 : Hid (Box w0 (w.heap.size + 2) 29 #[.int .i64 0, .int .i64 0, .string ⟨#[]⟩]) := by unfold Hid; rw [← hV0]; have := Box.new2 (w.alloc (.cells #[.int .i64 k, .int .i64 n, .string t] 29)) (.cells #[.int .i64 k', .int .i64 n', .string t'] 29) #[.int .i64 0, .int .i64 0, .string ⟨#[]⟩] 29; simpa using this
  obtain ⟨q0, q1, q2⟩ := box3 A0.out
  obtain ⟨p0, p1, p2⟩ := box3 D0.out
  obtain ⟨x0, x1, x2⟩ := box3 X0.out
  have t0 := X0.out.thaw 0
  have t1 := X0.out.thaw 1
  have t2 := X0.out.thaw 2
  go_enter Tryd.func44, Tryd.ntmps44
  go_wp2
  refine ret32 Tryd.results44 rfl rfl rfl (put3_box X0.out _ _ _) ⟨?_, put3_below B0.out (by omega) _ _ _⟩
  rw [E.out]
  rfl
set_option maxRecDepth 100000 in
set_option maxHeartbeats 2000000 in
theorem c_l10B_qK (op : Int) (k n : Int) (t : ByteArray) (k' n' : Int) (t' : ByteArray) (w : World) (o12 : (op == 12) = false) (o13 : (op == 13) = false) (o10 : (op == 10) = true) (k0 : (k == 0) = false) (j0 : (k' == 0) = false) (kk : (k != k') = true) (E : Hid (binR op k n t k' n' t' = ⟨0, 0, 10⟩)) :
    Calls Tryd.prog 44 #[.int .i64 op, .agg #[.int .i64 k, .int .i64 n, .string t], .agg #[.int .i64 k', .int .i64 n', .string t']] w fun e w' => e = .returned (.tuple #[.agg #[.int .i64 (binR op k n t k' n' t').k, .int .i64 (binR op k n t k' n' t').n, .string ⟨#[]⟩], .int .i64 (binR op k n t k' n' t').c]) ∧ Below w.heap.size w w' := by
  obtain ⟨w0, hV0⟩ : ∃ V, ((w.alloc (.cells #[.int .i64 k, .int .i64 n, .string t] 29)).alloc (.cells #[.int .i64 k', .int .i64 n', .string t'] 29)).alloc (.cells #[.int .i64 0, .int .i64 0, .string ⟨#[]⟩] 29) = V := ⟨_, rfl⟩
  have B0 : Hid (Below w.heap.size w w0) := by unfold Hid; rw [← hV0]; exact (((Below.refl _ _).alloc (Nat.le_refl _) _).alloc (by simp) _).alloc (by simp; omega) _
  have A0 : Hid (Box w0 w.heap.size 29 #[.int .i64 k, .int .i64 n, .string t]) := by unfold Hid; rw [← hV0]; exact ((Box.new _ _ _).alloc _).alloc _
  have D0 : Hid (Box w0 (w.heap.size + 1) 29 #[.int .i64 k', .int .i64 n', .string t']) := by unfold Hid; rw [← hV0]; exact (Box.new2 _ _ _ _).alloc _
  have X0 : Hid (Box w0 (w.heap.size + 2) 29 #[.int .i64 0, .int .i64 0, .string ⟨#[]⟩]) := by unfold Hid; rw [← hV0]; have := Box.new2 (w.alloc (.cells #[.int .i64 k, .int .i64 n, .string t] 29)) (.cells #[.int .i64 k', .int .i64 n', .string t'] 29) #[.int .i64 0, .int .i64 0, .string ⟨#[]⟩] 29; simpa using this
  obtain ⟨q0, q1, q2⟩ := box3 A0.out
  obtain ⟨p0, p1, p2⟩ := box3 D0.out
  obtain ⟨x0, x1, x2⟩ := box3 X0.out
  have t0 := X0.out.thaw 0
  have t1 := X0.out.thaw 1
  have t2 := X0.out.thaw 2
  go_enter Tryd.func44, Tryd.ntmps44
  go_wp2
  refine ret32 Tryd.results44 rfl rfl rfl (put3_box X0.out _ _ _) ⟨?_, put3_below B0.out (by omega) _ _ _⟩
  rw [E.out]
  rfl
set_option maxRecDepth 100000 in
set_option maxHeartbeats 2000000 in
theorem c_l10B_qQ (op : Int) (k n : Int) (t : ByteArray) (k' n' : Int) (t' : ByteArray) (w : World) (o12 : (op == 12) = false) (o13 : (op == 13) = false) (o10 : (op == 10) = true) (k0 : (k == 0) = false) (j0 : (k' == 0) = false) (kk : (k != k') = false) (ke : (k == k') = true) (ne : (n == n') = false) (E : Hid (binR op k n t k' n' t' = ⟨1, 0, 0⟩)) :
    Calls Tryd.prog 44 #[.int .i64 op, .agg #[.int .i64 k, .int .i64 n, .string t], .agg #[.int .i64 k', .int .i64 n', .string t']] w fun e w' => e = .returned (.tuple #[.agg #[.int .i64 (binR op k n t k' n' t').k, .int .i64 (binR op k n t k' n' t').n, .string ⟨#[]⟩], .int .i64 (binR op k n t k' n' t').c]) ∧ Below w.heap.size w w' := by
  obtain ⟨w0, hV0⟩ : ∃ V, ((w.alloc (.cells #[.int .i64 k, .int .i64 n, .string t] 29)).alloc (.cells #[.int .i64 k', .int .i64 n', .string t'] 29)).alloc (.cells #[.int .i64 0, .int .i64 0, .string ⟨#[]⟩] 29) = V := ⟨_, rfl⟩
  have B0 : Hid (Below w.heap.size w w0) := by unfold Hid; rw [← hV0]; exact (((Below.refl _ _).alloc (Nat.le_refl _) _).alloc (by simp) _).alloc (by simp; omega) _
  have A0 : Hid (Box w0 w.heap.size 29 #[.int .i64 k, .int .i64 n, .string t]) := by unfold Hid; rw [← hV0]; exact ((Box.new _ _ _).alloc _).alloc _
  have D0 : Hid (Box w0 (w.heap.size + 1) 29 #[.int .i64 k', .int .i64 n', .string t']) := by unfold Hid; rw [← hV0]; exact (Box.new2 _ _ _ _).alloc _
  have X0 : Hid (Box w0 (w.heap.size + 2) 29 #[.int .i64 0, .int .i64 0, .string ⟨#[]⟩]) := by unfold Hid; rw [← hV0]; have := Box.new2 (w.alloc (.cells #[.int .i64 k, .int .i64 n, .string t] 29)) (.cells #[.int .i64 k', .int .i64 n', .string t'] 29) #[.int .i64 0, .int .i64 0, .string ⟨#[]⟩] 29; simpa using this
  obtain ⟨q0, q1, q2⟩ := box3 A0.out
  obtain ⟨p0, p1, p2⟩ := box3 D0.out
  obtain ⟨x0, x1, x2⟩ := box3 X0.out
  have t0 := X0.out.thaw 0
  have t1 := X0.out.thaw 1
  have t2 := X0.out.thaw 2
  go_enter Tryd.func44, Tryd.ntmps44
  go_wp2_with fail
  refine (c_bitT false _).mono ?_
  rintro e w' ⟨rfl, rfl⟩
  go_wp2_with fail
  refine (c_l10Int (trI false) _).mono ?_
  rintro e w1 ⟨rfl, hb⟩
  have B1 : Hid (Below w.heap.size w w1) := B0.out.trans (hb.mono B0.out.size)
  have A1 : Hid (Box w1 w.heap.size 29 #[.int .i64 k, .int .i64 n, .string t]) := A0.out.belowS hb
  have D1 : Hid (Box w1 (w.heap.size + 1) 29 #[.int .i64 k', .int .i64 n', .string t']) := D0.out.belowS hb
  have X1 : Hid (Box w1 (w.heap.size + 2) 29 #[.int .i64 0, .int .i64 0, .string ⟨#[]⟩]) := X0.out.belowS hb
  clear hb q0 q1 q2 p0 p1 p2 x0 x1 x2 t0 t1 t2
  obtain ⟨q0, q1, q2⟩ := box3 A1.out
  obtain ⟨p0, p1, p2⟩ := box3 D1.out
  obtain ⟨x0, x1, x2⟩ := box3 X1.out
  have t0 := X1.out.thaw 0
  have t1 := X1.out.thaw 1
  have t2 := X1.out.thaw 2
  go_wp2
  refine ret32 Tryd.results44 rfl rfl rfl (put3_box X1.out _ _ _) ⟨?_, put3_below B1.out (by omega) _ _ _⟩
  rw [E.out]
  rfl
set_option maxRecDepth 100000 in
set_option maxHeartbeats 2000000 in
theorem c_l10B_qU (op : Int) (k n : Int) (t : ByteArray) (k' n' : Int) (t' : ByteArray) (w : World) (o12 : (op == 12) = false) (o13 : (op == 13) = false) (o10 : (op == 10) = true) (k0 : (k == 0) = false) (j0 : (k' == 0) = false) (kk : (k != k') = false) (ke : (k == k') = true) (ne : (n == n') = true) (te : (t.toList == t'.toList) = false) (E : Hid (binR op k n t k' n' t' = ⟨1, 0, 0⟩)) :
    Calls Tryd.prog 44 #[.int .i64 op, .agg #[.int .i64 k, .int .i64 n, .string t], .agg #[.int .i64 k', .int .i64 n', .string t']] w fun e w' => e = .returned (.tuple #[.agg #[.int .i64 (binR op k n t k' n' t').k, .int .i64 (binR op k n t k' n' t').n, .string ⟨#[]⟩], .int .i64 (binR op k n t k' n' t').c]) ∧ Below w.heap.size w w' := by
  obtain ⟨w0, hV0⟩ : ∃ V, ((w.alloc (.cells #[.int .i64 k, .int .i64 n, .string t] 29)).alloc (.cells #[.int .i64 k', .int .i64 n', .string t'] 29)).alloc (.cells #[.int .i64 0, .int .i64 0, .string ⟨#[]⟩] 29) = V := ⟨_, rfl⟩
  have B0 : Hid (Below w.heap.size w w0) := by unfold Hid; rw [← hV0]; exact (((Below.refl _ _).alloc (Nat.le_refl _) _).alloc (by simp) _).alloc (by simp; omega) _
  have A0 : Hid (Box w0 w.heap.size 29 #[.int .i64 k, .int .i64 n, .string t]) := by unfold Hid; rw [← hV0]; exact ((Box.new _ _ _).alloc _).alloc _
  have D0 : Hid (Box w0 (w.heap.size + 1) 29 #[.int .i64 k', .int .i64 n', .string t']) := by unfold Hid; rw [← hV0]; exact (Box.new2 _ _ _ _).alloc _
  have X0 : Hid (Box w0 (w.heap.size + 2) 29 #[.int .i64 0, .int .i64 0, .string ⟨#[]⟩]) := by unfold Hid; rw [← hV0]; have := Box.new2 (w.alloc (.cells #[.int .i64 k, .int .i64 n, .string t] 29)) (.cells #[.int .i64 k', .int .i64 n', .string t'] 29) #[.int .i64 0, .int .i64 0, .string ⟨#[]⟩] 29; simpa using this
  obtain ⟨q0, q1, q2⟩ := box3 A0.out
  obtain ⟨p0, p1, p2⟩ := box3 D0.out
  obtain ⟨x0, x1, x2⟩ := box3 X0.out
  have t0 := X0.out.thaw 0
  have t1 := X0.out.thaw 1
  have t2 := X0.out.thaw 2
  go_enter Tryd.func44, Tryd.ntmps44
  go_wp2_with fail
  refine (c_bitT false _).mono ?_
  rintro e w' ⟨rfl, rfl⟩
  go_wp2_with fail
  refine (c_l10Int (trI false) _).mono ?_
  rintro e w1 ⟨rfl, hb⟩
  have B1 : Hid (Below w.heap.size w w1) := B0.out.trans (hb.mono B0.out.size)
  have A1 : Hid (Box w1 w.heap.size 29 #[.int .i64 k, .int .i64 n, .string t]) := A0.out.belowS hb
  have D1 : Hid (Box w1 (w.heap.size + 1) 29 #[.int .i64 k', .int .i64 n', .string t']) := D0.out.belowS hb
  have X1 : Hid (Box w1 (w.heap.size + 2) 29 #[.int .i64 0, .int .i64 0, .string ⟨#[]⟩]) := X0.out.belowS hb
  clear hb q0 q1 q2 p0 p1 p2 x0 x1 x2 t0 t1 t2
  obtain ⟨q0, q1, q2⟩ := box3 A1.out
  obtain ⟨p0, p1, p2⟩ := box3 D1.out
  obtain ⟨x0, x1, x2⟩ := box3 X1.out
  have t0 := X1.out.thaw 0
  have t1 := X1.out.thaw 1
  have t2 := X1.out.thaw 2
  go_wp2
  refine ret32 Tryd.results44 rfl rfl rfl (put3_box X1.out _ _ _) ⟨?_, put3_below B1.out (by omega) _ _ _⟩
  rw [E.out]
  rfl
set_option maxRecDepth 100000 in
set_option maxHeartbeats 2000000 in
theorem c_l10B_qV (op : Int) (k n : Int) (t : ByteArray) (k' n' : Int) (t' : ByteArray) (w : World) (o12 : (op == 12) = false) (o13 : (op == 13) = false) (o10 : (op == 10) = true) (k0 : (k == 0) = false) (j0 : (k' == 0) = false) (kk : (k != k') = false) (ke : (k == k') = true) (ne : (n == n') = true) (te : (t.toList == t'.toList) = true) (E : Hid (binR op k n t k' n' t' = ⟨1, 1, 0⟩)) :
    Calls Tryd.prog 44 #[.int .i64 op, .agg #[.int .i64 k, .int .i64 n, .string t], .agg #[.int .i64 k', .int .i64 n', .string t']] w fun e w' => e = .returned (.tuple #[.agg #[.int .i64 (binR op k n t k' n' t').k, .int .i64 (binR op k n t k' n' t').n, .string ⟨#[]⟩], .int .i64 (binR op k n t k' n' t').c]) ∧ Below w.heap.size w w' := by
  obtain ⟨w0, hV0⟩ : ∃ V, ((w.alloc (.cells #[.int .i64 k, .int .i64 n, .string t] 29)).alloc (.cells #[.int .i64 k', .int .i64 n', .string t'] 29)).alloc (.cells #[.int .i64 0, .int .i64 0, .string ⟨#[]⟩] 29) = V := ⟨_, rfl⟩
  have B0 : Hid (Below w.heap.size w w0) := by unfold Hid; rw [← hV0]; exact (((Below.refl _ _).alloc (Nat.le_refl _) _).alloc (by simp) _).alloc (by simp; omega) _
  have A0 : Hid (Box w0 w.heap.size 29 #[.int .i64 k, .int .i64 n, .string t]) := by unfold Hid; rw [← hV0]; exact ((Box.new _ _ _).alloc _).alloc _
  have D0 : Hid (Box w0 (w.heap.size + 1) 29 #[.int .i64 k', .int .i64 n', .string t']) := by unfold Hid; rw [← hV0]; exact (Box.new2 _ _ _ _).alloc _
  have X0 : Hid (Box w0 (w.heap.size + 2) 29 #[.int .i64 0, .int .i64 0, .string ⟨#[]⟩]) := by unfold Hid; rw [← hV0]; have := Box.new2 (w.alloc (.cells #[.int .i64 k, .int .i64 n, .string t] 29)) (.cells #[.int .i64 k', .int .i64 n', .string t'] 29) #[.int .i64 0, .int .i64 0, .string ⟨#[]⟩] 29; simpa using this
  obtain ⟨q0, q1, q2⟩ := box3 A0.out
  obtain ⟨p0, p1, p2⟩ := box3 D0.out
  obtain ⟨x0, x1, x2⟩ := box3 X0.out
  have t0 := X0.out.thaw 0
  have t1 := X0.out.thaw 1
  have t2 := X0.out.thaw 2
  go_enter Tryd.func44, Tryd.ntmps44
  go_wp2_with fail
  refine (c_bitT true _).mono ?_
  rintro e w' ⟨rfl, rfl⟩
  go_wp2_with fail
  refine (c_l10Int (trI true) _).mono ?_
  rintro e w1 ⟨rfl, hb⟩
  have B1 : Hid (Below w.heap.size w w1) := B0.out.trans (hb.mono B0.out.size)
  have A1 : Hid (Box w1 w.heap.size 29 #[.int .i64 k, .int .i64 n, .string t]) := A0.out.belowS hb
  have D1 : Hid (Box w1 (w.heap.size + 1) 29 #[.int .i64 k', .int .i64 n', .string t']) := D0.out.belowS hb
  have X1 : Hid (Box w1 (w.heap.size + 2) 29 #[.int .i64 0, .int .i64 0, .string ⟨#[]⟩]) := X0.out.belowS hb
  clear hb q0 q1 q2 p0 p1 p2 x0 x1 x2 t0 t1 t2
  obtain ⟨q0, q1, q2⟩ := box3 A1.out
  obtain ⟨p0, p1, p2⟩ := box3 D1.out
  obtain ⟨x0, x1, x2⟩ := box3 X1.out
  have t0 := X1.out.thaw 0
  have t1 := X1.out.thaw 1
  have t2 := X1.out.thaw 2
  go_wp2
  refine ret32 Tryd.results44 rfl rfl rfl (put3_box X1.out _ _ _) ⟨?_, put3_below B1.out (by omega) _ _ _⟩
  rw [E.out]
  rfl
set_option maxRecDepth 100000 in
set_option maxHeartbeats 2000000 in
theorem c_l10B_lN1 (op : Int) (k n : Int) (t : ByteArray) (k' n' : Int) (t' : ByteArray) (w : World) (o12 : (op == 12) = false) (o13 : (op == 13) = false) (o10 : (op == 10) = false) (o11 : (op == 11) = true) (k0 : (k == 0) = true) (E : Hid (binR op k n t k' n' t' = ⟨0, 0, 0⟩)) :
    Calls Tryd.prog 44 #[.int .i64 op, .agg #[.int .i64 k, .int .i64 n, .string t], .agg #[.int .i64 k', .int .i64 n', .string t']] w fun e w' => e = .returned (.tuple #[.agg #[.int .i64 (binR op k n t k' n' t').k, .int .i64 (binR op k n t k' n' t').n, .string ⟨#[]⟩], .int .i64 (binR op k n t k' n' t').c]) ∧ Below w.heap.size w w' := by
  obtain ⟨w0, hV0⟩ : ∃ V, ((w.alloc (.cells #[.int .i64 k, .int .i64 n, .string t] 29)).alloc (.cells #[.int .i64 k', .int .i64 n', .string t'] 29)).alloc (.cells #[.int .i64 0, .int .i64 0, .string ⟨#[]⟩] 29) = V := ⟨_, rfl⟩
  have B0 : Hid (Below w.heap.size w w0) := by unfold Hid; rw [← hV0]; exact (((Below.refl _ _).alloc (Nat.le_refl _) _).alloc (by simp) _).alloc (by simp; omega) _
  have A0 : Hid (Box w0 w.heap.size 29 #[.int .i64 k, .int .i64 n, .string t]) := by unfold Hid; rw [← hV0]; exact ((Box.new _ _ _).alloc _).alloc _
  have D0 : Hid (Box w0 (w.heap.size + 1) 29 #[.int .i64 k', .int .i64 n', .string t']) := by unfold Hid; rw [← hV0]; exact (Box.new2 _ _ _ _).alloc _
  have X0 : Hid (Box w0 (w.heap.size + 2) 29 #[.int .i64 0, .int .i64 0, .string ⟨#[]⟩]) := by unfold Hid; rw [← hV0]; have := Box.new2 (w.alloc (.cells #[.int .i64 k, .int .i64 n, .string t] 29)) (.cells #[.int .i64 k', .int .i64 n', .string t'] 29) #[.int .i64 0, .int .i64 0, .string ⟨#[]⟩] 29; simpa using this
  obtain ⟨q0, q1, q2⟩ := box3 A0.out
  obtain ⟨p0, p1, p2⟩ := box3 D0.out
  obtain ⟨x0, x1, x2⟩ := box3 X0.out
  have t0 := X0.out.thaw 0
  have t1 := X0.out.thaw 1
  have t2 := X0.out.thaw 2
  go_enter Tryd.func44, Tryd.ntmps44
  go_wp2
  refine ret32 Tryd.results44 rfl rfl rfl (put3_box X0.out _ _ _) ⟨?_, put3_below B0.out (by omega) _ _ _⟩
  rw [E.out]
  rfl
set_option maxRecDepth 100000 in
set_option maxHeartbeats 2000000 in
theorem c_l10B_lN2 (op : Int) (k n : Int) (t : ByteArray) (k' n' : Int) (t' : ByteArray) (w : World) (o12 : (op == 12) = false) (o13 : (op == 13) = false) (o10 : (op == 10) = false) (o11 : (op == 11) = true) (k0 : (k == 0) = false) (j0 : (k' == 0) = true) (E : Hid (binR op k n t k' n' t' = ⟨0, 0, 0⟩)) :
    Calls Tryd.prog 44 #[.int .i64 op, .agg #[.int .i64 k, .int .i64 n, .string t], .agg #[.int .i64 k', .int .i64 n', .string t']] w fun e w' => e = .returned (.tuple #[.agg #[.int .i64 (binR op k n t k' n' t').k, .int .i64 (binR op k n t k' n' t').n, .string ⟨#[]⟩], .int .i64 (binR op k n t k' n' t').c]) ∧ Below w.heap.size w w' := by
  obtain ⟨w0, hV0⟩ : ∃ V, ((w.alloc (.cells #[.int .i64 k, .int .i64 n, .string t] 29)).alloc (.cells #[.int .i64 k', .int .i64 n', .string t'] 29)).alloc (.cells #[.int .i64 0, .int .i64 0, .string ⟨#[]⟩] 29) = V := ⟨_, rfl⟩
  have B0 : Hid (Below w.heap.size w w0) := by unfold Hid; rw [← hV0]; exact (((Below.refl _ _).alloc (Nat.le_refl _) _).alloc (by simp) _).alloc (by simp; omega) _
  have A0 : Hid (Box w0 w.heap.size 29 #[.int .i64 k, .int .i64 n, .string t]) := by unfold Hid; rw [← hV0]; exact ((Box.new _ _ _).alloc _).alloc _
  have D0 : Hid (Box w0 (w.heap.size + 1) 29 #[.int .i64 k', .int .i64 n', .string t']) := by unfold Hid; rw [← hV0]; exact (Box.new2 _ _ _ _).alloc _
  have X0 : Hid (Box w0 (w.heap.size + 2) 29 #[.int .i64 0, .int .i64 0, .string ⟨#[]⟩]) := by unfold Hid; rw [← hV0]; have := Box.new2 (w.alloc (.cells #[.int .i64 k, .int .i64 n, .string t] 29)) (.cells #[.int .i64 k', .int .i64 n', .string t'] 29) #[.int .i64 0, .int .i64 0, .string ⟨#[]⟩] 29; simpa using this
  obtain ⟨q0, q1, q2⟩ := box3 A0.out
  obtain ⟨p0, p1, p2⟩ := box3 D0.out
  obtain ⟨x0, x1, x2⟩ := box3 X0.out
  have t0 := X0.out.thaw 0
  have t1 := X0.out.thaw 1
  have t2 := X0.out.thaw 2
  go_enter Tryd.func44, Tryd.ntmps44
  go_wp2
  refine ret32 Tryd.results44 rfl rfl rfl (put3_box X0.out _ _ _) ⟨?_, put3_below B0.out (by omega) _ _ _⟩
  rw [E.out]
  rfl
set_option maxRecDepth 100000 in
set_option maxHeartbeats 2000000 in
theorem c_l10B_lK (op : Int) (k n : Int) (t : ByteArray) (k' n' : Int) (t' : ByteArray) (w : World) (o12 : (op == 12) = false) (o13 : (op == 13) = false) (o10 : (op == 10) = false) (o11 : (op == 11) = true) (k0 : (k == 0) = false) (j0 : (k' == 0) = false) (kk : (k != k') = true) (E : Hid (binR op k n t k' n' t' = ⟨0, 0, 10⟩)) :
    Calls Tryd.prog 44 #[.int .i64 op, .agg #[.int .i64 k, .int .i64 n, .string t], .agg #[.int .i64 k', .int .i64 n', .string t']] w fun e w' => e = .returned (.tuple #[.agg #[.int .i64 (binR op k n t k' n' t').k, .int .i64 (binR op k n t k' n' t').n, .string ⟨#[]⟩], .int .i64 (binR op k n t k' n' t').c]) ∧ Below w.heap.size w w' := by
  obtain ⟨w0, hV0⟩ : ∃ V, ((w.alloc (.cells #[.int .i64 k, .int .i64 n, .string t] 29)).alloc (.cells #[.int .i64 k', .int .i64 n', .string t'] 29)).alloc (.cells #[.int .i64 0, .int .i64 0, .string ⟨#[]⟩] 29) = V := ⟨_, rfl⟩
  have B0 : Hid (Below w.heap.size w w0) := by unfold Hid; rw [← hV0]; exact (((Below.refl _ _).alloc (Nat.le_refl _) _).alloc (by simp) _).alloc (by simp; omega) _
  have A0 : Hid (Box w0 w.heap.size 29 #[.int .i64 k, .int .i64 n, .string t]) := by unfold Hid; rw [← hV0]; exact ((Box.new _ _ _).alloc _).alloc _
  have D0 : Hid (Box w0 (w.heap.size + 1) 29 #[.int .i64 k', .int .i64 n', .string t']) := by unfold Hid; rw [← hV0]; exact (Box.new2 _ _ _ _).alloc _
  have X0 : Hid (Box w0 (w.heap.size + 2) 29 #[.int .i64 0, .int .i64 0, .string ⟨#[]⟩]) := by unfold Hid; rw [← hV0]; have := Box.new2 (w.alloc (.cells #[.int .i64 k, .int .i64 n, .string t] 29)) (.cells #[.int .i64 k', .int .i64 n', .string t'] 29) #[.int .i64 0, .int .i64 0, .string ⟨#[]⟩] 29; simpa using this
  obtain ⟨q0, q1, q2⟩ := box3 A0.out
  obtain ⟨p0, p1, p2⟩ := box3 D0.out
  obtain ⟨x0, x1, x2⟩ := box3 X0.out
  have t0 := X0.out.thaw 0
  have t1 := X0.out.thaw 1
  have t2 := X0.out.thaw 2
  go_enter Tryd.func44, Tryd.ntmps44
  go_wp2
  refine ret32 Tryd.results44 rfl rfl rfl (put3_box X0.out _ _ _) ⟨?_, put3_below B0.out (by omega) _ _ _⟩
  rw [E.out]
  rfl
set_option maxRecDepth 100000 in
set_option maxHeartbeats 2000000 in
theorem c_l10B_lL (op : Int) (k n : Int) (t : ByteArray) (k' n' : Int) (t' : ByteArray) (w : World) (o12 : (op == 12) = false) (o13 : (op == 13) = false) (o10 : (op == 10) = false) (o11 : (op == 11) = true) (k0 : (k == 0) = false) (j0 : (k' == 0) = false) (kk : (k != k') = false) (E : Hid (binR op k n t k' n' t' = ⟨1, trI (decide (cmpV k n t k' n' t' < 0)), 0⟩)) :
    Calls Tryd.prog 44 #[.int .i64 op, .agg #[.int .i64 k, .int .i64 n, .string t], .agg #[.int .i64 k', .int .i64 n', .string t']] w fun e w' => e = .returned (.tuple #[.agg #[.int .i64 (binR op k n t k' n' t').k, .int .i64 (binR op k n t k' n' t').n, .string ⟨#[]⟩], .int .i64 (binR op k n t k' n' t').c]) ∧ Below w.heap.size w w' := by
  obtain ⟨w0, hV0⟩ : ∃ V, ((w.alloc (.cells #[.int .i64 k, .int .i64 n, .string t] 29)).alloc (.cells #[.int .i64 k', .int .i64 n', .string t'] 29)).alloc (.cells #[.int .i64 0, .int .i64 0, .string ⟨#[]⟩] 29) = V := ⟨_, rfl⟩
  have B0 : Hid (Below w.heap.size w w0) := by unfold Hid; rw [← hV0]; exact (((Below.refl _ _).alloc (Nat.le_refl _) _).alloc (by simp) _).alloc (by simp; omega) _
  have A0 : Hid (Box w0 w.heap.size 29 #[.int .i64 k, .int .i64 n, .string t]) := by unfold Hid; rw [← hV0]; exact ((Box.new _ _ _).alloc _).alloc _
  have D0 : Hid (Box w0 (w.heap.size + 1) 29 #[.int .i64 k', .int .i64 n', .string t']) := by unfold Hid; rw [← hV0]; exact (Box.new2 _ _ _ _).alloc _
  have X0 : Hid (Box w0 (w.heap.size + 2) 29 #[.int .i64 0, .int .i64 0, .string ⟨#[]⟩]) := by unfold Hid; rw [← hV0]; have := Box.new2 (w.alloc (.cells #[.int .i64 k, .int .i64 n, .string t] 29)) (.cells #[.int .i64 k', .int .i64 n', .string t'] 29) #[.int .i64 0, .int .i64 0, .string ⟨#[]⟩] 29; simpa using this
  obtain ⟨q0, q1, q2⟩ := box3 A0.out
  obtain ⟨p0, p1, p2⟩ := box3 D0.out
  obtain ⟨x0, x1, x2⟩ := box3 X0.out
  have t0 := X0.out.thaw 0
  have t1 := X0.out.thaw 1
  have t2 := X0.out.thaw 2
  go_enter Tryd.func44, Tryd.ntmps44
  go_wp2_with fail
  refine (c_cmpL k n t k' n' t' _).mono ?_
  rintro e w1 ⟨rfl, hb⟩
  have B1 : Hid (Below w.heap.size w w1) := B0.out.trans (hb.mono B0.out.size)
  have A1 : Hid (Box w1 w.heap.size 29 #[.int .i64 k, .int .i64 n, .string t]) := A0.out.belowS hb
  have D1 : Hid (Box w1 (w.heap.size + 1) 29 #[.int .i64 k', .int .i64 n', .string t']) := D0.out.belowS hb
  have X1 : Hid (Box w1 (w.heap.size + 2) 29 #[.int .i64 0, .int .i64 0, .string ⟨#[]⟩]) := X0.out.belowS hb
  clear hb q0 q1 q2 p0 p1 p2 x0 x1 x2 t0 t1 t2
  obtain ⟨q0, q1, q2⟩ := box3 A1.out
  obtain ⟨p0, p1, p2⟩ := box3 D1.out
  obtain ⟨x0, x1, x2⟩ := box3 X1.out
  have t0 := X1.out.thaw 0
  have t1 := X1.out.thaw 1
  have t2 := X1.out.thaw 2
  go_wp2_with fail
  refine (c_bitT (decide (cmpV k n t k' n' t' < 0)) _).mono ?_
  rintro e w' ⟨rfl, rfl⟩
  go_wp2_with fail
  refine (c_l10Int (trI (decide (cmpV k n t k' n' t' < 0))) _).mono ?_
  rintro e w2 ⟨rfl, hb⟩
  have B2 : Hid (Below w.heap.size w w2) := B1.out.trans (hb.mono B1.out.size)
  have A2 : Hid (Box w2 w.heap.size 29 #[.int .i64 k, .int .i64 n, .string t]) := A1.out.belowS hb
  have D2 : Hid (Box w2 (w.heap.size + 1) 29 #[.int .i64 k', .int .i64 n', .string t']) := D1.out.belowS hb
  have X2 : Hid (Box w2 (w.heap.size + 2) 29 #[.int .i64 0, .int .i64 0, .string ⟨#[]⟩]) := X1.out.belowS hb
  clear hb q0 q1 q2 p0 p1 p2 x0 x1 x2 t0 t1 t2
  obtain ⟨q0, q1, q2⟩ := box3 A2.out
  obtain ⟨p0, p1, p2⟩ := box3 D2.out
  obtain ⟨x0, x1, x2⟩ := box3 X2.out
  have t0 := X2.out.thaw 0
  have t1 := X2.out.thaw 1
  have t2 := X2.out.thaw 2
  go_wp2
  refine ret32 Tryd.results44 rfl rfl rfl (put3_box X2.out _ _ _) ⟨?_, put3_below B2.out (by omega) _ _ _⟩
  rw [E.out]
  rfl

end Go.Proofs.YtcgcaomaofppiaaDoor
