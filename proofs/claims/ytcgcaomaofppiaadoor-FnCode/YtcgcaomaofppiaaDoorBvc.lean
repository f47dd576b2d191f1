/-
  BinaryValue: the specification's.
-/
import Derived.Test.YtcgcaomaofppiaaDoorBvb
namespace Go.Proofs.YtcgcaomaofppiaaDoor
open Go Go.RowKit
set_option linter.unusedVariables false

theorem c_bitT (b : Bool) (w : World) : Calls Tryd.prog 46 #[.bool b] w fun e w' => e = .returned (.int .i64 (trI b)) ∧ w' = w := c_bit b w
set_option maxRecDepth 100000 in
set_option maxHeartbeats 2000000 in
theorem c_l10Int (n : Int) (w : World) : Calls Tryd.prog 45 #[.int .i64 n] w fun e w' => e = .returned (.agg #[.int .i64 1, .int .i64 n, .string ⟨#[]⟩]) ∧ Below w.heap.size w w' := by
  go_enter Tryd.func45, Tryd.ntmps45
  go_wp2
  refine bodyPost_ret (v := .agg #[.int .i64 1, .int .i64 n, .string ⟨#[]⟩]) (by simp [results, Tryd.results45, go_sem]) rfl ⟨rfl, ?_⟩
  exact (Below.refl _ _).alloc (Nat.le_refl _) _

set_option maxRecDepth 100000 in
set_option maxHeartbeats 2000000 in
theorem c_bounded (v : Int) (w : World) : Calls Tryd.prog 72 #[.int .i64 v] w fun e w' => e = .returned (.tuple #[.agg #[.int .i64 (bndB v).k, .int .i64 (bndB v).n, .string ⟨#[]⟩], .int .i64 (bndB v).c]) ∧ Below w.heap.size w w' := by
  cases hv : inB v (-1000000000) 1000000000
  · have E : Hid (bndB v = ⟨0, 0, 12⟩) := bnd_no hv
    go_enter Tryd.func72, Tryd.ntmps72
    go_wp2_with (go_at_call 40; refine (c_in _ _ _ _).mono ?_; rintro e w' ⟨rfl, rfl⟩)
    refine ret32 Tryd.results72 rfl rfl rfl (Box.new _ _ _) ⟨?_, (Below.refl _ _).alloc (Nat.le_refl _) _⟩
    rw [E.out]
    rfl
  · have E : Hid (bndB v = ⟨1, v, 0⟩) := bnd_yes hv
    obtain ⟨w0, hV0⟩ : ∃ V, w.alloc (.cells #[.int .i64 0, .int .i64 0, .string ⟨#[]⟩] 29) = V := ⟨_, rfl⟩
    have B0 : Hid (Below w.heap.size w w0) := by unfold Hid; rw [← hV0]; exact (Below.refl _ _).alloc (Nat.le_refl _) _
    have X0 : Hid (Box w0 w.heap.size 29 #[.int .i64 0, .int .i64 0, .string ⟨#[]⟩]) := by unfold Hid; rw [← hV0]; exact Box.new _ _ _
    go_enter Tryd.func72, Tryd.ntmps72
    go_wp2_with (go_at_call 40; refine (c_in _ _ _ _).mono ?_; rintro e w' ⟨rfl, rfl⟩)
    refine (c_l10Int v _).mono ?_
    rintro e w1 ⟨rfl, hb⟩
    have B1 : Hid (Below w.heap.size w w1) := B0.out.trans (hb.mono B0.out.size)
    have X1 : Hid (Box w1 w.heap.size 29 #[.int .i64 0, .int .i64 0, .string ⟨#[]⟩]) := X0.out.belowS hb
    have s1 : w.heap.size < w1.heap.size := X1.out.lt
    obtain ⟨x0, x1, x2⟩ := box3 X1.out
    have t0 := X1.out.thaw 0
    have t1 := X1.out.thaw 1
    have t2 := X1.out.thaw 2
    clear hb hV0 B0 X0
    go_wp2
    refine ret32 Tryd.results72 rfl rfl rfl (put3_box X1.out _ _ _) ⟨?_, put3_below B1.out (Nat.le_refl _) _ _ _⟩
    rw [E.out]
    rfl

set_option maxRecDepth 100000 in
set_option maxHeartbeats 2000000 in
theorem c_l10B_12T1 (op : Int) (k n : Int) (t : ByteArray) (k' n' : Int) (t' : ByteArray) (w : World) (o12 : (op == 12) = true) (o13 : (op == 13) = false) (k2 : (k == 2) = true) (E : Hid (binR op k n t k' n' t' = ⟨0, 0, 10⟩)) :
    Calls Tryd.prog 44 #[.int .i64 op, .agg #[.int .i64 k, .int .i64 n, .string t], .agg #[.int .i64 k', .int .i64 n', .string t']] w fun e w' => e = .returned (.tuple #[.agg #[.int .i64 (binR op k n t k' n' t').k, .int .i64 (binR op k n t k' n' t').n, .string ⟨#[]⟩], .int .i64 (binR op k n t k' n' t').c]) ∧ Below w.heap.size w w' := by
  obtain ⟨w0, hV0⟩ : ∃ V, ((w.alloc (.cells #[.int .i64 k, .int .i64 n, .string t] 29)).alloc (.cells #[.int .i64 k', .int .i64 n', .string t'] 29)).alloc (.cells #[.int .i64 0, .int .i64 0, .string ⟨#[]⟩] 29) = V := ⟨_, rfl⟩
  have B0 : Hid (Below w.heap.size w w0) := by unfold Hid; rw [← hV0]; exact (((Below.refl _ _).alloc (Nat.le_refl _) _).alloc (by simp) _).alloc (by simp; omega) _
  have A0 : Hid (Box w0 w.heap.size 29 #[.int .i64 k, .int .i64 n, .string t]) := by unfold Hid; rw [← hV0]; exact ((Box.new _ _ _).alloc _).alloc _
  have D0 : Hid (Box w0 (w.heap.size + 1) 29 #[.int .i64 k', .int .i64 n', .string t']) := by unfold Hid; rw [← hV0]; exact (Box.new2 _ _ _ _).alloc _
  have X0 : Hid (Box w0 (w.heap.size + 2) 29 #[.int .i64 0, .int .i64 0, .string ⟨#[]⟩]) := by unfold Hid; rw [← hV0]; have := Box.new2 (w.alloc (.cells #[.int .i64 k, .int .i64 n, .string t] 29)) (.cells #[.int .i64 k', .int .i64 n', .string t'] 29) #[.int .i64 0, .int .i64 0, .string ⟨#[]⟩] 29; simpa using this
  obtain ⟨q0, q1, q2⟩ := box3 A0.out
  obtain ⟨p0, p1, p2⟩ := box3 D0.out
  obtain ⟨x0, x1, x2⟩ := box3 X0.out
  have t0 := X0.out.thaw 0
  have t1 := X0.out.thaw 1
  have t2 := X0.out.thaw 2
  go_enter Tryd.func44, Tryd.ntmps44
  go_wp2
  refine ret32 Tryd.results44 rfl rfl rfl (put3_box X0.out _ _ _) ⟨?_, put3_below B0.out (by omega) _ _ _⟩
  rw [E.out]
  rfl
set_option maxRecDepth 100000 in
set_option maxHeartbeats 2000000 in
theorem c_l10B_12T2 (op : Int) (k n : Int) (t : ByteArray) (k' n' : Int) (t' : ByteArray) (w : World) (o12 : (op == 12) = true) (o13 : (op == 13) = false) (k2 : (k == 2) = false) (j2 : (k' == 2) = true) (E : Hid (binR op k n t k' n' t' = ⟨0, 0, 10⟩)) :
    Calls Tryd.prog 44 #[.int .i64 op, .agg #[.int .i64 k, .int .i64 n, .string t], .agg #[.int .i64 k', .int .i64 n', .string t']] w fun e w' => e = .returned (.tuple #[.agg #[.int .i64 (binR op k n t k' n' t').k, .int .i64 (binR op k n t k' n' t').n, .string ⟨#[]⟩], .int .i64 (binR op k n t k' n' t').c]) ∧ Below w.heap.size w w' := by
  obtain ⟨w0, hV0⟩ : ∃ V, ((w.alloc (.cells #[.int .i64 k, .int .i64 n, .string t] 29)).alloc (.cells #[.int .i64 k', .int .i64 n', .string t'] 29)).alloc (.cells #[.int .i64 0, .int .i64 0, .string ⟨#[]⟩] 29) = V := ⟨_, rfl⟩
  have B0 : Hid (Below w.heap.size w w0) := by unfold Hid; rw [← hV0]; exact (((Below.refl _ _).alloc (Nat.le_refl _) _).alloc (by simp) _).alloc (by simp; omega) _
  have A0 : Hid (Box w0 w.heap.size 29 #[.int .i64 k, .int .i64 n, .string t]) := by unfold Hid; rw [← hV0]; exact ((Box.new _ _ _).alloc _).alloc _
  have D0 : Hid (Box w0 (w.heap.size + 1) 29 #[.int .i64 k', .int .i64 n', .string t']) := by unfold Hid; rw [← hV0]; exact (Box.new2 _ _ _ _).alloc _
  have X0 : Hid (Box w0 (w.heap.size + 2) 29 #[.int .i64 0, .int .i64 0, .string ⟨#[]⟩]) := by unfold Hid; rw [← hV0]; have := Box.new2 (w.alloc (.cells #[.int .i64 k, .int .i64 n, .string t] 29)) (.cells #[.int .i64 k', .int .i64 n', .string t'] 29) #[.int .i64 0, .int .i64 0, .string ⟨#[]⟩] 29; simpa using this
  obtain ⟨q0, q1, q2⟩ := box3 A0.out
  obtain ⟨p0, p1, p2⟩ := box3 D0.out
  obtain ⟨x0, x1, x2⟩ := box3 X0.out
  have t0 := X0.out.thaw 0
  have t1 := X0.out.thaw 1
  have t2 := X0.out.thaw 2
  go_enter Tryd.func44, Tryd.ntmps44
  go_wp2
  refine ret32 Tryd.results44 rfl rfl rfl (put3_box X0.out _ _ _) ⟨?_, put3_below B0.out (by omega) _ _ _⟩
  rw [E.out]
  rfl
set_option maxRecDepth 100000 in
set_option maxHeartbeats 2000000 in
theorem c_l10B_12NN (op : Int) (k n : Int) (t : ByteArray) (k' n' : Int) (t' : ByteArray) (w : World) (o12 : (op == 12) = true) (o13 : (op == 13) = false) (k2 : (k == 2) = false) (j2 : (k' == 2) = false) (k1 : (k == 1) = false) (k0 : (k == 0) = true) (j1 : (k' == 1) = false) (j0 : (k' == 0) = true) (E : Hid (binR op k n t k' n' t' = ⟨0, 0, 0⟩)) :
    Calls Tryd.prog 44 #[.int .i64 op, .agg #[.int .i64 k, .int .i64 n, .string t], .agg #[.int .i64 k', .int .i64 n', .string t']] w fun e w' => e = .returned (.tuple #[.agg #[.int .i64 (binR op k n t k' n' t').k, .int .i64 (binR op k n t k' n' t').n, .string ⟨#[]⟩], .int .i64 (binR op k n t k' n' t').c]) ∧ Below w.heap.size w w' := by
  obtain ⟨w0, hV0⟩ : ∃ V, ((w.alloc (.cells #[.int .i64 k, .int .i64 n, .string t] 29)).alloc (.cells #[.int .i64 k', .int .i64 n', .string t'] 29)).alloc (.cells #[.int .i64 0, .int .i64 0, .string ⟨#[]⟩] 29) = V := ⟨_, rfl⟩
  have B0 : Hid (Below w.heap.size w w0) := by unfold Hid; rw [← hV0]; exact (((Below.refl _ _).alloc (Nat.le_refl _) _).alloc (by simp) _).alloc (by simp; omega) _
  have A0 : Hid (Box w0 w.heap.size 29 #[.int .i64 k, .int .i64 n, .string t]) := by unfold Hid; rw [← hV0]; exact ((Box.new _ _ _).alloc _).alloc _
  have D0 : Hid (Box w0 (w.heap.size + 1) 29 #[.int .i64 k', .int .i64 n', .string t']) := by unfold Hid; rw [← hV0]; exact (Box.new2 _ _ _ _).alloc _
  have X0 : Hid (Box w0 (w.heap.size + 2) 29 #[.int .i64 0, .int .i64 0, .string ⟨#[]⟩]) := by unfold Hid; rw [← hV0]; have := Box.new2 (w.alloc (.cells #[.int .i64 k, .int .i64 n, .string t] 29)) (.cells #[.int .i64 k', .int .i64 n', .string t'] 29) #[.int .i64 0, .int .i64 0, .string ⟨#[]⟩] 29; simpa using this
  obtain ⟨q0, q1, q2⟩ := box3 A0.out
  obtain ⟨p0, p1, p2⟩ := box3 D0.out
  obtain ⟨x0, x1, x2⟩ := box3 X0.out
  have t0 := X0.out.thaw 0
  have t1 := X0.out.thaw 1
  have t2 := X0.out.thaw 2
  go_enter Tryd.func44, Tryd.ntmps44
  go_wp2
  refine ret32 Tryd.results44 rfl rfl rfl (put3_box X0.out _ _ _) ⟨?_, put3_below B0.out (by omega) _ _ _⟩
  rw [E.out]
  rfl
set_option maxRecDepth 100000 in
set_option maxHeartbeats 2000000 in
theorem c_l10B_12N1 (op : Int) (k n : Int) (t : ByteArray) (k' n' : Int) (t' : ByteArray) (w : World) (o12 : (op == 12) = true) (o13 : (op == 13) = false) (k2 : (k == 2) = false) (j2 : (k' == 2) = false) (k1 : (k == 1) = false) (k0 : (k == 0) = true) (j1 : (k' == 1) = true) (j0 : (k' == 0) = false) (m0 : (n' == 0) = true) (mm : (n' != 0) = false) (E : Hid (binR op k n t k' n' t' = ⟨1, 0, 0⟩)) :
    Calls Tryd.prog 44 #[.int .i64 op, .agg #[.int .i64 k, .int .i64 n, .string t], .agg #[.int .i64 k', .int .i64 n', .string t']] w fun e w' => e = .returned (.tuple #[.agg #[.int .i64 (binR op k n t k' n' t').k, .int .i64 (binR op k n t k' n' t').n, .string ⟨#[]⟩], .int .i64 (binR op k n t k' n' t').c]) ∧ Below w.heap.size w w' := by
  obtain ⟨w0, hV0⟩ : ∃ V, ((w.alloc (.cells #[.int .i64 k, .int .i64 n, .string t] 29)).alloc (.cells #[.int .i64 k', .int .i64 n', .string t'] 29)).alloc (.cells #[.int .i64 0, .int .i64 0, .string ⟨#[]⟩] 29) = V := ⟨_, rfl⟩
  have B0 : Hid (Below w.heap.size w w0) := by unfold Hid; rw [← hV0]; exact (((Below.refl _ _).alloc (Nat.le_refl _) _).alloc (by simp) _).alloc (by simp; omega) _
  have A0 : Hid (Box w0 w.heap.size 29 #[.int .i64 k, .int .i64 n, .string t]) := by unfold Hid; rw [← hV0]; exact ((Box.new _ _ _).alloc _).alloc _
  have D0 : Hid (Box w0 (w.heap.size + 1) 29 #[.int .i64 k', .int .i64 n', .string t']) := by unfold Hid; rw [← hV0]; exact (Box.new2 _ _ _ _).alloc _
  have X0 : Hid (Box w0 (w.heap.size + 2) 29 #[.int .i64 0, .int .i64 0, .string ⟨#[]⟩]) := by unfold Hid; rw [← hV0]; have := Box.new2 (w.alloc (.cells #[.int .i64 k, .int .i64 n, .string t] 29)) (.cells #[.int .i64 k', .int .i64 n', .string t'] 29) #[.int .i64 0, .int .i64 0, .string ⟨#[]⟩] 29; simpa using this
  obtain ⟨q0, q1, q2⟩ := box3 A0.out
  obtain ⟨p0, p1, p2⟩ := box3 D0.out
  obtain ⟨x0, x1, x2⟩ := box3 X0.out
  have t0 := X0.out.thaw 0
  have t1 := X0.out.thaw 1
  have t2 := X0.out.thaw 2
  go_enter Tryd.func44, Tryd.ntmps44
  go_wp2_with fail
  refine (c_l10Int 0 _).mono ?_
  rintro e w1 ⟨rfl, hb⟩
  have B1 : Hid (Below w.heap.size w w1) := B0.out.trans (hb.mono B0.out.size)
  have A1 : Hid (Box w1 w.heap.size 29 #[.int .i64 k, .int .i64 n, .string t]) := A0.out.belowS hb
  have D1 : Hid (Box w1 (w.heap.size + 1) 29 #[.int .i64 k', .int .i64 n', .string t']) := D0.out.belowS hb
  have X1 : Hid (Box w1 (w.heap.size + 2) 29 #[.int .i64 0, .int .i64 0, .string ⟨#[]⟩]) := X0.out.belowS hb
  clear hb q0 q1 q2 p0 p1 p2 x0 x1 x2 t0 t1 t2
  obtain ⟨q0, q1, q2⟩ := box3 A1.out
  obtain ⟨p0, p1, p2⟩ := box3 D1.out
  obtain ⟨x0, x1, x2⟩ := box3 X1.out
  have t0 := X1.out.thaw 0
  have t1 := X1.out.thaw 1
  have t2 := X1.out.thaw 2
  go_wp2
  refine ret32 Tryd.results44 rfl rfl rfl (put3_box X1.out _ _ _) ⟨?_, put3_below B1.out (by omega) _ _ _⟩
  rw [E.out]
  rfl
set_option maxRecDepth 100000 in
set_option maxHeartbeats 2000000 in
theorem c_l10B_12N0 (op : Int) (k n : Int) (t : ByteArray) (k' n' : Int) (t' : ByteArray) (w : World) (o12 : (op == 12) = true) (o13 : (op == 13) = false) (k2 : (k == 2) = false) (j2 : (k' == 2) = false) (k1 : (k == 1) = false) (k0 : (k == 0) = true) (j1 : (k' == 1) = true) (j0 : (k' == 0) = false) (m0 : (n' == 0) = false) (mm : (n' != 0) = true) (E : Hid (binR op k n t k' n' t' = ⟨0, 0, 0⟩)) :
    Calls Tryd.prog 44 #[.int .i64 op, .agg #[.int .i64 k, .int .i64 n, .string t], .agg #[.int .i64 k', .int .i64 n', .string t']] w fun e w' => e = .returned (.tuple #[.agg #[.int .i64 (binR op k n t k' n' t').k, .int .i64 (binR op k n t k' n' t').n, .string ⟨#[]⟩], .int .i64 (binR op k n t k' n' t').c]) ∧ Below w.heap.size w w' := by
  obtain ⟨w0, hV0⟩ : ∃ V, ((w.alloc (.cells #[.int .i64 k, .int .i64 n, .string t] 29)).alloc (.cells #[.int .i64 k', .int .i64 n', .string t'] 29)).alloc (.cells #[.int .i64 0, .int .i64 0, .string ⟨#[]⟩] 29) = V := ⟨_, rfl⟩
  have B0 : Hid (Below w.heap.size w w0) := by unfold Hid; rw [← hV0]; exact (((Below.refl _ _).alloc (Nat.le_refl _) _).alloc (by simp) _).alloc (by simp; omega) _
  have A0 : Hid (Box w0 w.heap.size 29 #[.int .i64 k, .int .i64 n, .string t]) := by unfold Hid; rw [← hV0]; exact ((Box.new _ _ _).alloc _).alloc _
  have D0 : Hid (Box w0 (w.heap.size + 1) 29 #[.int .i64 k', .int .i64 n', .string t']) := by unfold Hid; rw [← hV0]; exact (Box.new2 _ _ _ _).alloc _
  have X0 : Hid (Box w0 (w.heap.size + 2) 29 #[.int .i64 0, .int .i64 0, .string ⟨#[]⟩]) := by unfold Hid; rw [← hV0]; have := Box.new2 (w.alloc (.cells #[.int .i64 k, .int .i64 n, .string t] 29)) (.cells #[.int .i64 k', .int .i64 n', .string t'] 29) #[.int .i64 0, .int .i64 0, .string ⟨#[]⟩] 29; simpa using this
  obtain ⟨q0, q1, q2⟩ := box3 A0.out
  obtain ⟨p0, p1, p2⟩ := box3 D0.out
  obtain ⟨x0, x1, x2⟩ := box3 X0.out
  have t0 := X0.out.thaw 0
  have t1 := X0.out.thaw 1
  have t2 := X0.out.thaw 2
  go_enter Tryd.func44, Tryd.ntmps44
  go_wp2
  refine ret32 Tryd.results44 rfl rfl rfl (put3_box X0.out _ _ _) ⟨?_, put3_below B0.out (by omega) _ _ _⟩
  rw [E.out]
  rfl
set_option maxRecDepth 100000 in
set_option maxHeartbeats 2000000 in
theorem c_l10B_121N (op : Int) (k n : Int) (t : ByteArray) (k' n' : Int) (t' : ByteArray) (w : World) (o12 : (op == 12) = true) (o13 : (op == 13) = false) (k2 : (k == 2) = false) (j2 : (k' == 2) = false) (k1 : (k == 1) = true) (k0 : (k == 0) = false) (n0 : (n == 0) = true) (nn : (n != 0) = false) (j1 : (k' == 1) = false) (j0 : (k' == 0) = true) (E : Hid (binR op k n t k' n' t' = ⟨1, 0, 0⟩)) :
    Calls Tryd.prog 44 #[.int .i64 op, .agg #[.int .i64 k, .int .i64 n, .string t], .agg #[.int .i64 k', .int .i64 n', .string t']] w fun e w' => e = .returned (.tuple #[.agg #[.int .i64 (binR op k n t k' n' t').k, .int .i64 (binR op k n t k' n' t').n, .string ⟨#[]⟩], .int .i64 (binR op k n t k' n' t').c]) ∧ Below w.heap.size w w' := by
  obtain ⟨w0, hV0⟩ : ∃ V, ((w.alloc (.cells #[.int .i64 k, .int .i64 n, .string t] 29)).alloc (.cells #[.int .i64 k', .int .i64 n', .string t'] 29)).alloc (.cells #[.int .i64 0, .int .i64 0, .string ⟨#[]⟩] 29) = V := ⟨_, rfl⟩
  have B0 : Hid (Below w.heap.size w w0) := by unfold Hid; rw [← hV0]; exact (((Below.refl _ _).alloc (Nat.le_refl _) _).alloc (by simp) _).alloc (by simp; omega) _
  have A0 : Hid (Box w0 w.heap.size 29 #[.int .i64 k, .int .i64 n, .string t]) := by unfold Hid; rw [← hV0]; exact ((Box.new _ _ _).alloc _).alloc _
  have D0 : Hid (Box w0 (w.heap.size + 1) 29 #[.int .i64 k', .int .i64 n', .string t']) := by unfold Hid; rw [← hV0]; exact (Box.new2 _ _ _ _).alloc _
  have X0 : Hid (Box w0 (w.heap.size + 2) 29 #[.int .i64 0, .int .i64 0, .string ⟨#[]⟩]) := by unfold Hid; rw [← hV0]; have := Box.new2 (w.alloc (.cells #[.int .i64 k, .int .i64 n, .string t] 29)) (.cells #[.int .i64 k', .int .i64 n', .string t'] 29) #[.int .i64 0, .int .i64 0, .string ⟨#[]⟩] 29; simpa using this
  obtain ⟨q0, q1, q2⟩ := box3 A0.out
  obtain ⟨p0, p1, p2⟩ := box3 D0.out
  obtain ⟨x0, x1, x2⟩ := box3 X0.out
  have t0 := X0.out.thaw 0
  have t1 := X0.out.thaw 1
  have t2 := X0.out.thaw 2
  go_enter Tryd.func44, Tryd.ntmps44
  go_wp2_with fail
  refine (c_l10Int 0 _).mono ?_
  rintro e w1 ⟨rfl, hb⟩
  have B1 : Hid (Below w.heap.size w w1) := B0.out.trans (hb.mono B0.out.size)
  have A1 : Hid (Box w1 w.heap.size 29 #[.int .i64 k, .int .i64 n, .string t]) := A0.out.belowS hb
  have D1 : Hid (Box w1 (w.heap.size + 1) 29 #[.int .i64 k', .int .i64 n', .string t']) := D0.out.belowS hb
  have X1 : Hid (Box w1 (w.heap.size + 2) 29 #[.int .i64 0, .int .i64 0, .string ⟨#[]⟩]) := X0.out.belowS hb
  clear hb q0 q1 q2 p0 p1 p2 x0 x1 x2 t0 t1 t2
  obtain ⟨q0, q1, q2⟩ := box3 A1.out
  obtain ⟨p0, p1, p2⟩ := box3 D1.out
  obtain ⟨x0, x1, x2⟩ := box3 X1.out
  have t0 := X1.out.thaw 0
  have t1 := X1.out.thaw 1
  have t2 := X1.out.thaw 2
  go_wp2
  refine ret32 Tryd.results44 rfl rfl rfl (put3_box X1.out _ _ _) ⟨?_, put3_below B1.out (by omega) _ _ _⟩
  rw [E.out]
  rfl
set_option maxRecDepth 100000 in
set_option maxHeartbeats 2000000 in
theorem c_l10B_1211 (op : Int) (k n : Int) (t : ByteArray) (k' n' : Int) (t' : ByteArray) (w : World) (o12 : (op == 12) = true) (o13 : (op == 13) = false) (k2 : (k == 2) = false) (j2 : (k' == 2) = false) (k1 : (k == 1) = true) (k0 : (k == 0) = false) (n0 : (n == 0) = true) (nn : (n != 0) = false) (j1 : (k' == 1) = true) (j0 : (k' == 0) = false) (m0 : (n' == 0) = true) (mm : (n' != 0) = false) (E : Hid (binR op k n t k' n' t' = ⟨1, 0, 0⟩)) :
    Calls Tryd.prog 44 #[.int .i64 op, .agg #[.int .i64 k, .int .i64 n, .string t], .agg #[.int .i64 k', .int .i64 n', .string t']] w fun e w' => e = .returned (.tuple #[.agg #[.int .i64 (binR op k n t k' n' t').k, .int .i64 (binR op k n t k' n' t').n, .string ⟨#[]⟩], .int .i64 (binR op k n t k' n' t').c]) ∧ Below w.heap.size w w' := by
  obtain ⟨w0, hV0⟩ : ∃ V, ((w.alloc (.cells #[.int .i64 k, .int .i64 n, .string t] 29)).alloc (.cells #[.int .i64 k', .int .i64 n', .string t'] 29)).alloc (.cells #[.int .i64 0, .int .i64 0, .string ⟨#[]⟩] 29) = V := ⟨_, rfl⟩
  have B0 : Hid (Below w.heap.size w w0) := by unfold Hid; rw [← hV0]; exact (((Below.refl _ _).alloc (Nat.le_refl _) _).alloc (by simp) _).alloc (by simp; omega) _
  have A0 : Hid (Box w0 w.heap.size 29 #[.int .i64 k, .int .i64 n, .string t]) := by unfold Hid; rw [← hV0]; exact ((Box.new _ _ _).alloc _).alloc _
  have D0 : Hid (Box w0 (w.heap.size + 1) 29 #[.int .i64 k', .int .i64 n', .string t']) := by unfold Hid; rw [← hV0]; exact (Box.new2 _ _ _ _).alloc _
  have X0 : Hid (Box w0 (w.heap.size + 2) 29 #[.int .i64 0, .int .i64 0, .string ⟨#[]⟩]) := by unfold Hid; rw [← hV0]; have := Box.new2 (w.alloc (.cells #[.int .i64 k, .int .i64 n, .string t] 29)) (.cells #[.int .i64 k', .int .i64 n', .string t'] 29) #[.int .i64 0, .int .i64 0, .string ⟨#[]⟩] 29; simpa using this
  obtain ⟨q0, q1, q2⟩ := box3 A0.out
  obtain ⟨p0, p1, p2⟩ := box3 D0.out
  obtain ⟨x0, x1, x2⟩ := box3 X0.out
  have t0 := X0.out.thaw 0
  have t1 := X0.out.thaw 1
  have t2 := X0.out.thaw 2
  go_enter Tryd.func44, Tryd.ntmps44
  go_wp2_with fail
  refine (c_l10Int 0 _).mono ?_
  rintro e w1 ⟨rfl, hb⟩
  have B1 : Hid (Below w.heap.size w w1) := B0.out.trans (hb.mono B0.out.size)
  have A1 : Hid (Box w1 w.heap.size 29 #[.int .i64 k, .int .i64 n, .string t]) := A0.out.belowS hb
  have D1 : Hid (Box w1 (w.heap.size + 1) 29 #[.int .i64 k', .int .i64 n', .string t']) := D0.out.belowS hb
  have X1 : Hid (Box w1 (w.heap.size + 2) 29 #[.int .i64 0, .int .i64 0, .string ⟨#[]⟩]) := X0.out.belowS hb
  clear hb q0 q1 q2 p0 p1 p2 x0 x1 x2 t0 t1 t2
  obtain ⟨q0, q1, q2⟩ := box3 A1.out
  obtain ⟨p0, p1, p2⟩ := box3 D1.out
  obtain ⟨x0, x1, x2⟩ := box3 X1.out
  have t0 := X1.out.thaw 0
  have t1 := X1.out.thaw 1
  have t2 := X1.out.thaw 2
  go_wp2
  refine ret32 Tryd.results44 rfl rfl rfl (put3_box X1.out _ _ _) ⟨?_, put3_below B1.out (by omega) _ _ _⟩
  rw [E.out]
  rfl
set_option maxRecDepth 100000 in
set_option maxHeartbeats 2000000 in
theorem c_l10B_1210 (op : Int) (k n : Int) (t : ByteArray) (k' n' : Int) (t' : ByteArray) (w : World) (o12 : (op == 12) = true) (o13 : (op == 13) = false) (k2 : (k == 2) = false) (j2 : (k' == 2) = false) (k1 : (k == 1) = true) (k0 : (k == 0) = false) (n0 : (n == 0) = true) (nn : (n != 0) = false) (j1 : (k' == 1) = true) (j0 : (k' == 0) = false) (m0 : (n' == 0) = false) (mm : (n' != 0) = true) (E : Hid (binR op k n t k' n' t' = ⟨1, 0, 0⟩)) :
    Calls Tryd.prog 44 #[.int .i64 op, .agg #[.int .i64 k, .int .i64 n, .string t], .agg #[.int .i64 k', .int .i64 n', .string t']] w fun e w' => e = .returned (.tuple #[.agg #[.int .i64 (binR op k n t k' n' t').k, .int .i64 (binR op k n t k' n' t').n, .string ⟨#[]⟩], .int .i64 (binR op k n t k' n' t').c]) ∧ Below w.heap.size w w' := by
  obtain ⟨w0, hV0⟩ : ∃ V, ((w.alloc (.cells #[.int .i64 k, .int .i64 n, .string t] 29)).alloc (.cells #[.int .i64 k', .int .i64 n', .string t'] 29)).alloc (.cells #[.int .i64 0, .int .i64 0, .string ⟨#[]⟩] 29) = V := ⟨_, rfl⟩
  have B0 : Hid (Below w.heap.size w w0) := by unfold Hid; rw [← hV0]; exact (((Below.refl _ _).alloc (Nat.le_refl _) _).alloc (by simp) _).alloc (by simp; omega) _
  have A0 : Hid (Box w0 w.heap.size 29 #[.int .i64 k, .int .i64 n, .string t]) := by unfold Hid; rw [← hV0]; exact ((Box.new _ _ _).alloc _).alloc _
  have D0 : Hid (Box w0 (w.heap.size + 1) 29 #[.int .i64 k', .int .i64 n', .string t']) := by unfold Hid; rw [← hV0]; exact (Box.new2 _ _ _ _).alloc _
  have X0 : Hid (Box w0 (w.heap.size + 2) 29 #[.int .i64 0, .int .i64 0, .string ⟨#[]⟩]) := by unfold Hid; rw [← hV0]; have := Box.new2 (w.alloc (.cells #[.int .i64 k, .int .i64 n, .string t] 29)) (.cells #[.int .i64 k', .int .i64 n', .string t'] 29) #[.int .i64 0, .int .i64 0, .string ⟨#[]⟩] 29; simpa using this
  obtain ⟨q0, q1, q2⟩ := box3 A0.out
  obtain ⟨p0, p1, p2⟩ := box3 D0.out
  obtain ⟨x0, x1, x2⟩ := box3 X0.out
  have t0 := X0.out.thaw 0
  have t1 := X0.out.thaw 1
  have t2 := X0.out.thaw 2
  go_enter Tryd.func44, Tryd.ntmps44
  go_wp2_with fail
  refine (c_l10Int 0 _).mono ?_
  rintro e w1 ⟨rfl, hb⟩
  have B1 : Hid (Below w.heap.size w w1) := B0.out.trans (hb.mono B0.out.size)
  have A1 : Hid (Box w1 w.heap.size 29 #[.int .i64 k, .int .i64 n, .string t]) := A0.out.belowS hb
  have D1 : Hid (Box w1 (w.heap.size + 1) 29 #[.int .i64 k', .int .i64 n', .string t']) := D0.out.belowS hb
  have X1 : Hid (Box w1 (w.heap.size + 2) 29 #[.int .i64 0, .int .i64 0, .string ⟨#[]⟩]) := X0.out.belowS hb
  clear hb q0 q1 q2 p0 p1 p2 x0 x1 x2 t0 t1 t2
  obtain ⟨q0, q1, q2⟩ := box3 A1.out
  obtain ⟨p0, p1, p2⟩ := box3 D1.out
  obtain ⟨x0, x1, x2⟩ := box3 X1.out
  have t0 := X1.out.thaw 0
  have t1 := X1.out.thaw 1
  have t2 := X1.out.thaw 2
  go_wp2
  refine ret32 Tryd.results44 rfl rfl rfl (put3_box X1.out _ _ _) ⟨?_, put3_below B1.out (by omega) _ _ _⟩
  rw [E.out]
  rfl
set_option maxRecDepth 100000 in
set_option maxHeartbeats 2000000 in
theorem c_l10B_120N (op : Int) (k n : Int) (t : ByteArray) (k' n' : Int) (t' : ByteArray) (w : World) (o12 : (op == 12) = true) (o13 : (op == 13) = false) (k2 : (k == 2) = false) (j2 : (k' == 2) = false) (k1 : (k == 1) = true) (k0 : (k == 0) = false) (n0 : (n == 0) = false) (nn : (n != 0) = true) (j1 : (k' == 1) = false) (j0 : (k' == 0) = true) (E : Hid (binR op k n t k' n' t' = ⟨0, 0, 0⟩)) :
    Calls Tryd.prog 44 #[.int .i64 op, .agg #[.int .i64 k, .int .i64 n, .string t], .agg #[.int .i64 k', .int .i64 n', .string t']] w fun e w' => e = .returned (.tuple #[.agg #[.int .i64 (binR op k n t k' n' t').k, .int .i64 (binR op k n t k' n' t').n, .string ⟨#[]⟩], .int .i64 (binR op k n t k' n' t').c]) ∧ Below w.heap.size w w' := by
  obtain ⟨w0, hV0⟩ : ∃ V, ((w.alloc (.cells #[.int .i64 k, .int .i64 n, .string t] 29)).alloc (.cells #[.int .i64 k', .int .i64 n', .string t'] 29)).alloc (.cells #[.int .i64 0, .int .i64 0, .string ⟨#[]⟩] 29) = V := ⟨_, rfl⟩
  have B0 : Hid (Below w.heap.size w w0) := by unfold Hid; rw [← hV0]; exact (((Below.refl _ _).alloc (Nat.le_refl _) _).alloc (by simp) _).alloc (by simp; omega) _
  have A0 : Hid (Box w0 w.heap.size 29 #[.int .i64 k, .int .i64 n, .string t]) := by unfold Hid; rw [← hV0]; exact ((Box.new _ _ _).alloc _).alloc _
  have D0 : Hid (Box w0 (w.heap.size + 1) 29 #[.int .i64 k', .int .i64 n', .string t']) := by unfold Hid; rw [← hV0]; exact (Box.new2 _ _ _ _).alloc _
  have X0 : Hid (Box w0 (w.heap.size + 2) 29 #[.int .i64 0, .int .i64 0, .string ⟨#[]⟩]) := by unfold Hid; rw [← hV0]; have := Box.new2 (w.alloc (.cells #[.int .i64 k, .int .i64 n, .string t] 29)) (.cells #[.int .i64 k', .int .i64 n', .string t'] 29) #[.int .i64 0, .int .i64 0, .string ⟨#[]⟩] 29; simpa using this
  obtain ⟨q0, q1, q2⟩ := box3 A0.out
  obtain ⟨p0, p1, p2⟩ := box3 D0.out
  obtain ⟨x0, x1, x2⟩ := box3 X0.out
  have t0 := X0.out.thaw 0
  have t1 := X0.out.thaw 1
  have t2 := X0.out.thaw 2
  go_enter Tryd.func44, Tryd.ntmps44
  go_wp2
  refine ret32 Tryd.results44 rfl rfl rfl (put3_box X0.out _ _ _) ⟨?_, put3_below B0.out (by omega) _ _ _⟩
  rw [E.out]
  rfl
set_option maxRecDepth 100000 in
set_option maxHeartbeats 2000000 in
theorem c_l10B_1201 (op : Int) (k n : Int) (t : ByteArray) (k' n' : Int) (t' : ByteArray) (w : World) (o12 : (op == 12) = true) (o13 : (op == 13) = false) (k2 : (k == 2) = false) (j2 : (k' == 2) = false) (k1 : (k == 1) = true) (k0 : (k == 0) = false) (n0 : (n == 0) = false) (nn : (n != 0) = true) (j1 : (k' == 1) = true) (j0 : (k' == 0) = false) (m0 : (n' == 0) = true) (mm : (n' != 0) = false) (E : Hid (binR op k n t k' n' t' = ⟨1, 0, 0⟩)) :
    Calls Tryd.prog 44 #[.int .i64 op, .agg #[.int .i64 k, .int .i64 n, .string t], .agg #[.int .i64 k', .int .i64 n', .string t']] w fun e w' => e = .returned (.tuple #[.agg #[.int .i64 (binR op k n t k' n' t').k, .int .i64 (binR op k n t k' n' t').n, .string ⟨#[]⟩], .int .i64 (binR op k n t k' n' t').c]) ∧ Below w.heap.size w w' := by
  obtain ⟨w0, hV0⟩ : ∃ V, ((w.alloc (.cells #[.int .i64 k, .int .i64 n, .string t] 29)).alloc (.cells #[.int .i64 k', .int .i64 n', .string t'] 29)).alloc (.cells #[.int .i64 0, .int .i64 0, .string ⟨#[]⟩] 29) = V := ⟨_, rfl⟩
  have B0 : Hid (Below w.heap.size w w0) := by unfold Hid; rw [← hV0]; exact (((Below.refl _ _).alloc (Nat.le_refl _) _).alloc (by simp) _).alloc (by simp; omega) _
  have A0 : Hid (Box w0 w.heap.size 29 #[.int .i64 k, .int .i64 n, .string t]) := by unfold Hid; rw [← hV0]; exact ((Box.new _ _ _).alloc _).alloc _
  have D0 : Hid (Box w0 (w.heap.size + 1) 29 #[.int .i64 k', .int .i64 n', .string t']) := by unfold Hid; rw [← hV0]; exact (Box.new2 _ _ _ _).alloc _
  have X0 : Hid (Box w0 (w.heap.size + 2) 29 #[.int .i64 0, .int .i64 0, .string ⟨#[]⟩]) := by unfold Hid; rw [← hV0]; have := Box.new2 (w.alloc (.cells #[.int .i64 k, .int .i64 n, .string t] 29)) (.cells #[.int .i64 k', .int .i64 n', .string t'] 29) #[.int .i64 0, .int .i64 0, .string ⟨#[]⟩] 29; simpa using this
  obtain ⟨q0, q1, q2⟩ := box3 A0.out
  obtain ⟨p0, p1, p2⟩ := box3 D0.out
  obtain ⟨x0, x1, x2⟩ := box3 X0.out
  have t0 := X0.out.thaw 0
  have t1 := X0.out.thaw 1
  have t2 := X0.out.thaw 2
  go_enter Tryd.func44, Tryd.ntmps44
  go_wp2_with fail
  refine (c_l10Int 0 _).mono ?_
  rintro e w1 ⟨rfl, hb⟩
  have B1 : Hid (Below w.heap.size w w1) := B0.out.trans (hb.mono B0.out.size)
  have A1 : Hid (Box w1 w.heap.size 29 #[.int .i64 k, .int .i64 n, .string t]) := A0.out.belowS hb
  have D1 : Hid (Box w1 (w.heap.size + 1) 29 #[.int .i64 k', .int .i64 n', .string t']) := D0.out.belowS hb
  have X1 : Hid (Box w1 (w.heap.size + 2) 29 #[.int .i64 0, .int .i64 0, .string ⟨#[]⟩]) := X0.out.belowS hb
  clear hb q0 q1 q2 p0 p1 p2 x0 x1 x2 t0 t1 t2
  obtain ⟨q0, q1, q2⟩ := box3 A1.out
  obtain ⟨p0, p1, p2⟩ := box3 D1.out
  obtain ⟨x0, x1, x2⟩ := box3 X1.out
  have t0 := X1.out.thaw 0
  have t1 := X1.out.thaw 1
  have t2 := X1.out.thaw 2
  go_wp2
  refine ret32 Tryd.results44 rfl rfl rfl (put3_box X1.out _ _ _) ⟨?_, put3_below B1.out (by omega) _ _ _⟩
  rw [E.out]
  rfl
set_option maxRecDepth 100000 in
set_option maxHeartbeats 2000000 in
theorem c_l10B_1200 (op : Int) (k n : Int) (t : ByteArray) (k' n' : Int) (t' : ByteArray) (w : World) (o12 : (op == 12) = true) (o13 : (op == 13) = false) (k2 : (k == 2) = false) (j2 : (k' == 2) = false) (k1 : (k == 1) = true) (k0 : (k == 0) = false) (n0 : (n == 0) = false) (nn : (n != 0) = true) (j1 : (k' == 1) = true) (j0 : (k' == 0) = false) (m0 : (n' == 0) = false) (mm : (n' != 0) = true) (E : Hid (binR op k n t k' n' t' = ⟨1, 1, 0⟩)) :
    Calls Tryd.prog 44 #[.int .i64 op, .agg #[.int .i64 k, .int .i64 n, .string t], .agg #[.int .i64 k', .int .i64 n', .string t']] w fun e w' => e = .returned (.tuple #[.agg #[.int .i64 (binR op k n t k' n' t').k, .int .i64 (binR op k n t k' n' t').n, .string ⟨#[]⟩], .int .i64 (binR op k n t k' n' t').c]) ∧ Below w.heap.size w w' := by
  obtain ⟨w0, hV0⟩ : ∃ V, ((w.alloc (.cells #[.int .i64 k, .int .i64 n, .string t] 29)).alloc (.cells #[.int .i64 k', .int .i64 n', .string t'] 29)).alloc (.cells #[.int .i64 0, .int .i64 0, .string ⟨#[]⟩] 29) = V := ⟨_, rfl⟩
  have B0 : Hid (Below w.heap.size w w0) := by unfold Hid; rw [← hV0]; exact (((Below.refl _ _).alloc (Nat.le_refl _) _).alloc (by simp) _).alloc (by simp; omega) _
  have A0 : Hid (Box w0 w.heap.size 29 #[.int .i64 k, .int .i64 n, .string t]) := by unfold Hid; rw [← hV0]; exact ((Box.new _ _ _).alloc _).alloc _
  have D0 : Hid (Box w0 (w.heap.size + 1) 29 #[.int .i64 k', .int .i64 n', .string t']) := by unfold Hid; rw [← hV0]; exact (Box.new2 _ _ _ _).alloc _
  have X0 : Hid (Box w0 (w.heap.size + 2) 29 #[.int .i64 0, .int .i64 0, .string ⟨#[]⟩]) := by unfold Hid; rw [← hV0]; have := Box.new2 (w.alloc (.cells #[.int .i64 k, .int .i64 n, .string t] 29)) (.cells #[.int .i64 k', .int .i64 n', .string t'] 29) #[.int .i64 0, .int .i64 0, .string ⟨#[]⟩] 29; simpa using this
  obtain ⟨q0, q1, q2⟩ := box3 A0.out
  obtain ⟨p0, p1, p2⟩ := box3 D0.out
  obtain ⟨x0, x1, x2⟩ := box3 X0.out
  have t0 := X0.out.thaw 0
  have t1 := X0.out.thaw 1
  have t2 := X0.out.thaw 2
  go_enter Tryd.func44, Tryd.ntmps44
  go_wp2_with fail
  refine (c_bitT true _).mono ?_
  rintro e w' ⟨rfl, rfl⟩
  go_wp2_with fail
  refine (c_l10Int (trI true) _).mono ?_
  rintro e w1 ⟨rfl, hb⟩
  have B1 : Hid (Below w.heap.size w w1) := B0.out.trans (hb.mono B0.out.size)
  have A1 : Hid (Box w1 w.heap.size 29 #[.int .i64 k, .int .i64 n, .string t]) := A0.out.belowS hb
  have D1 : Hid (Box w1 (w.heap.size + 1) 29 #[.int .i64 k', .int .i64 n', .string t']) := D0.out.belowS hb
  have X1 : Hid (Box w1 (w.heap.size + 2) 29 #[.int .i64 0, .int .i64 0, .string ⟨#[]⟩]) := X0.out.belowS hb
  clear hb q0 q1 q2 p0 p1 p2 x0 x1 x2 t0 t1 t2
  obtain ⟨q0, q1, q2⟩ := box3 A1.out
  obtain ⟨p0, p1, p2⟩ := box3 D1.out
  obtain ⟨x0, x1, x2⟩ := box3 X1.out
  have t0 := X1.out.thaw 0
  have t1 := X1.out.thaw 1
  have t2 := X1.out.thaw 2
  go_wp2
  refine ret32 Tryd.results44 rfl rfl rfl (put3_box X1.out _ _ _) ⟨?_, put3_below B1.out (by omega) _ _ _⟩
  rw [E.out]
  rfl
set_option maxRecDepth 100000 in
set_option maxHeartbeats 2000000 in
theorem c_l10B_13T1 (op : Int) (k n : Int) (t : ByteArray) (k' n' : Int) (t' : ByteArray) (w : World) (o12 : (op == 12) = false) (o13 : (op == 13) = true) (k2 : (k == 2) = true) (E : Hid (binR op k n t k' n' t' = ⟨0, 0, 10⟩)) :
    Calls Tryd.prog 44 #[.int .i64 op, .agg #[.int .i64 k, .int .i64 n, .string t], .agg #[.int .i64 k', .int .i64 n', .string t']] w fun e w' => e = .returned (.tuple #[.agg #[.int .i64 (binR op k n t k' n' t').k, .int .i64 (binR op k n t k' n' t').n, .string ⟨#[]⟩], .int .i64 (binR op k n t k' n' t').c]) ∧ Below w.heap.size w w' := by
  obtain ⟨w0, hV0⟩ : ∃ V, ((w.alloc (.cells #[.int .i64 k, .int .i64 n, .string t] 29)).alloc (.cells #[.int .i64 k', .int .i64 n', .string t'] 29)).alloc (.cells #[.int .i64 0, .int .i64 0, .string ⟨#[]⟩] 29) = V := ⟨_, rfl⟩
  have B0 : Hid (Below w.heap.size w w0) := by unfold Hid; rw [← hV0]; exact (((Below.refl _ _).alloc (Nat.le_refl _) _).alloc (by simp) _).alloc (by simp; omega) _
  have A0 : Hid (Box w0 w.heap.size 29 #[.int .i64 k, .int .i64 n, .string t]) := by unfold Hid; rw [← hV0]; exact ((Box.new _ _ _).alloc _).alloc _
  have D0 : Hid (Box w0 (w.heap.size + 1) 29 #[.int .i64 k', .int .i64 n', .string t']) := by unfold Hid; rw [← hV0]; exact (Box.new2 _ _ _ _).alloc _
  have X0 : Hid (Box w0 (w.heap.size + 2) 29 #[.int .i64 0, .int .i64 0, .string ⟨#[]⟩]) := by unfold Hid; rw [← hV0]; have := Box.new2 (w.alloc (.cells #[.int .i64 k, .int .i64 n, .string t] 29)) (.cells #[.int .i64 k', .int .i64 n', .string t'] 29) #[.int .i64 0, .int .i64 0, .string ⟨#[]⟩] 29; simpa using this
  obtain ⟨q0, q1, q2⟩ := box3 A0.out
  obtain ⟨p0, p1, p2⟩ := box3 D0.out
  obtain ⟨x0, x1, x2⟩ := box3 X0.out
  have t0 := X0.out.thaw 0
  have t1 := X0.out.thaw 1
  have t2 := X0.out.thaw 2
  go_enter Tryd.func44, Tryd.ntmps44
  go_wp2
  refine ret32 Tryd.results44 rfl rfl rfl (put3_box X0.out _ _ _) ⟨?_, put3_below B0.out (by omega) _ _ _⟩
  rw [E.out]
  rfl
set_option maxRecDepth 100000 in
set_option maxHeartbeats 2000000 in
theorem c_l10B_13T2 (op : Int) (k n : Int) (t : ByteArray) (k' n' : Int) (t' : ByteArray) (w : World) (o12 : (op == 12) = false) (o13 : (op == 13) = true) (k2 : (k == 2) = false) (j2 : (k' == 2) = true) (E : Hid (binR op k n t k' n' t' = ⟨0, 0, 10⟩)) :
    Calls Tryd.prog 44 #[.int .i64 op, .agg #[.int .i64 k, .int .i64 n, .string t], .agg #[.int .i64 k', .int .i64 n', .string t']] w fun e w' => e = .returned (.tuple #[.agg #[.int .i64 (binR op k n t k' n' t').k, .int .i64 (binR op k n t k' n' t').n, .string ⟨#[]⟩], .int .i64 (binR op k n t k' n' t').c]) ∧ Below w.heap.size w w' := by
  obtain ⟨w0, hV0⟩ : ∃ V, ((w.alloc (.cells #[.int .i64 k, .int .i64 n, .string t] 29)).alloc (.cells #[.int .i64 k', .int .i64 n', .string t'] 29)).alloc (.cells #[.int .i64 0, .int .i64 0, .string ⟨#[]⟩] 29) = V := ⟨_, rfl⟩
  have B0 : Hid (Below w.heap.size w w0) := by unfold Hid; rw [← hV0]; exact (((Below.refl _ _).alloc (Nat.le_refl _) _).alloc (by simp) _).alloc (by simp; omega) _
  have A0 : Hid (Box w0 w.heap.size 29 #[.int .i64 k, .int .i64 n, .string t]) := by unfold Hid; rw [← hV0]; exact ((Box.new _ _ _).alloc _).alloc _
  have D0 : Hid (Box w0 (w.heap.size + 1) 29 #[.int .i64 k', .int .i64 n', .string t']) := by unfold Hid; rw [← hV0]; exact (Box.new2 _ _ _ _).alloc _
  have X0 : Hid (Box w0 (w.heap.size + 2) 29 #[.int .i64 0, .int .i64 0, .string ⟨#[]⟩]) := by unfold Hid; rw [← hV0]; have := Box.new2 (w.alloc (.cells #[.int .i64 k, .int .i64 n, .string t] 29)) (.cells #[.int .i64 k', .int .i64 n', .string t'] 29) #[.int .i64 0, .int .i64 0, .string ⟨#[]⟩] 29; simpa using this
  obtain ⟨q0, q1, q2⟩ := box3 A0.out
  obtain ⟨p0, p1, p2⟩ := box3 D0.out
  obtain ⟨x0, x1, x2⟩ := box3 X0.out
  have t0 := X0.out.thaw 0
  have t1 := X0.out.thaw 1
  have t2 := X0.out.thaw 2
  go_enter Tryd.func44, Tryd.ntmps44
  go_wp2
  refine ret32 Tryd.results44 rfl rfl rfl (put3_box X0.out _ _ _) ⟨?_, put3_below B0.out (by omega) _ _ _⟩
  rw [E.out]
  rfl
set_option maxRecDepth 100000 in
set_option maxHeartbeats 2000000 in
theorem c_l10B_13NN (op : Int) (k n : Int) (t : ByteArray) (k' n' : Int) (t' : ByteArray) (w : World) (o12 : (op == 12) = false) (o13 : (op == 13) = true) (k2 : (k == 2) = false) (j2 : (k' == 2) = false) (k1 : (k == 1) = false) (k0 : (k == 0) = true) (j1 : (k' == 1) = false) (j0 : (k' == 0) = true) (E : Hid (binR op k n t k' n' t' = ⟨0, 0, 0⟩)) :
    Calls Tryd.prog 44 #[.int .i64 op, .agg #[.int .i64 k, .int .i64 n, .string t], .agg #[.int .i64 k', .int .i64 n', .string t']] w fun e w' => e = .returned (.tuple #[.agg #[.int .i64 (binR op k n t k' n' t').k, .int .i64 (binR op k n t k' n' t').n, .string ⟨#[]⟩], .int .i64 (binR op k n t k' n' t').c]) ∧ Below w.heap.size w w' := by
  obtain ⟨w0, hV0⟩ : ∃ V, ((w.alloc (.cells #[.int .i64 k, .int .i64 n, .string t] 29)).alloc (.cells #[.int .i64 k', .int .i64 n', .string t'] 29)).alloc (.cells #[.int .i64 0, .int .i64 0, .string ⟨#[]⟩] 29) = V := ⟨_, rfl⟩
  have B0 : Hid (Below w.heap.size w w0) := by unfold Hid; rw [← hV0]; exact (((Below.refl _ _).alloc (Nat.le_refl _) _).alloc (by simp) _).alloc (by simp; omega) _
  have A0 : Hid (Box w0 w.heap.size 29 #[.int .i64 k, .int .i64 n, .string t]) := by unfold Hid; rw [← hV0]; exact ((Box.new _ _ _).alloc _).alloc _
  have D0 : Hid (Box w0 (w.heap.size + 1) 29 #[.int .i64 k', .int .i64 n', .string t']) := by unfold Hid; rw [← hV0]; exact (Box.new2 _ _ _ _).alloc _
  have X0 : Hid (Box w0 (w.heap.size + 2) 29 #[.int .i64 0, .int .i64 0, .string ⟨#[]⟩]) := by unfold Hid; rw [← hV0]; have := Box.new2 (w.alloc (.cells #[.int .i64 k, .int .i64 n, .string t] 29)) (.cells #[.int .i64 k', .int .i64 n', .string t'] 29) #[.int .i64 0, .int .i64 0, .string ⟨#[]⟩] 29; simpa using this
  obtain ⟨q0, q1, q2⟩ := box3 A0.out
  obtain ⟨p0, p1, p2⟩ := box3 D0.out
  obtain ⟨x0, x1, x2⟩ := box3 X0.out
  have t0 := X0.out.thaw 0
  have t1 := X0.out.thaw 1
  have t2 := X0.out.thaw 2
  go_enter Tryd.func44, Tryd.ntmps44
  go_wp2
  refine ret32 Tryd.results44 rfl rfl rfl (put3_box X0.out _ _ _) ⟨?_, put3_below B0.out (by omega) _ _ _⟩
  rw [E.out]
  rfl
set_option maxRecDepth 100000 in
set_option maxHeartbeats 2000000 in
theorem c_l10B_13N1 (op : Int) (k n : Int) (t : ByteArray) (k' n' : Int) (t' : ByteArray) (w : World) (o12 : (op == 12) = false) (o13 : (op == 13) = true) (k2 : (k == 2) = false) (j2 : (k' == 2) = false) (k1 : (k == 1) = false) (k0 : (k == 0) = true) (j1 : (k' == 1) = true) (j0 : (k' == 0) = false) (m0 : (n' == 0) = true) (mm : (n' != 0) = false) (E : Hid (binR op k n t k' n' t' = ⟨0, 0, 0⟩)) :
    Calls Tryd.prog 44 #[.int .i64 op, .agg #[.int .i64 k, .int .i64 n, .string t], .agg #[.int .i64 k', .int .i64 n', .string t']] w fun e w' => e = .returned (.tuple #[.agg #[.int .i64 (binR op k n t k' n' t').k, .int .i64 (binR op k n t k' n' t').n, .string ⟨#[]⟩], .int .i64 (binR op k n t k' n' t').c]) ∧ Below w.heap.size w w' := by
  obtain ⟨w0, hV0⟩ : ∃ V, ((w.alloc (.cells #[.int .i64 k, .int .i64 n, .string t] 29)).alloc (.cells #[.int .i64 k', .int .i64 n', .string t'] 29)).alloc (.cells #[.int .i64 0, .int .i64 0, .string ⟨#[]⟩] 29) = V := ⟨_, rfl⟩
  have B0 : Hid (Below w.heap.size w w0) := by unfold Hid; rw [← hV0]; exact (((Below.refl _ _).alloc (Nat.le_refl _) _).alloc (by simp) _).alloc (by simp; omega) _
  have A0 : Hid (Box w0 w.heap.size 29 #[.int .i64 k, .int .i64 n, .string t]) := by unfold Hid; rw [← hV0]; exact ((Box.new _ _ _).alloc _).alloc _
  have D0 : Hid (Box w0 (w.heap.size + 1) 29 #[.int .i64 k', .int .i64 n', .string t']) := by unfold Hid; rw [← hV0]; exact (Box.new2 _ _ _ _).alloc _
  have X0 : Hid (Box w0 (w.heap.size + 2) 29 #[.int .i64 0, .int .i64 0, .string ⟨#[]⟩]) := by unfold Hid; rw [← hV0]; have := Box.new2 (w.alloc (.cells #[.int .i64 k, .int .i64 n, .string t] 29)) (.cells #[.int .i64 k', .int .i64 n', .string t'] 29) #[.int .i64 0, .int .i64 0, .string ⟨#[]⟩] 29; simpa using this
  obtain ⟨q0, q1, q2⟩ := box3 A0.out
  obtain ⟨p0, p1, p2⟩ := box3 D0.out
  obtain ⟨x0, x1, x2⟩ := box3 X0.out
  have t0 := X0.out.thaw 0
  have t1 := X0.out.thaw 1
  have t2 := X0.out.thaw 2
  go_enter Tryd.func44, Tryd.ntmps44
  go_wp2
  refine ret32 Tryd.results44 rfl rfl rfl (put3_box X0.out _ _ _) ⟨?_, put3_below B0.out (by omega) _ _ _⟩
  rw [E.out]
  rfl
set_option maxRecDepth 100000 in
set_option maxHeartbeats 2000000 in
theorem c_l10B_13N0 (op : Int) (k n : Int) (t : ByteArray) (k' n' : Int) (t' : ByteArray) (w : World) (o12 : (op == 12) = false) (o13 : (op == 13) = true) (k2 : (k == 2) = false) (j2 : (k' == 2) = false) (k1 : (k == 1) = false) (k0 : (k == 0) = true) (j1 : (k' == 1) = true) (j0 : (k' == 0) = false) (m0 : (n' == 0) = false) (mm : (n' != 0) = true) (E : Hid (binR op k n t k' n' t' = ⟨1, 1, 0⟩)) :
    Calls Tryd.prog 44 #[.int .i64 op, .agg #[.int .i64 k, .int .i64 n, .string t], .agg #[.int .i64 k', .int .i64 n', .string t']] w fun e w' => e = .returned (.tuple #[.agg #[.int .i64 (binR op k n t k' n' t').k, .int .i64 (binR op k n t k' n' t').n, .string ⟨#[]⟩], .int .i64 (binR op k n t k' n' t').c]) ∧ Below w.heap.size w w' := by
  obtain ⟨w0, hV0⟩ : ∃ V, ((w.alloc (.cells #[.int .i64 k, .int .i64 n, .string t] 29)).alloc (.cells #[.int .i64 k', .int .i64 n', .string t'] 29)).alloc (.cells #[.int .i64 0, .int .i64 0, .string ⟨#[]⟩] 29) = V := ⟨_, rfl⟩
  have B0 : Hid (Below w.heap.size w w0) := by unfold Hid; rw [← hV0]; exact (((Below.refl _ _).alloc (Nat.le_refl _) _).alloc (by simp) _).alloc (by simp; omega) _
  have A0 : Hid (Box w0 w.heap.size 29 #[.int .i64 k, .int .i64 n, .string t]) := by unfold Hid; rw [← hV0]; exact ((Box.new _ _ _).alloc _).alloc _
  have D0 : Hid (Box w0 (w.heap.size + 1) 29 #[.int .i64 k', .int .i64 n', .string t']) := by unfold Hid; rw [← hV0]; exact (Box.new2 _ _ _ _).alloc _
  have X0 : Hid (Box w0 (w.heap.size + 2) 29 #[.int .i64 0, .int .i64 0, .string ⟨#[]⟩]) := by unfold Hid; rw [← hV0]; have := Box.new2 (w.alloc (.cells #[.int .i64 k, .int .i64 n, .string t] 29)) (.cells #[.int .i64 k', .int .i64 n', .string t'] 29) #[.int .i64 0, .int .i64 0, .string ⟨#[]⟩] 29; simpa using this
  obtain ⟨q0, q1, q2⟩ := box3 A0.out
  obtain ⟨p0, p1, p2⟩ := box3 D0.out
  obtain ⟨x0, x1, x2⟩ := box3 X0.out
  have t0 := X0.out.thaw 0
  have t1 := X0.out.thaw 1
  have t2 := X0.out.thaw 2
  go_enter Tryd.func44, Tryd.ntmps44
  go_wp2_with fail
  refine (c_l10Int 1 _).mono ?_
  rintro e w1 ⟨rfl, hb⟩
  have B1 : Hid (Below w.heap.size w w1) := B0.out.trans (hb.mono B0.out.size)
  have A1 : Hid (Box w1 w.heap.size 29 #[.int .i64 k, .int .i64 n, .string t]) := A0.out.belowS hb
  have D1 : Hid (Box w1 (w.heap.size + 1) 29 #[.int .i64 k', .int .i64 n', .string t']) := D0.out.belowS hb
  have X1 : Hid (Box w1 (w.heap.size + 2) 29 #[.int .i64 0, .int .i64 0, .string ⟨#[]⟩]) := X0.out.belowS hb
  clear hb q0 q1 q2 p0 p1 p2 x0 x1 x2 t0 t1 t2
  obtain ⟨q0, q1, q2⟩ := box3 A1.out
  obtain ⟨p0, p1, p2⟩ := box3 D1.out
  obtain ⟨x0, x1, x2⟩ := box3 X1.out
  have t0 := X1.out.thaw 0
  have t1 := X1.out.thaw 1
  have t2 := X1.out.thaw 2
  go_wp2
  refine ret32 Tryd.results44 rfl rfl rfl (put3_box X1.out _ _ _) ⟨?_, put3_below B1.out (by omega) _ _ _⟩
  rw [E.out]
  rfl
set_option maxRecDepth 100000 in
set_option maxHeartbeats 2000000 in
theorem c_l10B_131N (op : Int) (k n : Int) (t : ByteArray) (k' n' : Int) (t' : ByteArray) (w : World) (o12 : (op == 12) = false) (o13 : (op == 13) = true) (k2 : (k == 2) = false) (j2 : (k' == 2) = false) (k1 : (k == 1) = true) (k0 : (k == 0) = false) (n0 : (n == 0) = true) (nn : (n != 0) = false) (j1 : (k' == 1) = false) (j0 : (k' == 0) = true) (E : Hid (binR op k n t k' n' t' = ⟨0, 0, 0⟩)) :
    Calls Tryd.prog 44 #[.int .i64 op, .agg #[.int .i64 k, .int .i64 n, .string t], .agg #[.int .i64 k', .int .i64 n', .string t']] w fun e w' => e = .returned (.tuple #[.agg #[.int .i64 (binR op k n t k' n' t').k, .int .i64 (binR op k n t k' n' t').n, .string ⟨#[]⟩], .int .i64 (binR op k n t k' n' t').c]) ∧ Below w.heap.size w w' := by
  obtain ⟨w0, hV0⟩ : ∃ V, ((w.alloc (.cells #[.int .i64 k, .int .i64 n, .string t] 29)).alloc (.cells #[.int .i64 k', .int .i64 n', .string t'] 29)).alloc (.cells #[.int .i64 0, .int .i64 0, .string ⟨#[]⟩] 29) = V := ⟨_, rfl⟩
  have B0 : Hid (Below w.heap.size w w0) := by unfold Hid; rw [← hV0]; exact (((Below.refl _ _).alloc (Nat.le_refl _) _).alloc (by simp) _).alloc (by simp; omega) _
  have A0 : Hid (Box w0 w.heap.size 29 #[.int .i64 k, .int .i64 n, .string t]) := by unfold Hid; rw [← hV0]; exact ((Box.new _ _ _).alloc _).alloc _
  have D0 : Hid (Box w0 (w.heap.size + 1) 29 #[.int .i64 k', .int .i64 n', .string t']) := by unfold Hid; rw [← hV0]; exact (Box.new2 _ _ _ _).alloc _
  have X0 : Hid (Box w0 (w.heap.size + 2) 29 #[.int .i64 0, .int .i64 0, .string ⟨#[]⟩]) := by unfold Hid; rw [← hV0]; have := Box.new2 (w.alloc (.cells #[.int .i64 k, .int .i64 n, .string t] 29)) (.cells #[.int .i64 k', .int .i64 n', .string t'] 29) #[.int .i64 0, .int .i64 0, .string ⟨#[]⟩] 29; simpa using this
  obtain ⟨q0, q1, q2⟩ := box3 A0.out
  obtain ⟨p0, p1, p2⟩ := box3 D0.out
  obtain ⟨x0, x1, x2⟩ := box3 X0.out
  have t0 := X0.out.thaw 0
  have t1 := X0.out.thaw 1
  have t2 := X0.out.thaw 2
  go_enter Tryd.func44, Tryd.ntmps44
  go_wp2
  refine ret32 Tryd.results44 rfl rfl rfl (put3_box X0.out _ _ _) ⟨?_, put3_below B0.out (by omega) _ _ _⟩
  rw [E.out]
  rfl
set_option maxRecDepth 100000 in
set_option maxHeartbeats 2000000 in
theorem c_l10B_1311 (op : Int) (k n : Int) (t : ByteArray) (k' n' : Int) (t' : ByteArray) (w : World) (o12 : (op == 12) = false) (o13 : (op == 13) = true) (k2 : (k == 2) = false) (j2 : (k' == 2) = false) (k1 : (k == 1) = true) (k0 : (k == 0) = false) (n0 : (n == 0) = true) (nn : (n != 0) = false) (j1 : (k' == 1) = true) (j0 : (k' == 0) = false) (m0 : (n' == 0) = true) (mm : (n' != 0) = false) (E : Hid (binR op k n t k' n' t' = ⟨1, 0, 0⟩)) :
    Calls Tryd.prog 44 #[.int .i64 op, .agg #[.int .i64 k, .int .i64 n, .string t], .agg #[.int .i64 k', .int .i64 n', .string t']] w fun e w' => e = .returned (.tuple #[.agg #[.int .i64 (binR op k n t k' n' t').k, .int .i64 (binR op k n t k' n' t').n, .string ⟨#[]⟩], .int .i64 (binR op k n t k' n' t').c]) ∧ Below w.heap.size w w' := by
  obtain ⟨w0, hV0⟩ : ∃ V, ((w.alloc (.cells #[.int .i64 k, .int .i64 n, .string t] 29)).alloc (.cells #[.int .i64 k', .int .i64 n', .string t'] 29)).alloc (.cells #[.int .i64 0, .int .i64 0, .string ⟨#[]⟩] 29) = V := ⟨_, rfl⟩
  have B0 : Hid (Below w.heap.size w w0) := by unfold Hid; rw [← hV0]; exact (((Below.refl _ _).alloc (Nat.le_refl _) _).alloc (by simp) _).alloc (by simp; omega) _
  have A0 : Hid (Box w0 w.heap.size 29 #[.int .i64 k, .int .i64 n, .string t]) := by unfold Hid; rw [← hV0]; exact ((Box.new _ _ _).alloc _).alloc _
  have D0 : Hid (Box w0 (w.heap.size + 1) 29 #[.int .i64 k', .int .i64 n', .string t']) := by unfold Hid; rw [← hV0]; exact (Box.new2 _ _ _ _).alloc _
  have X0 : Hid (Box w0 (w.heap.size + 2) 29 #[.int .i64 0, .int .i64 0, .string ⟨#[]⟩]) := by unfold Hid; rw [← hV0]; have := Box.new2 (w.alloc (.cells #[.int .i64 k, .int .i64 n, .string t] 29)) (.cells #[.int .i64 k', .int .i64 n', .string t'] 29) #[.int .i64 0, .int .i64 0, .string ⟨#[]⟩] 29; simpa using this
  obtain ⟨q0, q1, q2⟩ := box3 A0.out
  obtain ⟨p0, p1, p2⟩ := box3 D0.out
  obtain ⟨x0, x1, x2⟩ := box3 X0.out
  have t0 := X0.out.thaw 0
  have t1 := X0.out.thaw 1
  have t2 := X0.out.thaw 2
  go_enter Tryd.func44, Tryd.ntmps44
  go_wp2_with fail
  refine (c_bitT false _).mono ?_
  rintro e w' ⟨rfl, rfl⟩
  go_wp2_with fail
  refine (c_l10Int (trI false) _).mono ?_
  rintro e w1 ⟨rfl, hb⟩
  have B1 : Hid (Below w.heap.size w w1) := B0.out.trans (hb.mono B0.out.size)
  have A1 : Hid (Box w1 w.heap.size 29 #[.int .i64 k, .int .i64 n, .string t]) := A0.out.belowS hb
  have D1 : Hid (Box w1 (w.heap.size + 1) 29 #[.int .i64 k', .int .i64 n', .string t']) := D0.out.belowS hb
  have X1 : Hid (Box w1 (w.heap.size + 2) 29 #[.int .i64 0, .int .i64 0, .string ⟨#[]⟩]) := X0.out.belowS hb
  clear hb q0 q1 q2 p0 p1 p2 x0 x1 x2 t0 t1 t2
  obtain ⟨q0, q1, q2⟩ := box3 A1.out
  obtain ⟨p0, p1, p2⟩ := box3 D1.out
  obtain ⟨x0, x1, x2⟩ := box3 X1.out
  have t0 := X1.out.thaw 0
  have t1 := X1.out.thaw 1
  have t2 := X1.out.thaw 2
  go_wp2
  refine ret32 Tryd.results44 rfl rfl rfl (put3_box X1.out _ _ _) ⟨?_, put3_below B1.out (by omega) _ _ _⟩
  rw [E.out]
  rfl
set_option maxRecDepth 100000 in
set_option maxHeartbeats 2000000 in
theorem c_l10B_1310 (op : Int) (k n : Int) (t : ByteArray) (k' n' : Int) (t' : ByteArray) (w : World) (o12 : (op == 12) = false) (o13 : (op == 13) = true) (k2 : (k == 2) = false) (j2 : (k' == 2) = false) (k1 : (k == 1) = true) (k0 : (k == 0) = false) (n0 : (n == 0) = true) (nn : (n != 0) = false) (j1 : (k' == 1) = true) (j0 : (k' == 0) = false) (m0 : (n' == 0) = false) (mm : (n' != 0) = true) (E : Hid (binR op k n t k' n' t' = ⟨1, 1, 0⟩)) :
    Calls Tryd.prog 44 #[.int .i64 op, .agg #[.int .i64 k, .int .i64 n, .string t], .agg #[.int .i64 k', .int .i64 n', .string t']] w fun e w' => e = .returned (.tuple #[.agg #[.int .i64 (binR op k n t k' n' t').k, .int .i64 (binR op k n t k' n' t').n, .string ⟨#[]⟩], .int .i64 (binR op k n t k' n' t').c]) ∧ Below w.heap.size w w' := by
  obtain ⟨w0, hV0⟩ : ∃ V, ((w.alloc (.cells #[.int .i64 k, .int .i64 n, .string t] 29)).alloc (.cells #[.int .i64 k', .int .i64 n', .string t'] 29)).alloc (.cells #[.int .i64 0, .int .i64 0, .string ⟨#[]⟩] 29) = V := ⟨_, rfl⟩
  have B0 : Hid (Below w.heap.size w w0) := by unfold Hid; rw [← hV0]; exact (((Below.refl _ _).alloc (Nat.le_refl _) _).alloc (by simp) _).alloc (by simp; omega) _
  have A0 : Hid (Box w0 w.heap.size 29 #[.int .i64 k, .int .i64 n, .string t]) := by unfold Hid; rw [← hV0]; exact ((Box.new _ _ _).alloc _).alloc _
  have D0 : Hid (Box w0 (w.heap.size + 1) 29 #[.int .i64 k', .int .i64 n', .string t']) := by unfold Hid; rw [← hV0]; exact (Box.new2 _ _ _ _).alloc _
  have X0 : Hid (Box w0 (w.heap.size + 2) 29 #[.int .i64 0, .int .i64 0, .string ⟨#[]⟩]) := by unfold Hid; rw [← hV0]; have := Box.new2 (w.alloc (.cells #[.int .i64 k, .int .i64 n, .string t] 29)) (.cells #[.int .i64 k', .int .i64 n', .string t'] 29) #[.int .i64 0, .int .i64 0, .string ⟨#[]⟩] 29; simpa using this
  obtain ⟨q0, q1, q2⟩ := box3 A0.out
  obtain ⟨p0, p1, p2⟩ := box3 D0.out
  obtain ⟨x0, x1, x2⟩ := box3 X0.out
  have t0 := X0.out.thaw 0
  have t1 := X0.out.thaw 1
  have t2 := X0.out.thaw 2
  go_enter Tryd.func44, Tryd.ntmps44
  go_wp2_with fail
  refine (c_l10Int 1 _).mono ?_
  rintro e w1 ⟨rfl, hb⟩
  have B1 : Hid (Below w.heap.size w w1) := B0.out.trans (hb.mono B0.out.size)
  have A1 : Hid (Box w1 w.heap.size 29 #[.int .i64 k, .int .i64 n, .string t]) := A0.out.belowS hb
  have D1 : Hid (Box w1 (w.heap.size + 1) 29 #[.int .i64 k', .int .i64 n', .string t']) := D0.out.belowS hb
  have X1 : Hid (Box w1 (w.heap.size + 2) 29 #[.int .i64 0, .int .i64 0, .string ⟨#[]⟩]) := X0.out.belowS hb
  clear hb q0 q1 q2 p0 p1 p2 x0 x1 x2 t0 t1 t2
  obtain ⟨q0, q1, q2⟩ := box3 A1.out
  obtain ⟨p0, p1, p2⟩ := box3 D1.out
  obtain ⟨x0, x1, x2⟩ := box3 X1.out
  have t0 := X1.out.thaw 0
  have t1 := X1.out.thaw 1
  have t2 := X1.out.thaw 2
  go_wp2
  refine ret32 Tryd.results44 rfl rfl rfl (put3_box X1.out _ _ _) ⟨?_, put3_below B1.out (by omega) _ _ _⟩
  rw [E.out]
  rfl
set_option maxRecDepth 100000 in
set_option maxHeartbeats 2000000 in
theorem c_l10B_130N (op : Int) (k n : Int) (t : ByteArray) (k' n' : Int) (t' : ByteArray) (w : World) (o12 : (op == 12) = false) (o13 : (op == 13) = true) (k2 : (k == 2) = false) (j2 : (k' == 2) = false) (k1 : (k == 1) = true) (k0 : (k == 0) = false) (n0 : (n == 0) = false) (nn : (n != 0) = true) (j1 : (k' == 1) = false) (j0 : (k' == 0) = true) (E : Hid (binR op k n t k' n' t' = ⟨1, 1, 0⟩)) :
    Calls Tryd.prog 44 #[.int .i64 op, .agg #[.int .i64 k, .int .i64 n, .string t], .agg #[.int .i64 k', .int .i64 n', .string t']] w fun e w' => e = .returned (.tuple #[.agg #[.int .i64 (binR op k n t k' n' t').k, .int .i64 (binR op k n t k' n' t').n, .string ⟨#[]⟩], .int .i64 (binR op k n t k' n' t').c]) ∧ Below w.heap.size w w' := by
  obtain ⟨w0, hV0⟩ : ∃ V, ((w.alloc (.cells #[.int .i64 k, .int .i64 n, .string t] 29)).alloc (.cells #[.int .i64 k', .int .i64 n', .string t'] 29)).alloc (.cells #[.int .i64 0, .int .i64 0, .string ⟨#[]⟩] 29) = V := ⟨_, rfl⟩
  have B0 : Hid (Below w.heap.size w w0) := by unfold Hid; rw [← hV0]; exact (((Below.refl _ _).alloc (Nat.le_refl _) _).alloc (by simp) _).alloc (by simp; omega) _
  have A0 : Hid (Box w0 w.heap.size 29 #[.int .i64 k, .int .i64 n, .string t]) := by unfold Hid; rw [← hV0]; exact ((Box.new _ _ _).alloc _).alloc _
  have D0 : Hid (Box w0 (w.heap.size + 1) 29 #[.int .i64 k', .int .i64 n', .string t']) := by unfold Hid; rw [← hV0]; exact (Box.new2 _ _ _ _).alloc _
  have X0 : Hid (Box w0 (w.heap.size + 2) 29 #[.int .i64 0, .int .i64 0, .string ⟨#[]⟩]) := by unfold Hid; rw [← hV0]; have := Box.new2 (w.alloc (.cells #[.int .i64 k, .int .i64 n, .string t] 29)) (.cells #[.int .i64 k', .int .i64 n', .string t'] 29) #[.int .i64 0, .int .i64 0, .string ⟨#[]⟩] 29; simpa using this
  obtain ⟨q0, q1, q2⟩ := box3 A0.out
  obtain ⟨p0, p1, p2⟩ := box3 D0.out
  obtain ⟨x0, x1, x2⟩ := box3 X0.out
  have t0 := X0.out.thaw 0
  have t1 := X0.out.thaw 1
  have t2 := X0.out.thaw 2
  go_enter Tryd.func44, Tryd.ntmps44
  go_wp2_with fail
  refine (c_l10Int 1 _).mono ?_
  rintro e w1 ⟨rfl, hb⟩
  have B1 : Hid (Below w.heap.size w w1) := B0.out.trans (hb.mono B0.out.size)
  have A1 : Hid (Box w1 w.heap.size 29 #[.int .i64 k, .int .i64 n, .string t]) := A0.out.belowS hb
  have D1 : Hid (Box w1 (w.heap.size + 1) 29 #[.int .i64 k', .int .i64 n', .string t']) := D0.out.belowS hb
  have X1 : Hid (Box w1 (w.heap.size + 2) 29 #[.int .i64 0, .int .i64 0, .string ⟨#[]⟩]) := X0.out.belowS hb
  clear hb q0 q1 q2 p0 p1 p2 x0 x1 x2 t0 t1 t2
  obtain ⟨q0, q1, q2⟩ := box3 A1.out
  obtain ⟨p0, p1, p2⟩ := box3 D1.out
  obtain ⟨x0, x1, x2⟩ := box3 X1.out
  have t0 := X1.out.thaw 0
  have t1 := X1.out.thaw 1
  have t2 := X1.out.thaw 2
  go_wp2
  refine ret32 Tryd.results44 rfl rfl rfl (put3_box X1.out _ _ _) ⟨?_, put3_below B1.out (by omega) _ _ _⟩
  rw [E.out]
  rfl
set_option maxRecDepth 100000 in
set_option maxHeartbeats 2000000 in
theorem c_l10B_1301 (op : Int) (k n : Int) (t : ByteArray) (k' n' : Int) (t' : ByteArray) (w : World) (o12 : (op == 12) = false) (o13 : (op == 13) = true) (k2 : (k == 2) = false) (j2 : (k' == 2) = false) (k1 : (k == 1) = true) (k0 : (k == 0) = false) (n0 : (n == 0) = false) (nn : (n != 0) = true) (j1 : (k' == 1) = true) (j0 : (k' == 0) = false) (m0 : (n' == 0) = true) (mm : (n' != 0) = false) (E : Hid (binR op k n t k' n' t' = ⟨1, 1, 0⟩)) :
    Calls Tryd.prog 44 #[.int .i64 op, .agg #[.int .i64 k, .int .i64 n, .string t], .agg #[.int .i64 k', .int .i64 n', .string t']] w fun e w' => e = .returned (.tuple #[.agg #[.int .i64 (binR op k n t k' n' t').k, .int .i64 (binR op k n t k' n' t').n, .string ⟨#[]⟩], .int .i64 (binR op k n t k' n' t').c]) ∧ Below w.heap.size w w' := by
  obtain ⟨w0, hV0⟩ : ∃ V, ((w.alloc (.cells #[.int .i64 k, .int .i64 n, .string t] 29)).alloc (.cells #[.int .i64 k', .int .i64 n', .string t'] 29)).alloc (.cells #[.int .i64 0, .int .i64 0, .string ⟨#[]⟩] 29) = V := ⟨_, rfl⟩
  have B0 : Hid (Below w.heap.size w w0) := by unfold Hid; rw [← hV0]; exact (((Below.refl _ _).alloc (Nat.le_refl _) _).alloc (by simp) _).alloc (by simp; omega) _
  have A0 : Hid (Box w0 w.heap.size 29 #[.int .i64 k, .int .i64 n, .string t]) := by unfold Hid; rw [← hV0]; exact ((Box.new _ _ _).alloc _).alloc _
  have D0 : Hid (Box w0 (w.heap.size + 1) 29 #[.int .i64 k', .int .i64 n', .string t']) := by unfold Hid; rw [← hV0]; exact (Box.new2 _ _ _ _).alloc _
  have X0 : Hid (Box w0 (w.heap.size + 2) 29 #[.int .i64 0, .int .i64 0, .string ⟨#[]⟩]) := by unfold Hid; rw [← hV0]; have := Box.new2 (w.alloc (.cells #[.int .i64 k, .int .i64 n, .string t] 29)) (.cells #[.int .i64 k', .int .i64 n', .string t'] 29) #[.int .i64 0, .int .i64 0, .string ⟨#[]⟩] 29; simpa using this
  obtain ⟨q0, q1, q2⟩ := box3 A0.out
  obtain ⟨p0, p1, p2⟩ := box3 D0.out
  obtain ⟨x0, x1, x2⟩ := box3 X0.out
  have t0 := X0.out.thaw 0
  have t1 := X0.out.thaw 1
  have t2 := X0.out.thaw 2
  go_enter Tryd.func44, Tryd.ntmps44
  go_wp2_with fail
  refine (c_l10Int 1 _).mono ?_
  rintro e w1 ⟨rfl, hb⟩
  have B1 : Hid (Below w.heap.size w w1) := B0.out.trans (hb.mono B0.out.size)
  have A1 : Hid (Box w1 w.heap.size 29 #[.int .i64 k, .int .i64 n, .string t]) := A0.out.belowS hb
  have D1 : Hid (Box w1 (w.heap.size + 1) 29 #[.int .i64 k', .int .i64 n', .string t']) := D0.out.belowS hb
  have X1 : Hid (Box w1 (w.heap.size + 2) 29 #[.int .i64 0, .int .i64 0, .string ⟨#[]⟩]) := X0.out.belowS hb
  clear hb q0 q1 q2 p0 p1 p2 x0 x1 x2 t0 t1 t2
  obtain ⟨q0, q1, q2⟩ := box3 A1.out
  obtain ⟨p0, p1, p2⟩ := box3 D1.out
  obtain ⟨x0, x1, x2⟩ := box3 X1.out
  have t0 := X1.out.thaw 0
  have t1 := X1.out.thaw 1
  have t2 := X1.out.thaw 2
  go_wp2
  refine ret32 Tryd.results44 rfl rfl rfl (put3_box X1.out _ _ _) ⟨?_, put3_below B1.out (by omega) _ _ _⟩
  rw [E.out]
  rfl

end Go.Proofs.YtcgcaomaofppiaaDoor
