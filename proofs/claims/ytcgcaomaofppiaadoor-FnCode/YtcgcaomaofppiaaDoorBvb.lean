/-
  BinaryValue's common function, and the program's.
-/
import Derived.Test.YtcgcaomaofppiaaDoorBva
namespace Go.Proofs.YtcgcaomaofppiaaDoor
open Go Go.RowKit
set_option linter.unusedVariables false

def binR (op : Int) (k n : Int) (t : ByteArray) (k' n' : Int) (t' : ByteArray) : BR :=
  if (k = 2 ∨ k' = 2) ∧ op ≠ 10 ∧ op ≠ 11 then ⟨0, 0, 10⟩
  else if decB op k n = true ∨ decB op k' n' = true then ⟨1, trI (op == 13), 0⟩
  else if k = 0 ∨ k' = 0 then ⟨0, 0, 0⟩
  else if k ≠ k' then ⟨0, 0, 10⟩
  else if op = 12 ∨ op = 13 then ⟨1, trI (op == 12), 0⟩
  else if op = 10 then ⟨1, trI (n == n' && eqS t t'), 0⟩
  else if op = 11 then ⟨1, trI (decide (cmpV k n t k' n' t' < 0)), 0⟩
  else reckB op n n'
/-- A right value's kind and number. -/
structure Rt (k n : Int) : Prop where
  h0 : k = 0 ∨ k = 1 ∨ k = 2
  n0 : -1000000000 ≤ n
  n1 : n ≤ 1000000000
theorem rt_of {k n : Int} {t : ByteArray} (h : valB k n t = true) : Rt k n := by
  unfold valB at h
  split at h
  · rename_i e; simp at h; exact ⟨.inl e, by omega, by omega⟩
  · split at h
    · rename_i e; simp [inB] at h; exact ⟨.inr (.inl e), by omega, by omega⟩
    · split at h
      · rename_i e; simp at h; exact ⟨.inr (.inr e), by omega, by omega⟩
      · cases h
set_option maxRecDepth 100000 in
set_option maxHeartbeats 2000000 in
theorem c_binV_T (op : Int) (k n : Int) (t : ByteArray) (k' n' : Int) (t' : ByteArray) (w : World) (e1 : (k == 2 || k' == 2) = true) (n10 : (op != 10) = true) (n11 : (op != 11) = true) (E : Hid (binR op k n t k' n' t' = ⟨0, 0, 10⟩)) :
    Calls Tryd.prog 75 #[.int .i64 op, .agg #[.int .i64 k, .int .i64 n, .string t], .agg #[.int .i64 k', .int .i64 n', .string t']] w fun e w' => e = .returned (.tuple #[.agg #[.int .i64 (binR op k n t k' n' t').k, .int .i64 (binR op k n t k' n' t').n, .string ⟨#[]⟩], .int .i64 (binR op k n t k' n' t').c]) ∧ Below w.heap.size w w' := by
  obtain ⟨w0, hV0⟩ : ∃ V, ((w.alloc (.cells #[.int .i64 k, .int .i64 n, .string t] 29)).alloc (.cells #[.int .i64 k', .int .i64 n', .string t'] 29)).alloc (.cells #[.int .i64 0, .int .i64 0, .string ⟨#[]⟩] 29) = V := ⟨_, rfl⟩
  have B0 : Hid (Below w.heap.size w w0) := by unfold Hid; rw [← hV0]; exact (((Below.refl _ _).alloc (Nat.le_refl _) _).alloc (by simp) _).alloc (by simp; omega) _
  have A0 : Hid (Box w0 w.heap.size 29 #[.int .i64 k, .int .i64 n, .string t]) := by unfold Hid; rw [← hV0]; exact ((Box.new _ _ _).alloc _).alloc _
  have D0 : Hid (Box w0 (w.heap.size + 1) 29 #[.int .i64 k', .int .i64 n', .string t']) := by unfold Hid; rw [← hV0]; exact (Box.new2 _ _ _ _).alloc _
  have X0 : Hid (Box w0 (w.heap.size + 2) 29 #[.int .i64 0, .int .i64 0, .string ⟨#[]⟩]) := by unfold Hid; rw [← hV0]; have := Box.new2 (w.alloc (.cells #[.int .i64 k, .int .i64 n, .string t] 29)) (.cells #[.int .i64 k', .int .i64 n', .string t'] 29) #[.int .i64 0, .int .i64 0, .string ⟨#[]⟩] 29; simpa using this
  obtain ⟨q0, q1, q2⟩ := box3 A0.out
  obtain ⟨p0, p1, p2⟩ := box3 D0.out
  obtain ⟨x0, x1, x2⟩ := box3 X0.out
  have t0 := X0.out.thaw 0
  have t1 := X0.out.thaw 1
  have t2 := X0.out.thaw 2
  go_enter Tryd.func75, Tryd.ntmps75
  go_wp2_with fail
  refine (c_has 2 k k' _ _ w0 q0 p0).mono ?_
  rintro e w' ⟨rfl, rfl⟩
  go_wp2
  refine ret32 Tryd.results75 rfl rfl rfl (put3_box X0.out _ _ _) ⟨?_, put3_below B0.out (by omega) _ _ _⟩
  rw [E.out]
  rfl
set_option maxRecDepth 100000 in
set_option maxHeartbeats 2000000 in
theorem c_binV_aA (op : Int) (k n : Int) (t : ByteArray) (k' n' : Int) (t' : ByteArray) (w : World) (e1 : (k == 2 || k' == 2) = false) (d1 : decB op k n = true) (E : Hid (binR op k n t k' n' t' = ⟨1, trI (op == 13), 0⟩)) :
    Calls Tryd.prog 75 #[.int .i64 op, .agg #[.int .i64 k, .int .i64 n, .string t], .agg #[.int .i64 k', .int .i64 n', .string t']] w fun e w' => e = .returned (.tuple #[.agg #[.int .i64 (binR op k n t k' n' t').k, .int .i64 (binR op k n t k' n' t').n, .string ⟨#[]⟩], .int .i64 (binR op k n t k' n' t').c]) ∧ Below w.heap.size w w' := by
  obtain ⟨w0, hV0⟩ : ∃ V, ((w.alloc (.cells #[.int .i64 k, .int .i64 n, .string t] 29)).alloc (.cells #[.int .i64 k', .int .i64 n', .string t'] 29)).alloc (.cells #[.int .i64 0, .int .i64 0, .string ⟨#[]⟩] 29) = V := ⟨_, rfl⟩
  have B0 : Hid (Below w.heap.size w w0) := by unfold Hid; rw [← hV0]; exact (((Below.refl _ _).alloc (Nat.le_refl _) _).alloc (by simp) _).alloc (by simp; omega) _
  have A0 : Hid (Box w0 w.heap.size 29 #[.int .i64 k, .int .i64 n, .string t]) := by unfold Hid; rw [← hV0]; exact ((Box.new _ _ _).alloc _).alloc _
  have D0 : Hid (Box w0 (w.heap.size + 1) 29 #[.int .i64 k', .int .i64 n', .string t']) := by unfold Hid; rw [← hV0]; exact (Box.new2 _ _ _ _).alloc _
  have X0 : Hid (Box w0 (w.heap.size + 2) 29 #[.int .i64 0, .int .i64 0, .string ⟨#[]⟩]) := by unfold Hid; rw [← hV0]; have := Box.new2 (w.alloc (.cells #[.int .i64 k, .int .i64 n, .string t] 29)) (.cells #[.int .i64 k', .int .i64 n', .string t'] 29) #[.int .i64 0, .int .i64 0, .string ⟨#[]⟩] 29; simpa using this
  obtain ⟨q0, q1, q2⟩ := box3 A0.out
  obtain ⟨p0, p1, p2⟩ := box3 D0.out
  obtain ⟨x0, x1, x2⟩ := box3 X0.out
  have t0 := X0.out.thaw 0
  have t1 := X0.out.thaw 1
  have t2 := X0.out.thaw 2
  go_enter Tryd.func75, Tryd.ntmps75
  go_wp2_with fail
  refine (c_has 2 k k' _ _ w0 q0 p0).mono ?_
  rintro e w' ⟨rfl, rfl⟩
  go_wp2_with fail
  refine (c_dec op k n t _).mono ?_
  rintro e w1 ⟨rfl, hb⟩
  have B1 : Hid (Below w.heap.size w w1) := B0.out.trans (hb.mono B0.out.size)
  have A1 : Hid (Box w1 w.heap.size 29 #[.int .i64 k, .int .i64 n, .string t]) := A0.out.belowS hb
  have D1 : Hid (Box w1 (w.heap.size + 1) 29 #[.int .i64 k', .int .i64 n', .string t']) := D0.out.belowS hb
  have X1 : Hid (Box w1 (w.heap.size + 2) 29 #[.int .i64 0, .int .i64 0, .string ⟨#[]⟩]) := X0.out.belowS hb
  clear hb q0 q1 q2 p0 p1 p2 x0 x1 x2 t0 t1 t2
  obtain ⟨q0, q1, q2⟩ := box3 A1.out
  obtain ⟨p0, p1, p2⟩ := box3 D1.out
  obtain ⟨x0, x1, x2⟩ := box3 X1.out
  have t0 := X1.out.thaw 0
  have t1 := X1.out.thaw 1
  have t2 := X1.out.thaw 2
  go_wp2_with fail
  refine (c_truth (op == 13) _).mono ?_
  rintro e w2 ⟨rfl, hb⟩
  have B2 : Hid (Below w.heap.size w w2) := B1.out.trans (hb.mono B1.out.size)
  have A2 : Hid (Box w2 w.heap.size 29 #[.int .i64 k, .int .i64 n, .string t]) := A1.out.belowS hb
  have D2 : Hid (Box w2 (w.heap.size + 1) 29 #[.int .i64 k', .int .i64 n', .string t']) := D1.out.belowS hb
  have X2 : Hid (Box w2 (w.heap.size + 2) 29 #[.int .i64 0, .int .i64 0, .string ⟨#[]⟩]) := X1.out.belowS hb
  clear hb q0 q1 q2 p0 p1 p2 x0 x1 x2 t0 t1 t2
  obtain ⟨q0, q1, q2⟩ := box3 A2.out
  obtain ⟨p0, p1, p2⟩ := box3 D2.out
  obtain ⟨x0, x1, x2⟩ := box3 X2.out
  have t0 := X2.out.thaw 0
  have t1 := X2.out.thaw 1
  have t2 := X2.out.thaw 2
  go_wp2
  refine ret32 Tryd.results75 rfl rfl rfl (put3_box X2.out _ _ _) ⟨?_, put3_below B2.out (by omega) _ _ _⟩
  rw [E.out]
  rfl
set_option maxRecDepth 100000 in
set_option maxHeartbeats 2000000 in
theorem c_binV_aB (op : Int) (k n : Int) (t : ByteArray) (k' n' : Int) (t' : ByteArray) (w : World) (e1 : (k == 2 || k' == 2) = false) (d1 : decB op k n = false) (d2 : decB op k' n' = true) (E : Hid (binR op k n t k' n' t' = ⟨1, trI (op == 13), 0⟩)) :
    Calls Tryd.prog 75 #[.int .i64 op, .agg #[.int .i64 k, .int .i64 n, .string t], .agg #[.int .i64 k', .int .i64 n', .string t']] w fun e w' => e = .returned (.tuple #[.agg #[.int .i64 (binR op k n t k' n' t').k, .int .i64 (binR op k n t k' n' t').n, .string ⟨#[]⟩], .int .i64 (binR op k n t k' n' t').c]) ∧ Below w.heap.size w w' := by
  obtain ⟨w0, hV0⟩ : ∃ V, ((w.alloc (.cells #[.int .i64 k, .int .i64 n, .string t] 29)).alloc (.cells #[.int .i64 k', .int .i64 n', .string t'] 29)).alloc (.cells #[.int .i64 0, .int .i64 0, .string ⟨#[]⟩] 29) = V := ⟨_, rfl⟩
  have B0 : Hid (Below w.heap.size w w0) := by unfold Hid; rw [← hV0]; exact (((Below.refl _ _).alloc (Nat.le_refl _) _).alloc (by simp) _).alloc (by simp; omega) _
  have A0 : Hid (Box w0 w.heap.size 29 #[.int .i64 k, .int .i64 n, .string t]) := by unfold Hid; rw [← hV0]; exact ((Box.new _ _ _).alloc _).alloc _
  have D0 : Hid (Box w0 (w.heap.size + 1) 29 #[.int .i64 k', .int .i64 n', .string t']) := by unfold Hid; rw [← hV0]; exact (Box.new2 _ _ _ _).alloc _
  have X0 : Hid (Box w0 (w.heap.size + 2) 29 #[.int .i64 0, .int .i64 0, .string ⟨#[]⟩]) := by unfold Hid; rw [← hV0]; have := Box.new2 (w.alloc (.cells #[.int .i64 k, .int .i64 n, .string t] 29)) (.cells #[.int .i64 k', .int .i64 n', .string t'] 29) #[.int .i64 0, .int .i64 0, .string ⟨#[]⟩] 29; simpa using this
  obtain ⟨q0, q1, q2⟩ := box3 A0.out
  obtain ⟨p0, p1, p2⟩ := box3 D0.out
  obtain ⟨x0, x1, x2⟩ := box3 X0.out
  have t0 := X0.out.thaw 0
  have t1 := X0.out.thaw 1
  have t2 := X0.out.thaw 2
  go_enter Tryd.func75, Tryd.ntmps75
  go_wp2_with fail
  refine (c_has 2 k k' _ _ w0 q0 p0).mono ?_
  rintro e w' ⟨rfl, rfl⟩
  go_wp2_with fail
  refine (c_dec op k n t _).mono ?_
  rintro e w1 ⟨rfl, hb⟩
  have B1 : Hid (Below w.heap.size w w1) := B0.out.trans (hb.mono B0.out.size)
  have A1 : Hid (Box w1 w.heap.size 29 #[.int .i64 k, .int .i64 n, .string t]) := A0.out.belowS hb
  have D1 : Hid (Box w1 (w.heap.size + 1) 29 #[.int .i64 k', .int .i64 n', .string t']) := D0.out.belowS hb
  have X1 : Hid (Box w1 (w.heap.size + 2) 29 #[.int .i64 0, .int .i64 0, .string ⟨#[]⟩]) := X0.out.belowS hb
  clear hb q0 q1 q2 p0 p1 p2 x0 x1 x2 t0 t1 t2
  obtain ⟨q0, q1, q2⟩ := box3 A1.out
  obtain ⟨p0, p1, p2⟩ := box3 D1.out
  obtain ⟨x0, x1, x2⟩ := box3 X1.out
  have t0 := X1.out.thaw 0
  have t1 := X1.out.thaw 1
  have t2 := X1.out.thaw 2
  go_wp2_with fail
  refine (c_dec op k' n' t' _).mono ?_
  rintro e w2 ⟨rfl, hb⟩
  have B2 : Hid (Below w.heap.size w w2) := B1.out.trans (hb.mono B1.out.size)
  have A2 : Hid (Box w2 w.heap.size 29 #[.int .i64 k, .int .i64 n, .string t]) := A1.out.belowS hb
  have D2 : Hid (Box w2 (w.heap.size + 1) 29 #[.int .i64 k', .int .i64 n', .string t']) := D1.out.belowS hb
  have X2 : Hid (Box w2 (w.heap.size + 2) 29 #[.int .i64 0, .int .i64 0, .string ⟨#[]⟩]) := X1.out.belowS hb
  clear hb q0 q1 q2 p0 p1 p2 x0 x1 x2 t0 t1 t2
  obtain ⟨q0, q1, q2⟩ := box3 A2.out
  obtain ⟨p0, p1, p2⟩ := box3 D2.out
  obtain ⟨x0, x1, x2⟩ := box3 X2.out
  have t0 := X2.out.thaw 0
  have t1 := X2.out.thaw 1
  have t2 := X2.out.thaw 2
  go_wp2_with fail
  refine (c_truth (op == 13) _).mono ?_
  rintro e w3 ⟨rfl, hb⟩
  have B3 : Hid (Below w.heap.size w w3) := B2.out.trans (hb.mono B2.out.size)
  have A3 : Hid (Box w3 w.heap.size 29 #[.int .i64 k, .int .i64 n, .string t]) := A2.out.belowS hb
  have D3 : Hid (Box w3 (w.heap.size + 1) 29 #[.int .i64 k', .int .i64 n', .string t']) := D2.out.belowS hb
  have X3 : Hid (Box w3 (w.heap.size + 2) 29 #[.int .i64 0, .int .i64 0, .string ⟨#[]⟩]) := X2.out.belowS hb
  clear hb q0 q1 q2 p0 p1 p2 x0 x1 x2 t0 t1 t2
  obtain ⟨q0, q1, q2⟩ := box3 A3.out
  obtain ⟨p0, p1, p2⟩ := box3 D3.out
  obtain ⟨x0, x1, x2⟩ := box3 X3.out
  have t0 := X3.out.thaw 0
  have t1 := X3.out.thaw 1
  have t2 := X3.out.thaw 2
  go_wp2
  refine ret32 Tryd.results75 rfl rfl rfl (put3_box X3.out _ _ _) ⟨?_, put3_below B3.out (by omega) _ _ _⟩
  rw [E.out]
  rfl
set_option maxRecDepth 100000 in
set_option maxHeartbeats 2000000 in
theorem c_binV_aN (op : Int) (k n : Int) (t : ByteArray) (k' n' : Int) (t' : ByteArray) (w : World) (e1 : (k == 2 || k' == 2) = false) (d1 : decB op k n = false) (d2 : decB op k' n' = false) (z : (k == 0 || k' == 0) = true) (E : Hid (binR op k n t k' n' t' = ⟨0, 0, 0⟩)) :
    Calls Tryd.prog 75 #[.int .i64 op, .agg #[.int .i64 k, .int .i64 n, .string t], .agg #[.int .i64 k', .int .i64 n', .string t']] w fun e w' => e = .returned (.tuple #[.agg #[.int .i64 (binR op k n t k' n' t').k, .int .i64 (binR op k n t k' n' t').n, .string ⟨#[]⟩], .int .i64 (binR op k n t k' n' t').c]) ∧ Below w.heap.size w w' := by
  obtain ⟨w0, hV0⟩ : ∃ V, ((w.alloc (.cells #[.int .i64 k, .int .i64 n, .string t] 29)).alloc (.cells #[.int .i64 k', .int .i64 n', .string t'] 29)).alloc (.cells #[.int .i64 0, .int .i64 0, .string ⟨#[]⟩] 29) = V := ⟨_, rfl⟩
  have B0 : Hid (Below w.heap.size w w0) := by unfold Hid; rw [← hV0]; exact (((Below.refl _ _).alloc (Nat.le_refl _) _).alloc (by simp) _).alloc (by simp; omega) _
  have A0 : Hid (Box w0 w.heap.size 29 #[.int .i64 k, .int .i64 n, .string t]) := by unfold Hid; rw [← hV0]; exact ((Box.new _ _ _).alloc _).alloc _
  have D0 : Hid (Box w0 (w.heap.size + 1) 29 #[.int .i64 k', .int .i64 n', .string t']) := by unfold Hid; rw [← hV0]; exact (Box.new2 _ _ _ _).alloc _
  have X0 : Hid (Box w0 (w.heap.size + 2) 29 #[.int .i64 0, .int .i64 0, .string ⟨#[]⟩]) := by unfold Hid; rw [← hV0]; have := Box.new2 (w.alloc (.cells #[.int .i64 k, .int .i64 n, .string t] 29)) (.cells #[.int .i64 k', .int .i64 n', .string t'] 29) #[.int .i64 0, .int .i64 0, .string ⟨#[]⟩] 29; simpa using this
  obtain ⟨q0, q1, q2⟩ := box3 A0.out
  obtain ⟨p0, p1, p2⟩ := box3 D0.out
  obtain ⟨x0, x1, x2⟩ := box3 X0.out
  have t0 := X0.out.thaw 0
  have t1 := X0.out.thaw 1
  have t2 := X0.out.thaw 2
  go_enter Tryd.func75, Tryd.ntmps75
  go_wp2_with fail
  refine (c_has 2 k k' _ _ w0 q0 p0).mono ?_
  rintro e w' ⟨rfl, rfl⟩
  go_wp2_with fail
  refine (c_dec op k n t _).mono ?_
  rintro e w1 ⟨rfl, hb⟩
  have B1 : Hid (Below w.heap.size w w1) := B0.out.trans (hb.mono B0.out.size)
  have A1 : Hid (Box w1 w.heap.size 29 #[.int .i64 k, .int .i64 n, .string t]) := A0.out.belowS hb
  have D1 : Hid (Box w1 (w.heap.size + 1) 29 #[.int .i64 k', .int .i64 n', .string t']) := D0.out.belowS hb
  have X1 : Hid (Box w1 (w.heap.size + 2) 29 #[.int .i64 0, .int .i64 0, .string ⟨#[]⟩]) := X0.out.belowS hb
  clear hb q0 q1 q2 p0 p1 p2 x0 x1 x2 t0 t1 t2
  obtain ⟨q0, q1, q2⟩ := box3 A1.out
  obtain ⟨p0, p1, p2⟩ := box3 D1.out
  obtain ⟨x0, x1, x2⟩ := box3 X1.out
  have t0 := X1.out.thaw 0
  have t1 := X1.out.thaw 1
  have t2 := X1.out.thaw 2
  go_wp2_with fail
  refine (c_dec op k' n' t' _).mono ?_
  rintro e w2 ⟨rfl, hb⟩
  have B2 : Hid (Below w.heap.size w w2) := B1.out.trans (hb.mono B1.out.size)
  have A2 : Hid (Box w2 w.heap.size 29 #[.int .i64 k, .int .i64 n, .string t]) := A1.out.belowS hb
  have D2 : Hid (Box w2 (w.heap.size + 1) 29 #[.int .i64 k', .int .i64 n', .string t']) := D1.out.belowS hb
  have X2 : Hid (Box w2 (w.heap.size + 2) 29 #[.int .i64 0, .int .i64 0, .string ⟨#[]⟩]) := X1.out.belowS hb
  clear hb q0 q1 q2 p0 p1 p2 x0 x1 x2 t0 t1 t2
  obtain ⟨q0, q1, q2⟩ := box3 A2.out
  obtain ⟨p0, p1, p2⟩ := box3 D2.out
  obtain ⟨x0, x1, x2⟩ := box3 X2.out
  have t0 := X2.out.thaw 0
  have t1 := X2.out.thaw 1
  have t2 := X2.out.thaw 2
  go_wp2_with fail
  refine (c_has 0 k k' _ _ w2 q0 p0).mono ?_
  rintro e w' ⟨rfl, rfl⟩
  go_wp2
  refine ret32 Tryd.results75 rfl rfl rfl (put3_box X2.out _ _ _) ⟨?_, put3_below B2.out (by omega) _ _ _⟩
  rw [E.out]
  rfl
set_option maxRecDepth 100000 in
set_option maxHeartbeats 2000000 in
theorem c_binV_aK (op : Int) (k n : Int) (t : ByteArray) (k' n' : Int) (t' : ByteArray) (w : World) (e1 : (k == 2 || k' == 2) = false) (d1 : decB op k n = false) (d2 : decB op k' n' = false) (z : (k == 0 || k' == 0) = false) (kk : (k != k') = true) (E : Hid (binR op k n t k' n' t' = ⟨0, 0, 10⟩)) :
    Calls Tryd.prog 75 #[.int .i64 op, .agg #[.int .i64 k, .int .i64 n, .string t], .agg #[.int .i64 k', .int .i64 n', .string t']] w fun e w' => e = .returned (.tuple #[.agg #[.int .i64 (binR op k n t k' n' t').k, .int .i64 (binR op k n t k' n' t').n, .string ⟨#[]⟩], .int .i64 (binR op k n t k' n' t').c]) ∧ Below w.heap.size w w' := by
  obtain ⟨w0, hV0⟩ : ∃ V, ((w.alloc (.cells #[.int .i64 k, .int .i64 n, .string t] 29)).alloc (.cells #[.int .i64 k', .int .i64 n', .string t'] 29)).alloc (.cells #[.int .i64 0, .int .i64 0, .string ⟨#[]⟩] 29) = V := ⟨_, rfl⟩
  have B0 : Hid (Below w.heap.size w w0) := by unfold Hid; rw [← hV0]; exact (((Below.refl _ _).alloc (Nat.le_refl _) _).alloc (by simp) _).alloc (by simp; omega) _
  have A0 : Hid (Box w0 w.heap.size 29 #[.int .i64 k, .int .i64 n, .string t]) := by unfold Hid; rw [← hV0]; exact ((Box.new _ _ _).alloc _).alloc _
  have D0 : Hid (Box w0 (w.heap.size + 1) 29 #[.int .i64 k', .int .i64 n', .string t']) := by unfold Hid; rw [← hV0]; exact (Box.new2 _ _ _ _).alloc _
  have X0 : Hid (Box w0 (w.heap.size + 2) 29 #[.int .i64 0, .int .i64 0, .string ⟨#[]⟩]) := by unfold Hid; rw [← hV0]; have := Box.new2 (w.alloc (.cells #[.int .i64 k, .int .i64 n, .string t] 29)) (.cells #[.int .i64 k', .int .i64 n', .string t'] 29) #[.int .i64 0, .int .i64 0, .string ⟨#[]⟩] 29; simpa using this
  obtain ⟨q0, q1, q2⟩ := box3 A0.out
  obtain ⟨p0, p1, p2⟩ := box3 D0.out
  obtain ⟨x0, x1, x2⟩ := box3 X0.out
  have t0 := X0.out.thaw 0
  have t1 := X0.out.thaw 1
  have t2 := X0.out.thaw 2
  go_enter Tryd.func75, Tryd.ntmps75
  go_wp2_with fail
  refine (c_has 2 k k' _ _ w0 q0 p0).mono ?_
  rintro e w' ⟨rfl, rfl⟩
  go_wp2_with fail
  refine (c_dec op k n t _).mono ?_
  rintro e w1 ⟨rfl, hb⟩
  have B1 : Hid (Below w.heap.size w w1) := B0.out.trans (hb.mono B0.out.size)
  have A1 : Hid (Box w1 w.heap.size 29 #[.int .i64 k, .int .i64 n, .string t]) := A0.out.belowS hb
  have D1 : Hid (Box w1 (w.heap.size + 1) 29 #[.int .i64 k', .int .i64 n', .string t']) := D0.out.belowS hb
  have X1 : Hid (Box w1 (w.heap.size + 2) 29 #[.int .i64 0, .int .i64 0, .string ⟨#[]⟩]) := X0.out.belowS hb
  clear hb q0 q1 q2 p0 p1 p2 x0 x1 x2 t0 t1 t2
  obtain ⟨q0, q1, q2⟩ := box3 A1.out
  obtain ⟨p0, p1, p2⟩ := box3 D1.out
  obtain ⟨x0, x1, x2⟩ := box3 X1.out
  have t0 := X1.out.thaw 0
  have t1 := X1.out.thaw 1
  have t2 := X1.out.thaw 2
  go_wp2_with fail
  refine (c_dec op k' n' t' _).mono ?_
  rintro e w2 ⟨rfl, hb⟩
  have B2 : Hid (Below w.heap.size w w2) := B1.out.trans (hb.mono B1.out.size)
  have A2 : Hid (Box w2 w.heap.size 29 #[.int .i64 k, .int .i64 n, .string t]) := A1.out.belowS hb
  have D2 : Hid (Box w2 (w.heap.size + 1) 29 #[.int .i64 k', .int .i64 n', .string t']) := D1.out.belowS hb
  have X2 : Hid (Box w2 (w.heap.size + 2) 29 #[.int .i64 0, .int .i64 0, .string ⟨#[]⟩]) := X1.out.belowS hb
  clear hb q0 q1 q2 p0 p1 p2 x0 x1 x2 t0 t1 t2
  obtain ⟨q0, q1, q2⟩ := box3 A2.out
  obtain ⟨p0, p1, p2⟩ := box3 D2.out
  obtain ⟨x0, x1, x2⟩ := box3 X2.out
  have t0 := X2.out.thaw 0
  have t1 := X2.out.thaw 1
  have t2 := X2.out.thaw 2
  go_wp2_with fail
  refine (c_has 0 k k' _ _ w2 q0 p0).mono ?_
  rintro e w' ⟨rfl, rfl⟩
  go_wp2
  refine ret32 Tryd.results75 rfl rfl rfl (put3_box X2.out _ _ _) ⟨?_, put3_below B2.out (by omega) _ _ _⟩
  rw [E.out]
  rfl
set_option maxRecDepth 100000 in
set_option maxHeartbeats 2000000 in
theorem c_binV_aX (op : Int) (k n : Int) (t : ByteArray) (k' n' : Int) (t' : ByteArray) (w : World) (e1 : (k == 2 || k' == 2) = false) (d1 : decB op k n = false) (d2 : decB op k' n' = false) (z : (k == 0 || k' == 0) = false) (kk : (k != k') = false) (o12 : (op == 12) = true) (E : Hid (binR op k n t k' n' t' = ⟨1, 1, 0⟩)) :
    Calls Tryd.prog 75 #[.int .i64 op, .agg #[.int .i64 k, .int .i64 n, .string t], .agg #[.int .i64 k', .int .i64 n', .string t']] w fun e w' => e = .returned (.tuple #[.agg #[.int .i64 (binR op k n t k' n' t').k, .int .i64 (binR op k n t k' n' t').n, .string ⟨#[]⟩], .int .i64 (binR op k n t k' n' t').c]) ∧ Below w.heap.size w w' := by
  obtain ⟨w0, hV0⟩ : ∃ V, ((w.alloc (.cells #[.int .i64 k, .int .i64 n, .string t] 29)).alloc (.cells #[.int .i64 k', .int .i64 n', .string t'] 29)).alloc (.cells #[.int .i64 0, .int .i64 0, .string ⟨#[]⟩] 29) = V := ⟨_, rfl⟩
  have B0 : Hid (Below w.heap.size w w0) := by unfold Hid; rw [← hV0]; exact (((Below.refl _ _).alloc (Nat.le_refl _) _).alloc (by simp) _).alloc (by simp; omega) _
  have A0 : Hid (Box w0 w.heap.size 29 #[.int .i64 k, .int .i64 n, .string t]) := by unfold Hid; rw [← hV0]; exact ((Box.new _ _ _).alloc _).alloc _
  have D0 : Hid (Box w0 (w.heap.size + 1) 29 #[.int .i64 k', .int .i64 n', .string t']) := by unfold Hid; rw [← hV0]; exact (Box.new2 _ _ _ _).alloc _
  have X0 : Hid (Box w0 (w.heap.size + 2) 29 #[.int .i64 0, .int .i64 0, .string ⟨#[]⟩]) := by unfold Hid; rw [← hV0]; have := Box.new2 (w.alloc (.cells #[.int .i64 k, .int .i64 n, .string t] 29)) (.cells #[.int .i64 k', .int .i64 n', .string t'] 29) #[.int .i64 0, .int .i64 0, .string ⟨#[]⟩] 29; simpa using this
  obtain ⟨q0, q1, q2⟩ := box3 A0.out
  obtain ⟨p0, p1, p2⟩ := box3 D0.out
  obtain ⟨x0, x1, x2⟩ := box3 X0.out
  have t0 := X0.out.thaw 0
  have t1 := X0.out.thaw 1
  have t2 := X0.out.thaw 2
  go_enter Tryd.func75, Tryd.ntmps75
  go_wp2_with fail
  refine (c_has 2 k k' _ _ w0 q0 p0).mono ?_
  rintro e w' ⟨rfl, rfl⟩
  go_wp2_with fail
  refine (c_dec op k n t _).mono ?_
  rintro e w1 ⟨rfl, hb⟩
  have B1 : Hid (Below w.heap.size w w1) := B0.out.trans (hb.mono B0.out.size)
  have A1 : Hid (Box w1 w.heap.size 29 #[.int .i64 k, .int .i64 n, .string t]) := A0.out.belowS hb
  have D1 : Hid (Box w1 (w.heap.size + 1) 29 #[.int .i64 k', .int .i64 n', .string t']) := D0.out.belowS hb
  have X1 : Hid (Box w1 (w.heap.size + 2) 29 #[.int .i64 0, .int .i64 0, .string ⟨#[]⟩]) := X0.out.belowS hb
  clear hb q0 q1 q2 p0 p1 p2 x0 x1 x2 t0 t1 t2
  obtain ⟨q0, q1, q2⟩ := box3 A1.out
  obtain ⟨p0, p1, p2⟩ := box3 D1.out
  obtain ⟨x0, x1, x2⟩ := box3 X1.out
  have t0 := X1.out.thaw 0
  have t1 := X1.out.thaw 1
  have t2 := X1.out.thaw 2
  go_wp2_with fail
  refine (c_dec op k' n' t' _).mono ?_
  rintro e w2 ⟨rfl, hb⟩
  have B2 : Hid (Below w.heap.size w w2) := B1.out.trans (hb.mono B1.out.size)
  have A2 : Hid (Box w2 w.heap.size 29 #[.int .i64 k, .int .i64 n, .string t]) := A1.out.belowS hb
  have D2 : Hid (Box w2 (w.heap.size + 1) 29 #[.int .i64 k', .int .i64 n', .string t']) := D1.out.belowS hb
  have X2 : Hid (Box w2 (w.heap.size + 2) 29 #[.int .i64 0, .int .i64 0, .string ⟨#[]⟩]) := X1.out.belowS hb
  clear hb q0 q1 q2 p0 p1 p2 x0 x1 x2 t0 t1 t2
  obtain ⟨q0, q1, q2⟩ := box3 A2.out
  obtain ⟨p0, p1, p2⟩ := box3 D2.out
  obtain ⟨x0, x1, x2⟩ := box3 X2.out
  have t0 := X2.out.thaw 0
  have t1 := X2.out.thaw 1
  have t2 := X2.out.thaw 2
  go_wp2_with fail
  refine (c_has 0 k k' _ _ w2 q0 p0).mono ?_
  rintro e w' ⟨rfl, rfl⟩
  go_wp2_with fail
  refine (c_truth true _).mono ?_
  rintro e w3 ⟨rfl, hb⟩
  have B3 : Hid (Below w.heap.size w w3) := B2.out.trans (hb.mono B2.out.size)
  have A3 : Hid (Box w3 w.heap.size 29 #[.int .i64 k, .int .i64 n, .string t]) := A2.out.belowS hb
  have D3 : Hid (Box w3 (w.heap.size + 1) 29 #[.int .i64 k', .int .i64 n', .string t']) := D2.out.belowS hb
  have X3 : Hid (Box w3 (w.heap.size + 2) 29 #[.int .i64 0, .int .i64 0, .string ⟨#[]⟩]) := X2.out.belowS hb
  clear hb q0 q1 q2 p0 p1 p2 x0 x1 x2 t0 t1 t2
  obtain ⟨q0, q1, q2⟩ := box3 A3.out
  obtain ⟨p0, p1, p2⟩ := box3 D3.out
  obtain ⟨x0, x1, x2⟩ := box3 X3.out
  have t0 := X3.out.thaw 0
  have t1 := X3.out.thaw 1
  have t2 := X3.out.thaw 2
  go_wp2
  refine ret32 Tryd.results75 rfl rfl rfl (put3_box X3.out _ _ _) ⟨?_, put3_below B3.out (by omega) _ _ _⟩
  rw [E.out]
  rfl
set_option maxRecDepth 100000 in
set_option maxHeartbeats 2000000 in
theorem c_binV_aO (op : Int) (k n : Int) (t : ByteArray) (k' n' : Int) (t' : ByteArray) (w : World) (e1 : (k == 2 || k' == 2) = false) (d1 : decB op k n = false) (d2 : decB op k' n' = false) (z : (k == 0 || k' == 0) = false) (kk : (k != k') = false) (o12 : (op == 12) = false) (o13 : (op == 13) = true) (E : Hid (binR op k n t k' n' t' = ⟨1, 0, 0⟩)) :
    Calls Tryd.prog 75 #[.int .i64 op, .agg #[.int .i64 k, .int .i64 n, .string t], .agg #[.int .i64 k', .int .i64 n', .string t']] w fun e w' => e = .returned (.tuple #[.agg #[.int .i64 (binR op k n t k' n' t').k, .int .i64 (binR op k n t k' n' t').n, .string ⟨#[]⟩], .int .i64 (binR op k n t k' n' t').c]) ∧ Below w.heap.size w w' := by
  obtain ⟨w0, hV0⟩ : ∃ V, ((w.alloc (.cells #[.int .i64 k, .int .i64 n, .string t] 29)).alloc (.cells #[.int .i64 k', .int .i64 n', .string t'] 29)).alloc (.cells #[.int .i64 0, .int .i64 0, .string ⟨#[]⟩] 29) = V := ⟨_, rfl⟩
  have B0 : Hid (Below w.heap.size w w0) := by unfold Hid; rw [← hV0]; exact (((Below.refl _ _).alloc (Nat.le_refl _) _).alloc (by simp) _).alloc (by simp; omega) _
  have A0 : Hid (Box w0 w.heap.size 29 #[.int .i64 k, .int .i64 n, .string t]) := by unfold Hid; rw [← hV0]; exact ((Box.new _ _ _).alloc _).alloc _
  have D0 : Hid (Box w0 (w.heap.size + 1) 29 #[.int .i64 k', .int .i64 n', .string t']) := by unfold Hid; rw [← hV0]; exact (Box.new2 _ _ _ _).alloc _
  have X0 : Hid (Box w0 (w.heap.size + 2) 29 #[.int .i64 0, .int .i64 0, .string ⟨#[]⟩]) := by unfold Hid; rw [← hV0]; have := Box.new2 (w.alloc (.cells #[.int .i64 k, .int .i64 n, .string t] 29)) (.cells #[.int .i64 k', .int .i64 n', .string t'] 29) #[.int .i64 0, .int .i64 0, .string ⟨#[]⟩] 29; simpa using this
  obtain ⟨q0, q1, q2⟩ := box3 A0.out
  obtain ⟨p0, p1, p2⟩ := box3 D0.out
  obtain ⟨x0, x1, x2⟩ := box3 X0.out
  have t0 := X0.out.thaw 0
  have t1 := X0.out.thaw 1
  have t2 := X0.out.thaw 2
  go_enter Tryd.func75, Tryd.ntmps75
  go_wp2_with fail
  refine (c_has 2 k k' _ _ w0 q0 p0).mono ?_
  rintro e w' ⟨rfl, rfl⟩
  go_wp2_with fail
  refine (c_dec op k n t _).mono ?_
  rintro e w1 ⟨rfl, hb⟩
  have B1 : Hid (Below w.heap.size w w1) := B0.out.trans (hb.mono B0.out.size)
  have A1 : Hid (Box w1 w.heap.size 29 #[.int .i64 k, .int .i64 n, .string t]) := A0.out.belowS hb
  have D1 : Hid (Box w1 (w.heap.size + 1) 29 #[.int .i64 k', .int .i64 n', .string t']) := D0.out.belowS hb
  have X1 : Hid (Box w1 (w.heap.size + 2) 29 #[.int .i64 0, .int .i64 0, .string ⟨#[]⟩]) := X0.out.belowS hb
  clear hb q0 q1 q2 p0 p1 p2 x0 x1 x2 t0 t1 t2
  obtain ⟨q0, q1, q2⟩ := box3 A1.out
  obtain ⟨p0, p1, p2⟩ := box3 D1.out
  obtain ⟨x0, x1, x2⟩ := box3 X1.out
  have t0 := X1.out.thaw 0
  have t1 := X1.out.thaw 1
  have t2 := X1.out.thaw 2
  go_wp2_with fail
  refine (c_dec op k' n' t' _).mono ?_
  rintro e w2 ⟨rfl, hb⟩
  have B2 : Hid (Below w.heap.size w w2) := B1.out.trans (hb.mono B1.out.size)
  have A2 : Hid (Box w2 w.heap.size 29 #[.int .i64 k, .int .i64 n, .string t]) := A1.out.belowS hb
  have D2 : Hid (Box w2 (w.heap.size + 1) 29 #[.int .i64 k', .int .i64 n', .string t']) := D1.out.belowS hb
  have X2 : Hid (Box w2 (w.heap.size + 2) 29 #[.int .i64 0, .int .i64 0, .string ⟨#[]⟩]) := X1.out.belowS hb
  clear hb q0 q1 q2 p0 p1 p2 x0 x1 x2 t0 t1 t2
  obtain ⟨q0, q1, q2⟩ := box3 A2.out
  obtain ⟨p0, p1, p2⟩ := box3 D2.out
  obtain ⟨x0, x1, x2⟩ := box3 X2.out
  have t0 := X2.out.thaw 0
  have t1 := X2.out.thaw 1
  have t2 := X2.out.thaw 2
  go_wp2_with fail
  refine (c_has 0 k k' _ _ w2 q0 p0).mono ?_
  rintro e w' ⟨rfl, rfl⟩
  go_wp2_with fail
  refine (c_truth false _).mono ?_
  rintro e w3 ⟨rfl, hb⟩
  have B3 : Hid (Below w.heap.size w w3) := B2.out.trans (hb.mono B2.out.size)
  have A3 : Hid (Box w3 w.heap.size 29 #[.int .i64 k, .int .i64 n, .string t]) := A2.out.belowS hb
  have D3 : Hid (Box w3 (w.heap.size + 1) 29 #[.int .i64 k', .int .i64 n', .string t']) := D2.out.belowS hb
  have X3 : Hid (Box w3 (w.heap.size + 2) 29 #[.int .i64 0, .int .i64 0, .string ⟨#[]⟩]) := X2.out.belowS hb
  clear hb q0 q1 q2 p0 p1 p2 x0 x1 x2 t0 t1 t2
  obtain ⟨q0, q1, q2⟩ := box3 A3.out
  obtain ⟨p0, p1, p2⟩ := box3 D3.out
  obtain ⟨x0, x1, x2⟩ := box3 X3.out
  have t0 := X3.out.thaw 0
  have t1 := X3.out.thaw 1
  have t2 := X3.out.thaw 2
  go_wp2
  refine ret32 Tryd.results75 rfl rfl rfl (put3_box X3.out _ _ _) ⟨?_, put3_below B3.out (by omega) _ _ _⟩
  rw [E.out]
  rfl
set_option maxRecDepth 100000 in
set_option maxHeartbeats 2000000 in
theorem c_binV_aR (op : Int) (k n : Int) (t : ByteArray) (k' n' : Int) (t' : ByteArray) (w : World) (e1 : (k == 2 || k' == 2) = false) (d1 : decB op k n = false) (d2 : decB op k' n' = false) (z : (k == 0 || k' == 0) = false) (kk : (k != k') = false) (o12 : (op == 12) = false) (o13 : (op == 13) = false) (o10 : (op == 10) = false) (o11 : (op == 11) = false) (g0 : 6 ≤ op) (g1 : op ≤ 9) (g2 : -1000000000 ≤ n) (g3 : n ≤ 1000000000) (g4 : -1000000000 ≤ n') (g5 : n' ≤ 1000000000) (E : Hid (binR op k n t k' n' t' = reckB op n n')) :
    Calls Tryd.prog 75 #[.int .i64 op, .agg #[.int .i64 k, .int .i64 n, .string t], .agg #[.int .i64 k', .int .i64 n', .string t']] w fun e w' => e = .returned (.tuple #[.agg #[.int .i64 (binR op k n t k' n' t').k, .int .i64 (binR op k n t k' n' t').n, .string ⟨#[]⟩], .int .i64 (binR op k n t k' n' t').c]) ∧ Below w.heap.size w w' := by
  obtain ⟨w0, hV0⟩ : ∃ V, ((w.alloc (.cells #[.int .i64 k, .int .i64 n, .string t] 29)).alloc (.cells #[.int .i64 k', .int .i64 n', .string t'] 29)).alloc (.cells #[.int .i64 0, .int .i64 0, .string ⟨#[]⟩] 29) = V := ⟨_, rfl⟩
  have B0 : Hid (Below w.heap.size w w0) := by unfold Hid; rw [← hV0]; exact (((Below.refl _ _).alloc (Nat.le_refl _) _).alloc (by simp) _).alloc (by simp; omega) _
  have A0 : Hid (Box w0 w.heap.size 29 #[.int .i64 k, .int .i64 n, .string t]) := by unfold Hid; rw [← hV0]; exact ((Box.new _ _ _).alloc _).alloc _
  have D0 : Hid (Box w0 (w.heap.size + 1) 29 #[.int .i64 k', .int .i64 n', .string t']) := by unfold Hid; rw [← hV0]; exact (Box.new2 _ _ _ _).alloc _
  have X0 : Hid (Box w0 (w.heap.size + 2) 29 #[.int .i64 0, .int .i64 0, .string ⟨#[]⟩]) := by unfold Hid; rw [← hV0]; have := Box.new2 (w.alloc (.cells #[.int .i64 k, .int .i64 n, .string t] 29)) (.cells #[.int .i64 k', .int .i64 n', .string t'] 29) #[.int .i64 0, .int .i64 0, .string ⟨#[]⟩] 29; simpa using this
  obtain ⟨q0, q1, q2⟩ := box3 A0.out
  obtain ⟨p0, p1, p2⟩ := box3 D0.out
  obtain ⟨x0, x1, x2⟩ := box3 X0.out
  have t0 := X0.out.thaw 0
  have t1 := X0.out.thaw 1
  have t2 := X0.out.thaw 2
  go_enter Tryd.func75, Tryd.ntmps75
  go_wp2_with fail
  refine (c_has 2 k k' _ _ w0 q0 p0).mono ?_
  rintro e w' ⟨rfl, rfl⟩
  go_wp2_with fail
  refine (c_dec op k n t _).mono ?_
  rintro e w1 ⟨rfl, hb⟩
  have B1 : Hid (Below w.heap.size w w1) := B0.out.trans (hb.mono B0.out.size)
  have A1 : Hid (Box w1 w.heap.size 29 #[.int .i64 k, .int .i64 n, .string t]) := A0.out.belowS hb
  have D1 : Hid (Box w1 (w.heap.size + 1) 29 #[.int .i64 k', .int .i64 n', .string t']) := D0.out.belowS hb
  have X1 : Hid (Box w1 (w.heap.size + 2) 29 #[.int .i64 0, .int .i64 0, .string ⟨#[]⟩]) := X0.out.belowS hb
  clear hb q0 q1 q2 p0 p1 p2 x0 x1 x2 t0 t1 t2
  obtain ⟨q0, q1, q2⟩ := box3 A1.out
  obtain ⟨p0, p1, p2⟩ := box3 D1.out
  obtain ⟨x0, x1, x2⟩ := box3 X1.out
  have t0 := X1.out.thaw 0
  have t1 := X1.out.thaw 1
  have t2 := X1.out.thaw 2
  go_wp2_with fail
  refine (c_dec op k' n' t' _).mono ?_
  rintro e w2 ⟨rfl, hb⟩
  have B2 : Hid (Below w.heap.size w w2) := B1.out.trans (hb.mono B1.out.size)
  have A2 : Hid (Box w2 w.heap.size 29 #[.int .i64 k, .int .i64 n, .string t]) := A1.out.belowS hb
  have D2 : Hid (Box w2 (w.heap.size + 1) 29 #[.int .i64 k', .int .i64 n', .string t']) := D1.out.belowS hb
  have X2 : Hid (Box w2 (w.heap.size + 2) 29 #[.int .i64 0, .int .i64 0, .string ⟨#[]⟩]) := X1.out.belowS hb
  clear hb q0 q1 q2 p0 p1 p2 x0 x1 x2 t0 t1 t2
  obtain ⟨q0, q1, q2⟩ := box3 A2.out
  obtain ⟨p0, p1, p2⟩ := box3 D2.out
  obtain ⟨x0, x1, x2⟩ := box3 X2.out
  have t0 := X2.out.thaw 0
  have t1 := X2.out.thaw 1
  have t2 := X2.out.thaw 2
  go_wp2_with fail
  refine (c_has 0 k k' _ _ w2 q0 p0).mono ?_
  rintro e w' ⟨rfl, rfl⟩
  go_wp2_with fail
  refine (c_reck op n n' _ g0 g1 g2 g3 g4 g5).mono ?_
  rintro e w3 ⟨rfl, hb⟩
  have B3 : Hid (Below w.heap.size w w3) := B2.out.trans (hb.mono B2.out.size)
  have A3 : Hid (Box w3 w.heap.size 29 #[.int .i64 k, .int .i64 n, .string t]) := A2.out.belowS hb
  have D3 : Hid (Box w3 (w.heap.size + 1) 29 #[.int .i64 k', .int .i64 n', .string t']) := D2.out.belowS hb
  have X3 : Hid (Box w3 (w.heap.size + 2) 29 #[.int .i64 0, .int .i64 0, .string ⟨#[]⟩]) := X2.out.belowS hb
  clear hb q0 q1 q2 p0 p1 p2 x0 x1 x2 t0 t1 t2
  obtain ⟨q0, q1, q2⟩ := box3 A3.out
  obtain ⟨p0, p1, p2⟩ := box3 D3.out
  obtain ⟨x0, x1, x2⟩ := box3 X3.out
  have t0 := X3.out.thaw 0
  have t1 := X3.out.thaw 1
  have t2 := X3.out.thaw 2
  go_wp2
  refine ret32 Tryd.results75 rfl rfl rfl (put3_box X3.out _ _ _) ⟨?_, put3_below B3.out (by omega) _ _ _⟩
  rw [E.out]
  rfl
set_option maxRecDepth 100000 in
set_option maxHeartbeats 2000000 in
theorem c_binV_aQ (op : Int) (k n : Int) (t : ByteArray) (k' n' : Int) (t' : ByteArray) (w : World) (e1 : (k == 2 || k' == 2) = false) (d1 : decB op k n = false) (d2 : decB op k' n' = false) (z : (k == 0 || k' == 0) = false) (kk : (k != k') = false) (ke : (k == k') = true) (o12 : (op == 12) = false) (o13 : (op == 13) = false) (o10 : (op == 10) = true) (ne : (n == n') = false) (E : Hid (binR op k n t k' n' t' = ⟨1, 0, 0⟩)) :
    Calls Tryd.prog 75 #[.int .i64 op, .agg #[.int .i64 k, .int .i64 n, .string t], .agg #[.int .i64 k', .int .i64 n', .string t']] w fun e w' => e = .returned (.tuple #[.agg #[.int .i64 (binR op k n t k' n' t').k, .int .i64 (binR op k n t k' n' t').n, .string ⟨#[]⟩], .int .i64 (binR op k n t k' n' t').c]) ∧ Below w.heap.size w w' := by
  obtain ⟨w0, hV0⟩ : ∃ V, ((w.alloc (.cells #[.int .i64 k, .int .i64 n, .string t] 29)).alloc (.cells #[.int .i64 k', .int .i64 n', .string t'] 29)).alloc (.cells #[.int .i64 0, .int .i64 0, .string ⟨#[]⟩] 29) = V := ⟨_, rfl⟩
  have B0 : Hid (Below w.heap.size w w0) := by unfold Hid; rw [← hV0]; exact (((Below.refl _ _).alloc (Nat.le_refl _) _).alloc (by simp) _).alloc (by simp; omega) _
  have A0 : Hid (Box w0 w.heap.size 29 #[.int .i64 k, .int .i64 n, .string t]) := by unfold Hid; rw [← hV0]; exact ((Box.new _ _ _).alloc _).alloc _
  have D0 : Hid (Box w0 (w.heap.size + 1) 29 #[.int .i64 k', .int .i64 n', .string t']) := by unfold Hid; rw [← hV0]; exact (Box.new2 _ _ _ _).alloc _
  have X0 : Hid (Box w0 (w.heap.size + 2) 29 #[.int .i64 0, .int .i64 0, .string ⟨#[]⟩]) := by unfold Hid; rw [← hV0]; have := Box.new2 (w.alloc (.cells #[.int .i64 k, .int .i64 n, .string t] 29)) (.cells #[.int .i64 k', .int .i64 n', .string t'] 29) #[.int .i64 0, .int .i64 0, .string ⟨#[]⟩] 29; simpa using this
  obtain ⟨q0, q1, q2⟩ := box3 A0.out
  obtain ⟨p0, p1, p2⟩ := box3 D0.out
  obtain ⟨x0, x1, x2⟩ := box3 X0.out
  have t0 := X0.out.thaw 0
  have t1 := X0.out.thaw 1
  have t2 := X0.out.thaw 2
  go_enter Tryd.func75, Tryd.ntmps75
  go_wp2_with fail
  refine (c_has 2 k k' _ _ w0 q0 p0).mono ?_
  rintro e w' ⟨rfl, rfl⟩
  go_wp2_with fail
  refine (c_dec op k n t _).mono ?_
  rintro e w1 ⟨rfl, hb⟩
  have B1 : Hid (Below w.heap.size w w1) := B0.out.trans (hb.mono B0.out.size)
  have A1 : Hid (Box w1 w.heap.size 29 #[.int .i64 k, .int .i64 n, .string t]) := A0.out.belowS hb
  have D1 : Hid (Box w1 (w.heap.size + 1) 29 #[.int .i64 k', .int .i64 n', .string t']) := D0.out.belowS hb
  have X1 : Hid (Box w1 (w.heap.size + 2) 29 #[.int .i64 0, .int .i64 0, .string ⟨#[]⟩]) := X0.out.belowS hb
  clear hb q0 q1 q2 p0 p1 p2 x0 x1 x2 t0 t1 t2
  obtain ⟨q0, q1, q2⟩ := box3 A1.out
  obtain ⟨p0, p1, p2⟩ := box3 D1.out
  obtain ⟨x0, x1, x2⟩ := box3 X1.out
  have t0 := X1.out.thaw 0
  have t1 := X1.out.thaw 1
  have t2 := X1.out.thaw 2
  go_wp2_with fail
  refine (c_dec op k' n' t' _).mono ?_
  rintro e w2 ⟨rfl, hb⟩
  have B2 : Hid (Below w.heap.size w w2) := B1.out.trans (hb.mono B1.out.size)
  have A2 : Hid (Box w2 w.heap.size 29 #[.int .i64 k, .int .i64 n, .string t]) := A1.out.belowS hb
  have D2 : Hid (Box w2 (w.heap.size + 1) 29 #[.int .i64 k', .int .i64 n', .string t']) := D1.out.belowS hb
  have X2 : Hid (Box w2 (w.heap.size + 2) 29 #[.int .i64 0, .int .i64 0, .string ⟨#[]⟩]) := X1.out.belowS hb
  clear hb q0 q1 q2 p0 p1 p2 x0 x1 x2 t0 t1 t2
  obtain ⟨q0, q1, q2⟩ := box3 A2.out
  obtain ⟨p0, p1, p2⟩ := box3 D2.out
  obtain ⟨x0, x1, x2⟩ := box3 X2.out
  have t0 := X2.out.thaw 0
  have t1 := X2.out.thaw 1
  have t2 := X2.out.thaw 2
  go_wp2_with fail
  refine (c_has 0 k k' _ _ w2 q0 p0).mono ?_
  rintro e w' ⟨rfl, rfl⟩
  go_wp2_with fail
  refine (c_truth false _).mono ?_
  rintro e w3 ⟨rfl, hb⟩
  have B3 : Hid (Below w.heap.size w w3) := B2.out.trans (hb.mono B2.out.size)
  have A3 : Hid (Box w3 w.heap.size 29 #[.int .i64 k, .int .i64 n, .string t]) := A2.out.belowS hb
  have D3 : Hid (Box w3 (w.heap.size + 1) 29 #[.int .i64 k', .int .i64 n', .string t']) := D2.out.belowS hb
  have X3 : Hid (Box w3 (w.heap.size + 2) 29 #[.int .i64 0, .int .i64 0, .string ⟨#[]⟩]) := X2.out.belowS hb
  clear hb q0 q1 q2 p0 p1 p2 x0 x1 x2 t0 t1 t2
  obtain ⟨q0, q1, q2⟩ := box3 A3.out
  obtain ⟨p0, p1, p2⟩ := box3 D3.out
  obtain ⟨x0, x1, x2⟩ := box3 X3.out
  have t0 := X3.out.thaw 0
  have t1 := X3.out.thaw 1
  have t2 := X3.out.thaw 2
  go_wp2
  refine ret32 Tryd.results75 rfl rfl rfl (put3_box X3.out _ _ _) ⟨?_, put3_below B3.out (by omega) _ _ _⟩
  rw [E.out]
  rfl
set_option maxRecDepth 100000 in
set_option maxHeartbeats 2000000 in
theorem c_binV_aU (op : Int) (k n : Int) (t : ByteArray) (k' n' : Int) (t' : ByteArray) (w : World) (e1 : (k == 2 || k' == 2) = false) (d1 : decB op k n = false) (d2 : decB op k' n' = false) (z : (k == 0 || k' == 0) = false) (kk : (k != k') = false) (ke : (k == k') = true) (o12 : (op == 12) = false) (o13 : (op == 13) = false) (o10 : (op == 10) = true) (ne : (n == n') = true) (te : (t.toList == t'.toList) = false) (E : Hid (binR op k n t k' n' t' = ⟨1, 0, 0⟩)) :
    Calls Tryd.prog 75 #[.int .i64 op, .agg #[.int .i64 k, .int .i64 n, .string t], .agg #[.int .i64 k', .int .i64 n', .string t']] w fun e w' => e = .returned (.tuple #[.agg #[.int .i64 (binR op k n t k' n' t').k, .int .i64 (binR op k n t k' n' t').n, .string ⟨#[]⟩], .int .i64 (binR op k n t k' n' t').c]) ∧ Below w.heap.size w w' := by
  obtain ⟨w0, hV0⟩ : ∃ V, ((w.alloc (.cells #[.int .i64 k, .int .i64 n, .string t] 29)).alloc (.cells #[.int .i64 k', .int .i64 n', .string t'] 29)).alloc (.cells #[.int .i64 0, .int .i64 0, .string ⟨#[]⟩] 29) = V := ⟨_, rfl⟩
  have B0 : Hid (Below w.heap.size w w0) := by unfold Hid; rw [← hV0]; exact (((Below.refl _ _).alloc (Nat.le_refl _) _).alloc (by simp) _).alloc (by simp; omega) _
  have A0 : Hid (Box w0 w.heap.size 29 #[.int .i64 k, .int .i64 n, .string t]) := by unfold Hid; rw [← hV0]; exact ((Box.new _ _ _).alloc _).alloc _
  have D0 : Hid (Box w0 (w.heap.size + 1) 29 #[.int .i64 k', .int .i64 n', .string t']) := by unfold Hid; rw [← hV0]; exact (Box.new2 _ _ _ _).alloc _
  have X0 : Hid (Box w0 (w.heap.size + 2) 29 #[.int .i64 0, .int .i64 0, .string ⟨#[]⟩]) := by unfold Hid; rw [← hV0]; have := Box.new2 (w.alloc (.cells #[.int .i64 k, .int .i64 n, .string t] 29)) (.cells #[.int .i64 k', .int .i64 n', .string t'] 29) #[.int .i64 0, .int .i64 0, .string ⟨#[]⟩] 29; simpa using this
  obtain ⟨q0, q1, q2⟩ := box3 A0.out
  obtain ⟨p0, p1, p2⟩ := box3 D0.out
  obtain ⟨x0, x1, x2⟩ := box3 X0.out
  have t0 := X0.out.thaw 0
  have t1 := X0.out.thaw 1
  have t2 := X0.out.thaw 2
  go_enter Tryd.func75, Tryd.ntmps75
  go_wp2_with fail
  refine (c_has 2 k k' _ _ w0 q0 p0).mono ?_
  rintro e w' ⟨rfl, rfl⟩
  go_wp2_with fail
  refine (c_dec op k n t _).mono ?_
  rintro e w1 ⟨rfl, hb⟩
  have B1 : Hid (Below w.heap.size w w1) := B0.out.trans (hb.mono B0.out.size)
  have A1 : Hid (Box w1 w.heap.size 29 #[.int .i64 k, .int .i64 n, .string t]) := A0.out.belowS hb
  have D1 : Hid (Box w1 (w.heap.size + 1) 29 #[.int .i64 k', .int .i64 n', .string t']) := D0.out.belowS hb
  have X1 : Hid (Box w1 (w.heap.size + 2) 29 #[.int .i64 0, .int .i64 0, .string ⟨#[]⟩]) := X0.out.belowS hb
  clear hb q0 q1 q2 p0 p1 p2 x0 x1 x2 t0 t1 t2
  obtain ⟨q0, q1, q2⟩ := box3 A1.out
  obtain ⟨p0, p1, p2⟩ := box3 D1.out
  obtain ⟨x0, x1, x2⟩ := box3 X1.out
  have t0 := X1.out.thaw 0
  have t1 := X1.out.thaw 1
  have t2 := X1.out.thaw 2
  go_wp2_with fail
  refine (c_dec op k' n' t' _).mono ?_
  rintro e w2 ⟨rfl, hb⟩
  have B2 : Hid (Below w.heap.size w w2) := B1.out.trans (hb.mono B1.out.size)
  have A2 : Hid (Box w2 w.heap.size 29 #[.int .i64 k, .int .i64 n, .string t]) := A1.out.belowS hb
  have D2 : Hid (Box w2 (w.heap.size + 1) 29 #[.int .i64 k', .int .i64 n', .string t']) := D1.out.belowS hb
  have X2 : Hid (Box w2 (w.heap.size + 2) 29 #[.int .i64 0, .int .i64 0, .string ⟨#[]⟩]) := X1.out.belowS hb
  clear hb q0 q1 q2 p0 p1 p2 x0 x1 x2 t0 t1 t2
  obtain ⟨q0, q1, q2⟩ := box3 A2.out
  obtain ⟨p0, p1, p2⟩ := box3 D2.out
  obtain ⟨x0, x1, x2⟩ := box3 X2.out
  have t0 := X2.out.thaw 0
  have t1 := X2.out.thaw 1
  have t2 := X2.out.thaw 2
  go_wp2_with fail
  refine (c_has 0 k k' _ _ w2 q0 p0).mono ?_
  rintro e w' ⟨rfl, rfl⟩
  go_wp2_with fail
  refine (c_truth false _).mono ?_
  rintro e w3 ⟨rfl, hb⟩
  have B3 : Hid (Below w.heap.size w w3) := B2.out.trans (hb.mono B2.out.size)
  have A3 : Hid (Box w3 w.heap.size 29 #[.int .i64 k, .int .i64 n, .string t]) := A2.out.belowS hb
  have D3 : Hid (Box w3 (w.heap.size + 1) 29 #[.int .i64 k', .int .i64 n', .string t']) := D2.out.belowS hb
  have X3 : Hid (Box w3 (w.heap.size + 2) 29 #[.int .i64 0, .int .i64 0, .string ⟨#[]⟩]) := X2.out.belowS hb
  clear hb q0 q1 q2 p0 p1 p2 x0 x1 x2 t0 t1 t2
  obtain ⟨q0, q1, q2⟩ := box3 A3.out
  obtain ⟨p0, p1, p2⟩ := box3 D3.out
  obtain ⟨x0, x1, x2⟩ := box3 X3.out
  have t0 := X3.out.thaw 0
  have t1 := X3.out.thaw 1
  have t2 := X3.out.thaw 2
  go_wp2
  refine ret32 Tryd.results75 rfl rfl rfl (put3_box X3.out _ _ _) ⟨?_, put3_below B3.out (by omega) _ _ _⟩
  rw [E.out]
  rfl
set_option maxRecDepth 100000 in
set_option maxHeartbeats 2000000 in
theorem c_binV_aV (op : Int) (k n : Int) (t : ByteArray) (k' n' : Int) (t' : ByteArray) (w : World) (e1 : (k == 2 || k' == 2) = false) (d1 : decB op k n = false) (d2 : decB op k' n' = false) (z : (k == 0 || k' == 0) = false) (kk : (k != k') = false) (ke : (k == k') = true) (o12 : (op == 12) = false) (o13 : (op == 13) = false) (o10 : (op == 10) = true) (ne : (n == n') = true) (te : (t.toList == t'.toList) = true) (E : Hid (binR op k n t k' n' t' = ⟨1, 1, 0⟩)) :
    Calls Tryd.prog 75 #[.int .i64 op, .agg #[.int .i64 k, .int .i64 n, .string t], .agg #[.int .i64 k', .int .i64 n', .string t']] w fun e w' => e = .returned (.tuple #[.agg #[.int .i64 (binR op k n t k' n' t').k, .int .i64 (binR op k n t k' n' t').n, .string ⟨#[]⟩], .int .i64 (binR op k n t k' n' t').c]) ∧ Below w.heap.size w w' := by
  obtain ⟨w0, hV0⟩ : ∃ V, ((w.alloc (.cells #[.int .i64 k, .int .i64 n, .string t] 29)).alloc (.cells #[.int .i64 k', .int .i64 n', .string t'] 29)).alloc (.cells #[.int .i64 0, .int .i64 0, .string ⟨#[]⟩] 29) = V := ⟨_, rfl⟩
  have B0 : Hid (Below w.heap.size w w0) := by unfold Hid; rw [← hV0]; exact (((Below.refl _ _).alloc (Nat.le_refl _) _).alloc (by simp) _).alloc (by simp; omega) _
  have A0 : Hid (Box w0 w.heap.size 29 #[.int .i64 k, .int .i64 n, .string t]) := by unfold Hid; rw [← hV0]; exact ((Box.new _ _ _).alloc _).alloc _
  have D0 : Hid (Box w0 (w.heap.size + 1) 29 #[.int .i64 k', .int .i64 n', .string t']) := by unfold Hid; rw [← hV0]; exact (Box.new2 _ _ _ _).alloc _
  have X0 : Hid (Box w0 (w.heap.size + 2) 29 #[.int .i64 0, .int .i64 0, .string ⟨#[]⟩]) := by unfold Hid; rw [← hV0]; have := Box.new2 (w.alloc (.cells #[.int .i64 k, .int .i64 n, .string t] 29)) (.cells #[.int .i64 k', .int .i64 n', .string t'] 29) #[.int .i64 0, .int .i64 0, .string ⟨#[]⟩] 29; simpa using this
  obtain ⟨q0, q1, q2⟩ := box3 A0.out
  obtain ⟨p0, p1, p2⟩ := box3 D0.out
  obtain ⟨x0, x1, x2⟩ := box3 X0.out
  have t0 := X0.out.thaw 0
  have t1 := X0.out.thaw 1
  have t2 := X0.out.thaw 2
  go_enter Tryd.func75, Tryd.ntmps75
  go_wp2_with fail
  refine (c_has 2 k k' _ _ w0 q0 p0).mono ?_
  rintro e w' ⟨rfl, rfl⟩
  go_wp2_with fail
  refine (c_dec op k n t _).mono ?_
  rintro e w1 ⟨rfl, hb⟩
  have B1 : Hid (Below w.heap.size w w1) := B0.out.trans (hb.mono B0.out.size)
  have A1 : Hid (Box w1 w.heap.size 29 #[.int .i64 k, .int .i64 n, .string t]) := A0.out.belowS hb
  have D1 : Hid (Box w1 (w.heap.size + 1) 29 #[.int .i64 k', .int .i64 n', .string t']) := D0.out.belowS hb
  have X1 : Hid (Box w1 (w.heap.size + 2) 29 #[.int .i64 0, .int .i64 0, .string ⟨#[]⟩]) := X0.out.belowS hb
  clear hb q0 q1 q2 p0 p1 p2 x0 x1 x2 t0 t1 t2
  obtain ⟨q0, q1, q2⟩ := box3 A1.out
  obtain ⟨p0, p1, p2⟩ := box3 D1.out
  obtain ⟨x0, x1, x2⟩ := box3 X1.out
  have t0 := X1.out.thaw 0
  have t1 := X1.out.thaw 1
  have t2 := X1.out.thaw 2
  go_wp2_with fail
  refine (c_dec op k' n' t' _).mono ?_
  rintro e w2 ⟨rfl, hb⟩
  have B2 : Hid (Below w.heap.size w w2) := B1.out.trans (hb.mono B1.out.size)
  have A2 : Hid (Box w2 w.heap.size 29 #[.int .i64 k, .int .i64 n, .string t]) := A1.out.belowS hb
  have D2 : Hid (Box w2 (w.heap.size + 1) 29 #[.int .i64 k', .int .i64 n', .string t']) := D1.out.belowS hb
  have X2 : Hid (Box w2 (w.heap.size + 2) 29 #[.int .i64 0, .int .i64 0, .string ⟨#[]⟩]) := X1.out.belowS hb
  clear hb q0 q1 q2 p0 p1 p2 x0 x1 x2 t0 t1 t2
  obtain ⟨q0, q1, q2⟩ := box3 A2.out
  obtain ⟨p0, p1, p2⟩ := box3 D2.out
  obtain ⟨x0, x1, x2⟩ := box3 X2.out
  have t0 := X2.out.thaw 0
  have t1 := X2.out.thaw 1
  have t2 := X2.out.thaw 2
  go_wp2_with fail
  refine (c_has 0 k k' _ _ w2 q0 p0).mono ?_
  rintro e w' ⟨rfl, rfl⟩
  go_wp2_with fail
  refine (c_truth true _).mono ?_
  rintro e w3 ⟨rfl, hb⟩
  have B3 : Hid (Below w.heap.size w w3) := B2.out.trans (hb.mono B2.out.size)
  have A3 : Hid (Box w3 w.heap.size 29 #[.int .i64 k, .int .i64 n, .string t]) := A2.out.belowS hb
  have D3 : Hid (Box w3 (w.heap.size + 1) 29 #[.int .i64 k', .int .i64 n', .string t']) := D2.out.belowS hb
  have X3 : Hid (Box w3 (w.heap.size + 2) 29 #[.int .i64 0, .int .i64 0, .string ⟨#[]⟩]) := X2.out.belowS hb
  clear hb q0 q1 q2 p0 p1 p2 x0 x1 x2 t0 t1 t2
  obtain ⟨q0, q1, q2⟩ := box3 A3.out
  obtain ⟨p0, p1, p2⟩ := box3 D3.out
  obtain ⟨x0, x1, x2⟩ := box3 X3.out
  have t0 := X3.out.thaw 0
  have t1 := X3.out.thaw 1
  have t2 := X3.out.thaw 2
  go_wp2
  refine ret32 Tryd.results75 rfl rfl rfl (put3_box X3.out _ _ _) ⟨?_, put3_below B3.out (by omega) _ _ _⟩
  rw [E.out]
  rfl
set_option maxRecDepth 100000 in
set_option maxHeartbeats 2000000 in
theorem c_binV_aL (op : Int) (k n : Int) (t : ByteArray) (k' n' : Int) (t' : ByteArray) (w : World) (e1 : (k == 2 || k' == 2) = false) (d1 : decB op k n = false) (d2 : decB op k' n' = false) (z : (k == 0 || k' == 0) = false) (kk : (k != k') = false) (o12 : (op == 12) = false) (o13 : (op == 13) = false) (o10 : (op == 10) = false) (o11 : (op == 11) = true) (E : Hid (binR op k n t k' n' t' = ⟨1, trI (decide (cmpV k n t k' n' t' < 0)), 0⟩)) :
    Calls Tryd.prog 75 #[.int .i64 op, .agg #[.int .i64 k, .int .i64 n, .string t], .agg #[.int .i64 k', .int .i64 n', .string t']] w fun e w' => e = .returned (.tuple #[.agg #[.int .i64 (binR op k n t k' n' t').k, .int .i64 (binR op k n t k' n' t').n, .string ⟨#[]⟩], .int .i64 (binR op k n t k' n' t').c]) ∧ Below w.heap.size w w' := by
  obtain ⟨w0, hV0⟩ : ∃ V, ((w.alloc (.cells #[.int .i64 k, .int .i64 n, .string t] 29)).alloc (.cells #[.int .i64 k', .int .i64 n', .string t'] 29)).alloc (.cells #[.int .i64 0, .int .i64 0, .string ⟨#[]⟩] 29) = V := ⟨_, rfl⟩
  have B0 : Hid (Below w.heap.size w w0) := by unfold Hid; rw [← hV0]; exact (((Below.refl _ _).alloc (Nat.le_refl _) _).alloc (by simp) _).alloc (by simp; omega) _
  have A0 : Hid (Box w0 w.heap.size 29 #[.int .i64 k, .int .i64 n, .string t]) := by unfold Hid; rw [← hV0]; exact ((Box.new _ _ _).alloc _).alloc _
  have D0 : Hid (Box w0 (w.heap.size + 1) 29 #[.int .i64 k', .int .i64 n', .string t']) := by unfold Hid; rw [← hV0]; exact (Box.new2 _ _ _ _).alloc _
  have X0 : Hid (Box w0 (w.heap.size + 2) 29 #[.int .i64 0, .int .i64 0, .string ⟨#[]⟩]) := by unfold Hid; rw [← hV0]; have := Box.new2 (w.alloc (.cells #[.int .i64 k, .int .i64 n, .string t] 29)) (.cells #[.int .i64 k', .int .i64 n', .string t'] 29) #[.int .i64 0, .int .i64 0, .string ⟨#[]⟩] 29; simpa using this
  obtain ⟨q0, q1, q2⟩ := box3 A0.out
  obtain ⟨p0, p1, p2⟩ := box3 D0.out
  obtain ⟨x0, x1, x2⟩ := box3 X0.out
  have t0 := X0.out.thaw 0
  have t1 := X0.out.thaw 1
  have t2 := X0.out.thaw 2
  go_enter Tryd.func75, Tryd.ntmps75
  go_wp2_with fail
  refine (c_has 2 k k' _ _ w0 q0 p0).mono ?_
  rintro e w' ⟨rfl, rfl⟩
  go_wp2_with fail
  refine (c_dec op k n t _).mono ?_
  rintro e w1 ⟨rfl, hb⟩
  have B1 : Hid (Below w.heap.size w w1) := B0.out.trans (hb.mono B0.out.size)
  have A1 : Hid (Box w1 w.heap.size 29 #[.int .i64 k, .int .i64 n, .string t]) := A0.out.belowS hb
  have D1 : Hid (Box w1 (w.heap.size + 1) 29 #[.int .i64 k', .int .i64 n', .string t']) := D0.out.belowS hb
  have X1 : Hid (Box w1 (w.heap.size + 2) 29 #[.int .i64 0, .int .i64 0, .string ⟨#[]⟩]) := X0.out.belowS hb
  clear hb q0 q1 q2 p0 p1 p2 x0 x1 x2 t0 t1 t2
  obtain ⟨q0, q1, q2⟩ := box3 A1.out
  obtain ⟨p0, p1, p2⟩ := box3 D1.out
  obtain ⟨x0, x1, x2⟩ := box3 X1.out
  have t0 := X1.out.thaw 0
  have t1 := X1.out.thaw 1
  have t2 := X1.out.thaw 2
  go_wp2_with fail
  refine (c_dec op k' n' t' _).mono ?_
  rintro e w2 ⟨rfl, hb⟩
  have B2 : Hid (Below w.heap.size w w2) := B1.out.trans (hb.mono B1.out.size)
  have A2 : Hid (Box w2 w.heap.size 29 #[.int .i64 k, .int .i64 n, .string t]) := A1.out.belowS hb
  have D2 : Hid (Box w2 (w.heap.size + 1) 29 #[.int .i64 k', .int .i64 n', .string t']) := D1.out.belowS hb
  have X2 : Hid (Box w2 (w.heap.size + 2) 29 #[.int .i64 0, .int .i64 0, .string ⟨#[]⟩]) := X1.out.belowS hb
  clear hb q0 q1 q2 p0 p1 p2 x0 x1 x2 t0 t1 t2
  obtain ⟨q0, q1, q2⟩ := box3 A2.out
  obtain ⟨p0, p1, p2⟩ := box3 D2.out
  obtain ⟨x0, x1, x2⟩ := box3 X2.out
  have t0 := X2.out.thaw 0
  have t1 := X2.out.thaw 1
  have t2 := X2.out.thaw 2
  go_wp2_with fail
  refine (c_has 0 k k' _ _ w2 q0 p0).mono ?_
  rintro e w' ⟨rfl, rfl⟩
  go_wp2_with fail
  refine (c_cmpR k n t k' n' t' _).mono ?_
  rintro e w3 ⟨rfl, hb⟩
  have B3 : Hid (Below w.heap.size w w3) := B2.out.trans (hb.mono B2.out.size)
  have A3 : Hid (Box w3 w.heap.size 29 #[.int .i64 k, .int .i64 n, .string t]) := A2.out.belowS hb
  have D3 : Hid (Box w3 (w.heap.size + 1) 29 #[.int .i64 k', .int .i64 n', .string t']) := D2.out.belowS hb
  have X3 : Hid (Box w3 (w.heap.size + 2) 29 #[.int .i64 0, .int .i64 0, .string ⟨#[]⟩]) := X2.out.belowS hb
  clear hb q0 q1 q2 p0 p1 p2 x0 x1 x2 t0 t1 t2
  obtain ⟨q0, q1, q2⟩ := box3 A3.out
  obtain ⟨p0, p1, p2⟩ := box3 D3.out
  obtain ⟨x0, x1, x2⟩ := box3 X3.out
  have t0 := X3.out.thaw 0
  have t1 := X3.out.thaw 1
  have t2 := X3.out.thaw 2
  go_wp2_with fail
  refine (c_truth (decide (cmpV k n t k' n' t' < 0)) _).mono ?_
  rintro e w4 ⟨rfl, hb⟩
  have B4 : Hid (Below w.heap.size w w4) := B3.out.trans (hb.mono B3.out.size)
  have A4 : Hid (Box w4 w.heap.size 29 #[.int .i64 k, .int .i64 n, .string t]) := A3.out.belowS hb
  have D4 : Hid (Box w4 (w.heap.size + 1) 29 #[.int .i64 k', .int .i64 n', .string t']) := D3.out.belowS hb
  have X4 : Hid (Box w4 (w.heap.size + 2) 29 #[.int .i64 0, .int .i64 0, .string ⟨#[]⟩]) := X3.out.belowS hb
  clear hb q0 q1 q2 p0 p1 p2 x0 x1 x2 t0 t1 t2
  obtain ⟨q0, q1, q2⟩ := box3 A4.out
  obtain ⟨p0, p1, p2⟩ := box3 D4.out
  obtain ⟨x0, x1, x2⟩ := box3 X4.out
  have t0 := X4.out.thaw 0
  have t1 := X4.out.thaw 1
  have t2 := X4.out.thaw 2
  go_wp2
  refine ret32 Tryd.results75 rfl rfl rfl (put3_box X4.out _ _ _) ⟨?_, put3_below B4.out (by omega) _ _ _⟩
  rw [E.out]
  rfl
set_option maxRecDepth 100000 in
set_option maxHeartbeats 2000000 in
theorem c_binV_bN (op : Int) (k n : Int) (t : ByteArray) (k' n' : Int) (t' : ByteArray) (w : World) (e1 : (k == 2 || k' == 2) = true) (n10 : (op != 10) = false) (d1 : decB op k n = false) (d2 : decB op k' n' = false) (z : (k == 0 || k' == 0) = true) (E : Hid (binR op k n t k' n' t' = ⟨0, 0, 0⟩)) :
    Calls Tryd.prog 75 #[.int .i64 op, .agg #[.int .i64 k, .int .i64 n, .string t], .agg #[.int .i64 k', .int .i64 n', .string t']] w fun e w' => e = .returned (.tuple #[.agg #[.int .i64 (binR op k n t k' n' t').k, .int .i64 (binR op k n t k' n' t').n, .string ⟨#[]⟩], .int .i64 (binR op k n t k' n' t').c]) ∧ Below w.heap.size w w' := by
  obtain ⟨w0, hV0⟩ : ∃ V, ((w.alloc (.cells #[.int .i64 k, .int .i64 n, .string t] 29)).alloc (.cells #[.int .i64 k', .int .i64 n', .string t'] 29)).alloc (.cells #[.int .i64 0, .int .i64 0, .string ⟨#[]⟩] 29) = V := ⟨_, rfl⟩
  have B0 : Hid (Below w.heap.size w w0) := by unfold Hid; rw [← hV0]; exact (((Below.refl _ _).alloc (Nat.le_refl _) _).alloc (by simp) _).alloc (by simp; omega) _
  have A0 : Hid (Box w0 w.heap.size 29 #[.int .i64 k, .int .i64 n, .string t]) := by unfold Hid; rw [← hV0]; exact ((Box.new _ _ _).alloc _).alloc _
  have D0 : Hid (Box w0 (w.heap.size + 1) 29 #[.int .i64 k', .int .i64 n', .string t']) := by unfold Hid; rw [← hV0]; exact (Box.new2 _ _ _ _).alloc _
  have X0 : Hid (Box w0 (w.heap.size + 2) 29 #[.int .i64 0, .int .i64 0, .string ⟨#[]⟩]) := by unfold Hid; rw [← hV0]; have := Box.new2 (w.alloc (.cells #[.int .i64 k, .int .i64 n, .string t] 29)) (.cells #[.int .i64 k', .int .i64 n', .string t'] 29) #[.int .i64 0, .int .i64 0, .string ⟨#[]⟩] 29; simpa using this
  obtain ⟨q0, q1, q2⟩ := box3 A0.out
  obtain ⟨p0, p1, p2⟩ := box3 D0.out
  obtain ⟨x0, x1, x2⟩ := box3 X0.out
  have t0 := X0.out.thaw 0
  have t1 := X0.out.thaw 1
  have t2 := X0.out.thaw 2
  go_enter Tryd.func75, Tryd.ntmps75
  go_wp2_with fail
  refine (c_has 2 k k' _ _ w0 q0 p0).mono ?_
  rintro e w' ⟨rfl, rfl⟩
  go_wp2_with fail
  refine (c_dec op k n t _).mono ?_
  rintro e w1 ⟨rfl, hb⟩
  have B1 : Hid (Below w.heap.size w w1) := B0.out.trans (hb.mono B0.out.size)
  have A1 : Hid (Box w1 w.heap.size 29 #[.int .i64 k, .int .i64 n, .string t]) := A0.out.belowS hb
  have D1 : Hid (Box w1 (w.heap.size + 1) 29 #[.int .i64 k', .int .i64 n', .string t']) := D0.out.belowS hb
  have X1 : Hid (Box w1 (w.heap.size + 2) 29 #[.int .i64 0, .int .i64 0, .string ⟨#[]⟩]) := X0.out.belowS hb
  clear hb q0 q1 q2 p0 p1 p2 x0 x1 x2 t0 t1 t2
  obtain ⟨q0, q1, q2⟩ := box3 A1.out
  obtain ⟨p0, p1, p2⟩ := box3 D1.out
  obtain ⟨x0, x1, x2⟩ := box3 X1.out
  have t0 := X1.out.thaw 0
  have t1 := X1.out.thaw 1
  have t2 := X1.out.thaw 2
  go_wp2_with fail
  refine (c_dec op k' n' t' _).mono ?_
  rintro e w2 ⟨rfl, hb⟩
  have B2 : Hid (Below w.heap.size w w2) := B1.out.trans (hb.mono B1.out.size)
  have A2 : Hid (Box w2 w.heap.size 29 #[.int .i64 k, .int .i64 n, .string t]) := A1.out.belowS hb
  have D2 : Hid (Box w2 (w.heap.size + 1) 29 #[.int .i64 k', .int .i64 n', .string t']) := D1.out.belowS hb
  have X2 : Hid (Box w2 (w.heap.size + 2) 29 #[.int .i64 0, .int .i64 0, .string ⟨#[]⟩]) := X1.out.belowS hb
  clear hb q0 q1 q2 p0 p1 p2 x0 x1 x2 t0 t1 t2
  obtain ⟨q0, q1, q2⟩ := box3 A2.out
  obtain ⟨p0, p1, p2⟩ := box3 D2.out
  obtain ⟨x0, x1, x2⟩ := box3 X2.out
  have t0 := X2.out.thaw 0
  have t1 := X2.out.thaw 1
  have t2 := X2.out.thaw 2
  go_wp2_with fail
  refine (c_has 0 k k' _ _ w2 q0 p0).mono ?_
  rintro e w' ⟨rfl, rfl⟩
  go_wp2
  refine ret32 Tryd.results75 rfl rfl rfl (put3_box X2.out _ _ _) ⟨?_, put3_below B2.out (by omega) _ _ _⟩
  rw [E.out]
  rfl
set_option maxRecDepth 100000 in
set_option maxHeartbeats 2000000 in
theorem c_binV_bK (op : Int) (k n : Int) (t : ByteArray) (k' n' : Int) (t' : ByteArray) (w : World) (e1 : (k == 2 || k' == 2) = true) (n10 : (op != 10) = false) (d1 : decB op k n = false) (d2 : decB op k' n' = false) (z : (k == 0 || k' == 0) = false) (kk : (k != k') = true) (E : Hid (binR op k n t k' n' t' = ⟨0, 0, 10⟩)) :
    Calls Tryd.prog 75 #[.int .i64 op, .agg #[.int .i64 k, .int .i64 n, .string t], .agg #[.int .i64 k', .int .i64 n', .string t']] w fun e w' => e = .returned (.tuple #[.agg #[.int .i64 (binR op k n t k' n' t').k, .int .i64 (binR op k n t k' n' t').n, .string ⟨#[]⟩], .int .i64 (binR op k n t k' n' t').c]) ∧ Below w.heap.size w w' := by
  obtain ⟨w0, hV0⟩ : ∃ V, ((w.alloc (.cells #[.int .i64 k, .int .i64 n, .string t] 29)).alloc (.cells #[.int .i64 k', .int .i64 n', .string t'] 29)).alloc (.cells #[.int .i64 0, .int .i64 0, .string ⟨#[]⟩] 29) = V := ⟨_, rfl⟩
  have B0 : Hid (Below w.heap.size w w0) := by unfold Hid; rw [← hV0]; exact (((Below.refl _ _).alloc (Nat.le_refl _) _).alloc (by simp) _).alloc (by simp; omega) _
  have A0 : Hid (Box w0 w.heap.size 29 #[.int .i64 k, .int .i64 n, .string t]) := by unfold Hid; rw [← hV0]; exact ((Box.new _ _ _).alloc _).alloc _
  have D0 : Hid (Box w0 (w.heap.size + 1) 29 #[.int .i64 k', .int .i64 n', .string t']) := by unfold Hid; rw [← hV0]; exact (Box.new2 _ _ _ _).alloc _
  have X0 : Hid (Box w0 (w.heap.size + 2) 29 #[.int .i64 0, .int .i64 0, .string ⟨#[]⟩]) := by unfold Hid; rw [← hV0]; have := Box.new2 (w.alloc (.cells #[.int .i64 k, .int .i64 n, .string t] 29)) (.cells #[.int .i64 k', .int .i64 n', .string t'] 29) #[.int .i64 0, .int .i64 0, .string ⟨#[]⟩] 29; simpa using this
  obtain ⟨q0, q1, q2⟩ := box3 A0.out
  obtain ⟨p0, p1, p2⟩ := box3 D0.out
  obtain ⟨x0, x1, x2⟩ := box3 X0.out
  have t0 := X0.out.thaw 0
  have t1 := X0.out.thaw 1
  have t2 := X0.out.thaw 2
  go_enter Tryd.func75, Tryd.ntmps75
  go_wp2_with fail
  refine (c_has 2 k k' _ _ w0 q0 p0).mono ?_
  rintro e w' ⟨rfl, rfl⟩
  go_wp2_with fail
  refine (c_dec op k n t _).mono ?_
  rintro e w1 ⟨rfl, hb⟩
  have B1 : Hid (Below w.heap.size w w1) := B0.out.trans (hb.mono B0.out.size)
  have A1 : Hid (Box w1 w.heap.size 29 #[.int .i64 k, .int .i64 n, .string t]) := A0.out.belowS hb
  have D1 : Hid (Box w1 (w.heap.size + 1) 29 #[.int .i64 k', .int .i64 n', .string t']) := D0.out.belowS hb
  have X1 : Hid (Box w1 (w.heap.size + 2) 29 #[.int .i64 0, .int .i64 0, .string ⟨#[]⟩]) := X0.out.belowS hb
  clear hb q0 q1 q2 p0 p1 p2 x0 x1 x2 t0 t1 t2
  obtain ⟨q0, q1, q2⟩ := box3 A1.out
  obtain ⟨p0, p1, p2⟩ := box3 D1.out
  obtain ⟨x0, x1, x2⟩ := box3 X1.out
  have t0 := X1.out.thaw 0
  have t1 := X1.out.thaw 1
  have t2 := X1.out.thaw 2
  go_wp2_with fail
  refine (c_dec op k' n' t' _).mono ?_
  rintro e w2 ⟨rfl, hb⟩
  have B2 : Hid (Below w.heap.size w w2) := B1.out.trans (hb.mono B1.out.size)
  have A2 : Hid (Box w2 w.heap.size 29 #[.int .i64 k, .int .i64 n, .string t]) := A1.out.belowS hb
  have D2 : Hid (Box w2 (w.heap.size + 1) 29 #[.int .i64 k', .int .i64 n', .string t']) := D1.out.belowS hb
  have X2 : Hid (Box w2 (w.heap.size + 2) 29 #[.int .i64 0, .int .i64 0, .string ⟨#[]⟩]) := X1.out.belowS hb
  clear hb q0 q1 q2 p0 p1 p2 x0 x1 x2 t0 t1 t2
  obtain ⟨q0, q1, q2⟩ := box3 A2.out
  obtain ⟨p0, p1, p2⟩ := box3 D2.out
  obtain ⟨x0, x1, x2⟩ := box3 X2.out
  have t0 := X2.out.thaw 0
  have t1 := X2.out.thaw 1
  have t2 := X2.out.thaw 2
  go_wp2_with fail
  refine (c_has 0 k k' _ _ w2 q0 p0).mono ?_
  rintro e w' ⟨rfl, rfl⟩
  go_wp2
  refine ret32 Tryd.results75 rfl rfl rfl (put3_box X2.out _ _ _) ⟨?_, put3_below B2.out (by omega) _ _ _⟩
  rw [E.out]
  rfl
set_option maxRecDepth 100000 in
set_option maxHeartbeats 2000000 in
theorem c_binV_bQ (op : Int) (k n : Int) (t : ByteArray) (k' n' : Int) (t' : ByteArray) (w : World) (e1 : (k == 2 || k' == 2) = true) (n10 : (op != 10) = false) (d1 : decB op k n = false) (d2 : decB op k' n' = false) (z : (k == 0 || k' == 0) = false) (kk : (k != k') = false) (ke : (k == k') = true) (o12 : (op == 12) = false) (o13 : (op == 13) = false) (o10 : (op == 10) = true) (ne : (n == n') = false) (E : Hid (binR op k n t k' n' t' = ⟨1, 0, 0⟩)) :
    Calls Tryd.prog 75 #[.int .i64 op, .agg #[.int .i64 k, .int .i64 n, .string t], .agg #[.int .i64 k', .int .i64 n', .string t']] w fun e w' => e = .returned (.tuple #[.agg #[.int .i64 (binR op k n t k' n' t').k, .int .i64 (binR op k n t k' n' t').n, .string ⟨#[]⟩], .int .i64 (binR op k n t k' n' t').c]) ∧ Below w.heap.size w w' := by
  obtain ⟨w0, hV0⟩ : ∃ V, ((w.alloc (.cells #[.int .i64 k, .int .i64 n, .string t] 29)).alloc (.cells #[.int .i64 k', .int .i64 n', .string t'] 29)).alloc (.cells #[.int .i64 0, .int .i64 0, .string ⟨#[]⟩] 29) = V := ⟨_, rfl⟩
  have B0 : Hid (Below w.heap.size w w0) := by unfold Hid; rw [← hV0]; exact (((Below.refl _ _).alloc (Nat.le_refl _) _).alloc (by simp) _).alloc (by simp; omega) _
  have A0 : Hid (Box w0 w.heap.size 29 #[.int .i64 k, .int .i64 n, .string t]) := by unfold Hid; rw [← hV0]; exact ((Box.new _ _ _).alloc _).alloc _
  have D0 : Hid (Box w0 (w.heap.size + 1) 29 #[.int .i64 k', .int .i64 n', .string t']) := by unfold Hid; rw [← hV0]; exact (Box.new2 _ _ _ _).alloc _
  have X0 : Hid (Box w0 (w.heap.size + 2) 29 #[.int .i64 0, .int .i64 0, .string ⟨#[]⟩]) := by unfold Hid; rw [← hV0]; have := Box.new2 (w.alloc (.cells #[.int .i64 k, .int .i64 n, .string t] 29)) (.cells #[.int .i64 k', .int .i64 n', .string t'] 29) #[.int .i64 0, .int .i64 0, .string ⟨#[]⟩] 29; simpa using this
  obtain ⟨q0, q1, q2⟩ := box3 A0.out
  obtain ⟨p0, p1, p2⟩ := box3 D0.out
  obtain ⟨x0, x1, x2⟩ := box3 X0.out
  have t0 := X0.out.thaw 0
  have t1 := X0.out.thaw 1
  have t2 := X0.out.thaw 2
  go_enter Tryd.func75, Tryd.ntmps75
  go_wp2_with fail
  refine (c_has 2 k k' _ _ w0 q0 p0).mono ?_
  rintro e w' ⟨rfl, rfl⟩
  go_wp2_with fail
  refine (c_dec op k n t _).mono ?_
  rintro e w1 ⟨rfl, hb⟩
  have B1 : Hid (Below w.heap.size w w1) := B0.out.trans (hb.mono B0.out.size)
  have A1 : Hid (Box w1 w.heap.size 29 #[.int .i64 k, .int .i64 n, .string t]) := A0.out.belowS hb
  have D1 : Hid (Box w1 (w.heap.size + 1) 29 #[.int .i64 k', .int .i64 n', .string t']) := D0.out.belowS hb
  have X1 : Hid (Box w1 (w.heap.size + 2) 29 #[.int .i64 0, .int .i64 0, .string ⟨#[]⟩]) := X0.out.belowS hb
  clear hb q0 q1 q2 p0 p1 p2 x0 x1 x2 t0 t1 t2
  obtain ⟨q0, q1, q2⟩ := box3 A1.out
  obtain ⟨p0, p1, p2⟩ := box3 D1.out
  obtain ⟨x0, x1, x2⟩ := box3 X1.out
  have t0 := X1.out.thaw 0
  have t1 := X1.out.thaw 1
  have t2 := X1.out.thaw 2
  go_wp2_with fail
  refine (c_dec op k' n' t' _).mono ?_
  rintro e w2 ⟨rfl, hb⟩
  have B2 : Hid (Below w.heap.size w w2) := B1.out.trans (hb.mono B1.out.size)
  have A2 : Hid (Box w2 w.heap.size 29 #[.int .i64 k, .int .i64 n, .string t]) := A1.out.belowS hb
  have D2 : Hid (Box w2 (w.heap.size + 1) 29 #[.int .i64 k', .int .i64 n', .string t']) := D1.out.belowS hb
  have X2 : Hid (Box w2 (w.heap.size + 2) 29 #[.int .i64 0, .int .i64 0, .string ⟨#[]⟩]) := X1.out.belowS hb
  clear hb q0 q1 q2 p0 p1 p2 x0 x1 x2 t0 t1 t2
  obtain ⟨q0, q1, q2⟩ := box3 A2.out
  obtain ⟨p0, p1, p2⟩ := box3 D2.out
  obtain ⟨x0, x1, x2⟩ := box3 X2.out
  have t0 := X2.out.thaw 0
  have t1 := X2.out.thaw 1
  have t2 := X2.out.thaw 2
  go_wp2_with fail
  refine (c_has 0 k k' _ _ w2 q0 p0).mono ?_
  rintro e w' ⟨rfl, rfl⟩
  go_wp2_with fail
  refine (c_truth false _).mono ?_
  rintro e w3 ⟨rfl, hb⟩
  have B3 : Hid (Below w.heap.size w w3) := B2.out.trans (hb.mono B2.out.size)
  have A3 : Hid (Box w3 w.heap.size 29 #[.int .i64 k, .int .i64 n, .string t]) := A2.out.belowS hb
  have D3 : Hid (Box w3 (w.heap.size + 1) 29 #[.int .i64 k', .int .i64 n', .string t']) := D2.out.belowS hb
  have X3 : Hid (Box w3 (w.heap.size + 2) 29 #[.int .i64 0, .int .i64 0, .string ⟨#[]⟩]) := X2.out.belowS hb
  clear hb q0 q1 q2 p0 p1 p2 x0 x1 x2 t0 t1 t2
  obtain ⟨q0, q1, q2⟩ := box3 A3.out
  obtain ⟨p0, p1, p2⟩ := box3 D3.out
  obtain ⟨x0, x1, x2⟩ := box3 X3.out
  have t0 := X3.out.thaw 0
  have t1 := X3.out.thaw 1
  have t2 := X3.out.thaw 2
  go_wp2
  refine ret32 Tryd.results75 rfl rfl rfl (put3_box X3.out _ _ _) ⟨?_, put3_below B3.out (by omega) _ _ _⟩
  rw [E.out]
  rfl
set_option maxRecDepth 100000 in
set_option maxHeartbeats 2000000 in
theorem c_binV_bU (op : Int) (k n : Int) (t : ByteArray) (k' n' : Int) (t' : ByteArray) (w : World) (e1 : (k == 2 || k' == 2) = true) (n10 : (op != 10) = false) (d1 : decB op k n = false) (d2 : decB op k' n' = false) (z : (k == 0 || k' == 0) = false) (kk : (k != k') = false) (ke : (k == k') = true) (o12 : (op == 12) = false) (o13 : (op == 13) = false) (o10 : (op == 10) = true) (ne : (n == n') = true) (te : (t.toList == t'.toList) = false) (E : Hid (binR op k n t k' n' t' = ⟨1, 0, 0⟩)) :
    Calls Tryd.prog 75 #[.int .i64 op, .agg #[.int .i64 k, .int .i64 n, .string t], .agg #[.int .i64 k', .int .i64 n', .string t']] w fun e w' => e = .returned (.tuple #[.agg #[.int .i64 (binR op k n t k' n' t').k, .int .i64 (binR op k n t k' n' t').n, .string ⟨#[]⟩], .int .i64 (binR op k n t k' n' t').c]) ∧ Below w.heap.size w w' := by
  obtain ⟨w0, hV0⟩ : ∃ V, ((w.alloc (.cells #[.int .i64 k, .int .i64 n, .string t] 29)).alloc (.cells #[.int .i64 k', .int .i64 n', .string t'] 29)).alloc (.cells #[.int .i64 0, .int .i64 0, .string ⟨#[]⟩] 29) = V := ⟨_, rfl⟩
  have B0 : Hid (Below w.heap.size w w0) := by unfold Hid; rw [← hV0]; exact (((Below.refl _ _).alloc (Nat.le_refl _) _).alloc (by simp) _).alloc (by simp; omega) _
  have A0 : Hid (Box w0 w.heap.size 29 #[.int .i64 k, .int .i64 n, .string t]) := by unfold Hid; rw [← hV0]; exact ((Box.new _ _ _).alloc _).alloc _
  have D0 : Hid (Box w0 (w.heap.size + 1) 29 #[.int .i64 k', .int .i64 n', .string t']) := by unfold Hid; rw [← hV0]; exact (Box.new2 _ _ _ _).alloc _
  have X0 : Hid (Box w0 (w.heap.size + 2) 29 #[.int .i64 0, .int .i64 0, .string ⟨#[]⟩]) := by unfold Hid; rw [← hV0]; have := Box.new2 (w.alloc (.cells #[.int .i64 k, .int .i64 n, .string t] 29)) (.cells #[.int .i64 k', .int .i64 n', .string t'] 29) #[.int .i64 0, .int .i64 0, .string ⟨#[]⟩] 29; simpa using this
  obtain ⟨q0, q1, q2⟩ := box3 A0.out
  obtain ⟨p0, p1, p2⟩ := box3 D0.out
  obtain ⟨x0, x1, x2⟩ := box3 X0.out
  have t0 := X0.out.thaw 0
  have t1 := X0.out.thaw 1
  have t2 := X0.out.thaw 2
  go_enter Tryd.func75, Tryd.ntmps75
  go_wp2_with fail
  refine (c_has 2 k k' _ _ w0 q0 p0).mono ?_
  rintro e w' ⟨rfl, rfl⟩
  go_wp2_with fail
  refine (c_dec op k n t _).mono ?_
  rintro e w1 ⟨rfl, hb⟩
  have B1 : Hid (Below w.heap.size w w1) := B0.out.trans (hb.mono B0.out.size)
  have A1 : Hid (Box w1 w.heap.size 29 #[.int .i64 k, .int .i64 n, .string t]) := A0.out.belowS hb
  have D1 : Hid (Box w1 (w.heap.size + 1) 29 #[.int .i64 k', .int .i64 n', .string t']) := D0.out.belowS hb
  have X1 : Hid (Box w1 (w.heap.size + 2) 29 #[.int .i64 0, .int .i64 0, .string ⟨#[]⟩]) := X0.out.belowS hb
  clear hb q0 q1 q2 p0 p1 p2 x0 x1 x2 t0 t1 t2
  obtain ⟨q0, q1, q2⟩ := box3 A1.out
  obtain ⟨p0, p1, p2⟩ := box3 D1.out
  obtain ⟨x0, x1, x2⟩ := box3 X1.out
  have t0 := X1.out.thaw 0
  have t1 := X1.out.thaw 1
  have t2 := X1.out.thaw 2
  go_wp2_with fail
  refine (c_dec op k' n' t' _).mono ?_
  rintro e w2 ⟨rfl, hb⟩
  have B2 : Hid (Below w.heap.size w w2) := B1.out.trans (hb.mono B1.out.size)
  have A2 : Hid (Box w2 w.heap.size 29 #[.int .i64 k, .int .i64 n, .string t]) := A1.out.belowS hb
  have D2 : Hid (Box w2 (w.heap.size + 1) 29 #[.int .i64 k', .int .i64 n', .string t']) := D1.out.belowS hb
  have X2 : Hid (Box w2 (w.heap.size + 2) 29 #[.int .i64 0, .int .i64 0, .string ⟨#[]⟩]) := X1.out.belowS hb
  clear hb q0 q1 q2 p0 p1 p2 x0 x1 x2 t0 t1 t2
  obtain ⟨q0, q1, q2⟩ := box3 A2.out
  obtain ⟨p0, p1, p2⟩ := box3 D2.out
  obtain ⟨x0, x1, x2⟩ := box3 X2.out
  have t0 := X2.out.thaw 0
  have t1 := X2.out.thaw 1
  have t2 := X2.out.thaw 2
  go_wp2_with fail
  refine (c_has 0 k k' _ _ w2 q0 p0).mono ?_
  rintro e w' ⟨rfl, rfl⟩
  go_wp2_with fail
  refine (c_truth false _).mono ?_
  rintro e w3 ⟨rfl, hb⟩
  have B3 : Hid (Below w.heap.size w w3) := B2.out.trans (hb.mono B2.out.size)
  have A3 : Hid (Box w3 w.heap.size 29 #[.int .i64 k, .int .i64 n, .string t]) := A2.out.belowS hb
  have D3 : Hid (Box w3 (w.heap.size + 1) 29 #[.int .i64 k', .int .i64 n', .string t']) := D2.out.belowS hb
  have X3 : Hid (Box w3 (w.heap.size + 2) 29 #[.int .i64 0, .int .i64 0, .string ⟨#[]⟩]) := X2.out.belowS hb
  clear hb q0 q1 q2 p0 p1 p2 x0 x1 x2 t0 t1 t2
  obtain ⟨q0, q1, q2⟩ := box3 A3.out
  obtain ⟨p0, p1, p2⟩ := box3 D3.out
  obtain ⟨x0, x1, x2⟩ := box3 X3.out
  have t0 := X3.out.thaw 0
  have t1 := X3.out.thaw 1
  have t2 := X3.out.thaw 2
  go_wp2
  refine ret32 Tryd.results75 rfl rfl rfl (put3_box X3.out _ _ _) ⟨?_, put3_below B3.out (by omega) _ _ _⟩
  rw [E.out]
  rfl
set_option maxRecDepth 100000 in
set_option maxHeartbeats 2000000 in
theorem c_binV_bV (op : Int) (k n : Int) (t : ByteArray) (k' n' : Int) (t' : ByteArray) (w : World) (e1 : (k == 2 || k' == 2) = true) (n10 : (op != 10) = false) (d1 : decB op k n = false) (d2 : decB op k' n' = false) (z : (k == 0 || k' == 0) = false) (kk : (k != k') = false) (ke : (k == k') = true) (o12 : (op == 12) = false) (o13 : (op == 13) = false) (o10 : (op == 10) = true) (ne : (n == n') = true) (te : (t.toList == t'.toList) = true) (E : Hid (binR op k n t k' n' t' = ⟨1, 1, 0⟩)) :
    Calls Tryd.prog 75 #[.int .i64 op, .agg #[.int .i64 k, .int .i64 n, .string t], .agg #[.int .i64 k', .int .i64 n', .string t']] w fun e w' => e = .returned (.tuple #[.agg #[.int .i64 (binR op k n t k' n' t').k, .int .i64 (binR op k n t k' n' t').n, .string ⟨#[]⟩], .int .i64 (binR op k n t k' n' t').c]) ∧ Below w.heap.size w w' := by
  obtain ⟨w0, hV0⟩ : ∃ V, ((w.alloc (.cells #[.int .i64 k, .int .i64 n, .string t] 29)).alloc (.cells #[.int .i64 k', .int .i64 n', .string t'] 29)).alloc (.cells #[.int .i64 0, .int .i64 0, .string ⟨#[]⟩] 29) = V := ⟨_, rfl⟩
  have B0 : Hid (Below w.heap.size w w0) := by unfold Hid; rw [← hV0]; exact (((Below.refl _ _).alloc (Nat.le_refl _) _).alloc (by simp) _).alloc (by simp; omega) _
  have A0 : Hid (Box w0 w.heap.size 29 #[.int .i64 k, .int .i64 n, .string t]) := by unfold Hid; rw [← hV0]; exact ((Box.new _ _ _).alloc _).alloc _
  have D0 : Hid (Box w0 (w.heap.size + 1) 29 #[.int .i64 k', .int .i64 n', .string t']) := by unfold Hid; rw [← hV0]; exact (Box.new2 _ _ _ _).alloc _
  have X0 : Hid (Box w0 (w.heap.size + 2) 29 #[.int .i64 0, .int .i64 0, .string ⟨#[]⟩]) := by unfold Hid; rw [← hV0]; have := Box.new2 (w.alloc (.cells #[.int .i64 k, .int .i64 n, .string t] 29)) (.cells #[.int .i64 k', .int .i64 n', .string t'] 29) #[.int .i64 0, .int .i64 0, .string ⟨#[]⟩] 29; simpa using this
  obtain ⟨q0, q1, q2⟩ := box3 A0.out
  obtain ⟨p0, p1, p2⟩ := box3 D0.out
  obtain ⟨x0, x1, x2⟩ := box3 X0.out
  have t0 := X0.out.thaw 0
  have t1 := X0.out.thaw 1
  have t2 := X0.out.thaw 2
  go_enter Tryd.func75, Tryd.ntmps75
  go_wp2_with fail
  refine (c_has 2 k k' _ _ w0 q0 p0).mono ?_
  rintro e w' ⟨rfl, rfl⟩
  go_wp2_with fail
  refine (c_dec op k n t _).mono ?_
  rintro e w1 ⟨rfl, hb⟩
  have B1 : Hid (Below w.heap.size w w1) := B0.out.trans (hb.mono B0.out.size)
  have A1 : Hid (Box w1 w.heap.size 29 #[.int .i64 k, .int .i64 n, .string t]) := A0.out.belowS hb
  have D1 : Hid (Box w1 (w.heap.size + 1) 29 #[.int .i64 k', .int .i64 n', .string t']) := D0.out.belowS hb
  have X1 : Hid (Box w1 (w.heap.size + 2) 29 #[.int .i64 0, .int .i64 0, .string ⟨#[]⟩]) := X0.out.belowS hb
  clear hb q0 q1 q2 p0 p1 p2 x0 x1 x2 t0 t1 t2
  obtain ⟨q0, q1, q2⟩ := box3 A1.out
  obtain ⟨p0, p1, p2⟩ := box3 D1.out
  obtain ⟨x0, x1, x2⟩ := box3 X1.out
  have t0 := X1.out.thaw 0
  have t1 := X1.out.thaw 1
  have t2 := X1.out.thaw 2
  go_wp2_with fail
  refine (c_dec op k' n' t' _).mono ?_
  rintro e w2 ⟨rfl, hb⟩
  have B2 : Hid (Below w.heap.size w w2) := B1.out.trans (hb.mono B1.out.size)
  have A2 : Hid (Box w2 w.heap.size 29 #[.int .i64 k, .int .i64 n, .string t]) := A1.out.belowS hb
  have D2 : Hid (Box w2 (w.heap.size + 1) 29 #[.int .i64 k', .int .i64 n', .string t']) := D1.out.belowS hb
  have X2 : Hid (Box w2 (w.heap.size + 2) 29 #[.int .i64 0, .int .i64 0, .string ⟨#[]⟩]) := X1.out.belowS hb
  clear hb q0 q1 q2 p0 p1 p2 x0 x1 x2 t0 t1 t2
  obtain ⟨q0, q1, q2⟩ := box3 A2.out
  obtain ⟨p0, p1, p2⟩ := box3 D2.out
  obtain ⟨x0, x1, x2⟩ := box3 X2.out
  have t0 := X2.out.thaw 0
  have t1 := X2.out.thaw 1
  have t2 := X2.out.thaw 2
  go_wp2_with fail
  refine (c_has 0 k k' _ _ w2 q0 p0).mono ?_
  rintro e w' ⟨rfl, rfl⟩
  go_wp2_with fail
  refine (c_truth true _).mono ?_
  rintro e w3 ⟨rfl, hb⟩
  have B3 : Hid (Below w.heap.size w w3) := B2.out.trans (hb.mono B2.out.size)
  have A3 : Hid (Box w3 w.heap.size 29 #[.int .i64 k, .int .i64 n, .string t]) := A2.out.belowS hb
  have D3 : Hid (Box w3 (w.heap.size + 1) 29 #[.int .i64 k', .int .i64 n', .string t']) := D2.out.belowS hb
  have X3 : Hid (Box w3 (w.heap.size + 2) 29 #[.int .i64 0, .int .i64 0, .string ⟨#[]⟩]) := X2.out.belowS hb
  clear hb q0 q1 q2 p0 p1 p2 x0 x1 x2 t0 t1 t2
  obtain ⟨q0, q1, q2⟩ := box3 A3.out
  obtain ⟨p0, p1, p2⟩ := box3 D3.out
  obtain ⟨x0, x1, x2⟩ := box3 X3.out
  have t0 := X3.out.thaw 0
  have t1 := X3.out.thaw 1
  have t2 := X3.out.thaw 2
  go_wp2
  refine ret32 Tryd.results75 rfl rfl rfl (put3_box X3.out _ _ _) ⟨?_, put3_below B3.out (by omega) _ _ _⟩
  rw [E.out]
  rfl
set_option maxRecDepth 100000 in
set_option maxHeartbeats 2000000 in
theorem c_binV_cN (op : Int) (k n : Int) (t : ByteArray) (k' n' : Int) (t' : ByteArray) (w : World) (e1 : (k == 2 || k' == 2) = true) (n10 : (op != 10) = true) (n11 : (op != 11) = false) (d1 : decB op k n = false) (d2 : decB op k' n' = false) (z : (k == 0 || k' == 0) = true) (E : Hid (binR op k n t k' n' t' = ⟨0, 0, 0⟩)) :
    Calls Tryd.prog 75 #[.int .i64 op, .agg #[.int .i64 k, .int .i64 n, .string t], .agg #[.int .i64 k', .int .i64 n', .string t']] w fun e w' => e = .returned (.tuple #[.agg #[.int .i64 (binR op k n t k' n' t').k, .int .i64 (binR op k n t k' n' t').n, .string ⟨#[]⟩], .int .i64 (binR op k n t k' n' t').c]) ∧ Below w.heap.size w w' := by
  obtain ⟨w0, hV0⟩ : ∃ V, ((w.alloc (.cells #[.int .i64 k, .int .i64 n, .string t] 29)).alloc (.cells #[.int .i64 k', .int .i64 n', .string t'] 29)).alloc (.cells #[.int .i64 0, .int .i64 0, .string ⟨#[]⟩] 29) = V := ⟨_, rfl⟩
  have B0 : Hid (Below w.heap.size w w0) := by unfold Hid; rw [← hV0]; exact (((Below.refl _ _).alloc (Nat.le_refl _) _).alloc (by simp) _).alloc (by simp; omega) _
  have A0 : Hid (Box w0 w.heap.size 29 #[.int .i64 k, .int .i64 n, .string t]) := by unfold Hid; rw [← hV0]; exact ((Box.new _ _ _).alloc _).alloc _
  have D0 : Hid (Box w0 (w.heap.size + 1) 29 #[.int .i64 k', .int .i64 n', .string t']) := by unfold Hid; rw [← hV0]; exact (Box.new2 _ _ _ _).alloc _
  have X0 : Hid (Box w0 (w.heap.size + 2) 29 #[.int .i64 0, .int .i64 0, .string ⟨#[]⟩]) := by unfold Hid; rw [← hV0]; have := Box.new2 (w.alloc (.cells #[.int .i64 k, .int .i64 n, .string t] 29)) (.cells #[.int .i64 k', .int .i64 n', .string t'] 29) #[.int .i64 0, .int .i64 0, .string ⟨#[]⟩] 29; simpa using this
  obtain ⟨q0, q1, q2⟩ := box3 A0.out
  obtain ⟨p0, p1, p2⟩ := box3 D0.out
  obtain ⟨x0, x1, x2⟩ := box3 X0.out
  have t0 := X0.out.thaw 0
  have t1 := X0.out.thaw 1
  have t2 := X0.out.thaw 2
  go_enter Tryd.func75, Tryd.ntmps75
  go_wp2_with fail
  refine (c_has 2 k k' _ _ w0 q0 p0).mono ?_
  rintro e w' ⟨rfl, rfl⟩
  go_wp2_with fail
  refine (c_dec op k n t _).mono ?_
  rintro e w1 ⟨rfl, hb⟩
  have B1 : Hid (Below w.heap.size w w1) := B0.out.trans (hb.mono B0.out.size)
  have A1 : Hid (Box w1 w.heap.size 29 #[.int .i64 k, .int .i64 n, .string t]) := A0.out.belowS hb
  have D1 : Hid (Box w1 (w.heap.size + 1) 29 #[.int .i64 k', .int .i64 n', .string t']) := D0.out.belowS hb
  have X1 : Hid (Box w1 (w.heap.size + 2) 29 #[.int .i64 0, .int .i64 0, .string ⟨#[]⟩]) := X0.out.belowS hb
  clear hb q0 q1 q2 p0 p1 p2 x0 x1 x2 t0 t1 t2
  obtain ⟨q0, q1, q2⟩ := box3 A1.out
  obtain ⟨p0, p1, p2⟩ := box3 D1.out
  obtain ⟨x0, x1, x2⟩ := box3 X1.out
  have t0 := X1.out.thaw 0
  have t1 := X1.out.thaw 1
  have t2 := X1.out.thaw 2
  go_wp2_with fail
  refine (c_dec op k' n' t' _).mono ?_
  rintro e w2 ⟨rfl, hb⟩
  have B2 : Hid (Below w.heap.size w w2) := B1.out.trans (hb.mono B1.out.size)
  have A2 : Hid (Box w2 w.heap.size 29 #[.int .i64 k, .int .i64 n, .string t]) := A1.out.belowS hb
  have D2 : Hid (Box w2 (w.heap.size + 1) 29 #[.int .i64 k', .int .i64 n', .string t']) := D1.out.belowS hb
  have X2 : Hid (Box w2 (w.heap.size + 2) 29 #[.int .i64 0, .int .i64 0, .string ⟨#[]⟩]) := X1.out.belowS hb
  clear hb q0 q1 q2 p0 p1 p2 x0 x1 x2 t0 t1 t2
  obtain ⟨q0, q1, q2⟩ := box3 A2.out
  obtain ⟨p0, p1, p2⟩ := box3 D2.out
  obtain ⟨x0, x1, x2⟩ := box3 X2.out
  have t0 := X2.out.thaw 0
  have t1 := X2.out.thaw 1
  have t2 := X2.out.thaw 2
  go_wp2_with fail
  refine (c_has 0 k k' _ _ w2 q0 p0).mono ?_
  rintro e w' ⟨rfl, rfl⟩
  go_wp2
  refine ret32 Tryd.results75 rfl rfl rfl (put3_box X2.out _ _ _) ⟨?_, put3_below B2.out (by omega) _ _ _⟩
  rw [E.out]
  rfl
set_option maxRecDepth 100000 in
set_option maxHeartbeats 2000000 in
theorem c_binV_cK (op : Int) (k n : Int) (t : ByteArray) (k' n' : Int) (t' : ByteArray) (w : World) (e1 : (k == 2 || k' == 2) = true) (n10 : (op != 10) = true) (n11 : (op != 11) = false) (d1 : decB op k n = false) (d2 : decB op k' n' = false) (z : (k == 0 || k' == 0) = false) (kk : (k != k') = true) (E : Hid (binR op k n t k' n' t' = ⟨0, 0, 10⟩)) :
    Calls Tryd.prog 75 #[.int .i64 op, .agg #[.int .i64 k, .int .i64 n, .string t], .agg #[.int .i64 k', .int .i64 n', .string t']] w fun e w' => e = .returned (.tuple #[.agg #[.int .i64 (binR op k n t k' n' t').k, .int .i64 (binR op k n t k' n' t').n, .string ⟨#[]⟩], .int .i64 (binR op k n t k' n' t').c]) ∧ Below w.heap.size w w' := by
  obtain ⟨w0, hV0⟩ : ∃ V, ((w.alloc (.cells #[.int .i64 k, .int .i64 n, .string t] 29)).alloc (.cells #[.int .i64 k', .int .i64 n', .string t'] 29)).alloc (.cells #[.int .i64 0, .int .i64 0, .string ⟨#[]⟩] 29) = V := ⟨_, rfl⟩
  have B0 : Hid (Below w.heap.size w w0) := by unfold Hid; rw [← hV0]; exact (((Below.refl _ _).alloc (Nat.le_refl _) _).alloc (by simp) _).alloc (by simp; omega) _
  have A0 : Hid (Box w0 w.heap.size 29 #[.int .i64 k, .int .i64 n, .string t]) := by unfold Hid; rw [← hV0]; exact ((Box.new _ _ _).alloc _).alloc _
  have D0 : Hid (Box w0 (w.heap.size + 1) 29 #[.int .i64 k', .int .i64 n', .string t']) := by unfold Hid; rw [← hV0]; exact (Box.new2 _ _ _ _).alloc _
  have X0 : Hid (Box w0 (w.heap.size + 2) 29 #[.int .i64 0, .int .i64 0, .string ⟨#[]⟩]) := by unfold Hid; rw [← hV0]; have := Box.new2 (w.alloc (.cells #[.int .i64 k, .int .i64 n, .string t] 29)) (.cells #[.int .i64 k', .int .i64 n', .string t'] 29) #[.int .i64 0, .int .i64 0, .string ⟨#[]⟩] 29; simpa using this
  obtain ⟨q0, q1, q2⟩ := box3 A0.out
  obtain ⟨p0, p1, p2⟩ := box3 D0.out
  obtain ⟨x0, x1, x2⟩ := box3 X0.out
  have t0 := X0.out.thaw 0
  have t1 := X0.out.thaw 1
  have t2 := X0.out.thaw 2
  go_enter Tryd.func75, Tryd.ntmps75
  go_wp2_with fail
  refine (c_has 2 k k' _ _ w0 q0 p0).mono ?_
  rintro e w' ⟨rfl, rfl⟩
  go_wp2_with fail
  refine (c_dec op k n t _).mono ?_
  rintro e w1 ⟨rfl, hb⟩
  have B1 : Hid (Below w.heap.size w w1) := B0.out.trans (hb.mono B0.out.size)
  have A1 : Hid (Box w1 w.heap.size 29 #[.int .i64 k, .int .i64 n, .string t]) := A0.out.belowS hb
  have D1 : Hid (Box w1 (w.heap.size + 1) 29 #[.int .i64 k', .int .i64 n', .string t']) := D0.out.belowS hb
  have X1 : Hid (Box w1 (w.heap.size + 2) 29 #[.int .i64 0, .int .i64 0, .string ⟨#[]⟩]) := X0.out.belowS hb
  clear hb q0 q1 q2 p0 p1 p2 x0 x1 x2 t0 t1 t2
  obtain ⟨q0, q1, q2⟩ := box3 A1.out
  obtain ⟨p0, p1, p2⟩ := box3 D1.out
  obtain ⟨x0, x1, x2⟩ := box3 X1.out
  have t0 := X1.out.thaw 0
  have t1 := X1.out.thaw 1
  have t2 := X1.out.thaw 2
  go_wp2_with fail
  refine (c_dec op k' n' t' _).mono ?_
  rintro e w2 ⟨rfl, hb⟩
  have B2 : Hid (Below w.heap.size w w2) := B1.out.trans (hb.mono B1.out.size)
  have A2 : Hid (Box w2 w.heap.size 29 #[.int .i64 k, .int .i64 n, .string t]) := A1.out.belowS hb
  have D2 : Hid (Box w2 (w.heap.size + 1) 29 #[.int .i64 k', .int .i64 n', .string t']) := D1.out.belowS hb
  have X2 : Hid (Box w2 (w.heap.size + 2) 29 #[.int .i64 0, .int .i64 0, .string ⟨#[]⟩]) := X1.out.belowS hb
  clear hb q0 q1 q2 p0 p1 p2 x0 x1 x2 t0 t1 t2
  obtain ⟨q0, q1, q2⟩ := box3 A2.out
  obtain ⟨p0, p1, p2⟩ := box3 D2.out
  obtain ⟨x0, x1, x2⟩ := box3 X2.out
  have t0 := X2.out.thaw 0
  have t1 := X2.out.thaw 1
  have t2 := X2.out.thaw 2
  go_wp2_with fail
  refine (c_has 0 k k' _ _ w2 q0 p0).mono ?_
  rintro e w' ⟨rfl, rfl⟩
  go_wp2
  refine ret32 Tryd.results75 rfl rfl rfl (put3_box X2.out _ _ _) ⟨?_, put3_below B2.out (by omega) _ _ _⟩
  rw [E.out]
  rfl
set_option maxRecDepth 100000 in
set_option maxHeartbeats 2000000 in
theorem c_binV_cL (op : Int) (k n : Int) (t : ByteArray) (k' n' : Int) (t' : ByteArray) (w : World) (e1 : (k == 2 || k' == 2) = true) (n10 : (op != 10) = true) (n11 : (op != 11) = false) (d1 : decB op k n = false) (d2 : decB op k' n' = false) (z : (k == 0 || k' == 0) = false) (kk : (k != k') = false) (o12 : (op == 12) = false) (o13 : (op == 13) = false) (o10 : (op == 10) = false) (o11 : (op == 11) = true) (E : Hid (binR op k n t k' n' t' = ⟨1, trI (decide (cmpV k n t k' n' t' < 0)), 0⟩)) :
    Calls Tryd.prog 75 #[.int .i64 op, .agg #[.int .i64 k, .int .i64 n, .string t], .agg #[.int .i64 k', .int .i64 n', .string t']] w fun e w' => e = .returned (.tuple #[.agg #[.int .i64 (binR op k n t k' n' t').k, .int .i64 (binR op k n t k' n' t').n, .string ⟨#[]⟩], .int .i64 (binR op k n t k' n' t').c]) ∧ Below w.heap.size w w' := by
  obtain ⟨w0, hV0⟩ : ∃ V, ((w.alloc (.cells #[.int .i64 k, .int .i64 n, .string t] 29)).alloc (.cells #[.int .i64 k', .int .i64 n', .string t'] 29)).alloc (.cells #[.int .i64 0, .int .i64 0, .string ⟨#[]⟩] 29) = V := ⟨_, rfl⟩
  have B0 : Hid (Below w.heap.size w w0) := by unfold Hid; rw [← hV0]; exact (((Below.refl _ _).alloc (Nat.le_refl _) _).alloc (by simp) _).alloc (by simp; omega) _
  have A0 : Hid (Box w0 w.heap.size 29 #[.int .i64 k, .int .i64 n, .string t]) := by unfold Hid; rw [← hV0]; exact ((Box.new _ _ _).alloc _).alloc _
  have D0 : Hid (Box w0 (w.heap.size + 1) 29 #[.int .i64 k', .int .i64 n', .string t']) := by unfold Hid; rw [← hV0]; exact (Box.new2 _ _ _ _).alloc _
  have X0 : Hid (Box w0 (w.heap.size + 2) 29 #[.int .i64 0, .int .i64 0, .string ⟨#[]⟩]) := by unfold Hid; rw [← hV0]; have := Box.new2 (w.alloc (.cells #[.int .i64 k, .int .i64 n, .string t] 29)) (.cells #[.int .i64 k', .int .i64 n', .string t'] 29) #[.int .i64 0, .int .i64 0, .string ⟨#[]⟩] 29; simpa using this
  obtain ⟨q0, q1, q2⟩ := box3 A0.out
  obtain ⟨p0, p1, p2⟩ := box3 D0.out
  obtain ⟨x0, x1, x2⟩ := box3 X0.out
  have t0 := X0.out.thaw 0
  have t1 := X0.out.thaw 1
  have t2 := X0.out.thaw 2
  go_enter Tryd.func75, Tryd.ntmps75
  go_wp2_with fail
  refine (c_has 2 k k' _ _ w0 q0 p0).mono ?_
  rintro e w' ⟨rfl, rfl⟩
  go_wp2_with fail
  refine (c_dec op k n t _).mono ?_
  rintro e w1 ⟨rfl, hb⟩
  have B1 : Hid (Below w.heap.size w w1) := B0.out.trans (hb.mono B0.out.size)
  have A1 : Hid (Box w1 w.heap.size 29 #[.int .i64 k, .int .i64 n, .string t]) := A0.out.belowS hb
  have D1 : Hid (Box w1 (w.heap.size + 1) 29 #[.int .i64 k', .int .i64 n', .string t']) := D0.out.belowS hb
  have X1 : Hid (Box w1 (w.heap.size + 2) 29 #[.int .i64 0, .int .i64 0, .string ⟨#[]⟩]) := X0.out.belowS hb
  clear hb q0 q1 q2 p0 p1 p2 x0 x1 x2 t0 t1 t2
  obtain ⟨q0, q1, q2⟩ := box3 A1.out
  obtain ⟨p0, p1, p2⟩ := box3 D1.out
  obtain ⟨x0, x1, x2⟩ := box3 X1.out
  have t0 := X1.out.thaw 0
  have t1 := X1.out.thaw 1
  have t2 := X1.out.thaw 2
  go_wp2_with fail
  refine (c_dec op k' n' t' _).mono ?_
  rintro e w2 ⟨rfl, hb⟩
  have B2 : Hid (Below w.heap.size w w2) := B1.out.trans (hb.mono B1.out.size)
  have A2 : Hid (Box w2 w.heap.size 29 #[.int .i64 k, .int .i64 n, .string t]) := A1.out.belowS hb
  have D2 : Hid (Box w2 (w.heap.size + 1) 29 #[.int .i64 k', .int .i64 n', .string t']) := D1.out.belowS hb
  have X2 : Hid (Box w2 (w.heap.size + 2) 29 #[.int .i64 0, .int .i64 0, .string ⟨#[]⟩]) := X1.out.belowS hb
  clear hb q0 q1 q2 p0 p1 p2 x0 x1 x2 t0 t1 t2
  obtain ⟨q0, q1, q2⟩ := box3 A2.out
  obtain ⟨p0, p1, p2⟩ := box3 D2.out
  obtain ⟨x0, x1, x2⟩ := box3 X2.out
  have t0 := X2.out.thaw 0
  have t1 := X2.out.thaw 1
  have t2 := X2.out.thaw 2
  go_wp2_with fail
  refine (c_has 0 k k' _ _ w2 q0 p0).mono ?_
  rintro e w' ⟨rfl, rfl⟩
  go_wp2_with fail
  refine (c_cmpR k n t k' n' t' _).mono ?_
  rintro e w3 ⟨rfl, hb⟩
  have B3 : Hid (Below w.heap.size w w3) := B2.out.trans (hb.mono B2.out.size)
  have A3 : Hid (Box w3 w.heap.size 29 #[.int .i64 k, .int .i64 n, .string t]) := A2.out.belowS hb
  have D3 : Hid (Box w3 (w.heap.size + 1) 29 #[.int .i64 k', .int .i64 n', .string t']) := D2.out.belowS hb
  have X3 : Hid (Box w3 (w.heap.size + 2) 29 #[.int .i64 0, .int .i64 0, .string ⟨#[]⟩]) := X2.out.belowS hb
  clear hb q0 q1 q2 p0 p1 p2 x0 x1 x2 t0 t1 t2
  obtain ⟨q0, q1, q2⟩ := box3 A3.out
  obtain ⟨p0, p1, p2⟩ := box3 D3.out
  obtain ⟨x0, x1, x2⟩ := box3 X3.out
  have t0 := X3.out.thaw 0
  have t1 := X3.out.thaw 1
  have t2 := X3.out.thaw 2
  go_wp2_with fail
  refine (c_truth (decide (cmpV k n t k' n' t' < 0)) _).mono ?_
  rintro e w4 ⟨rfl, hb⟩
  have B4 : Hid (Below w.heap.size w w4) := B3.out.trans (hb.mono B3.out.size)
  have A4 : Hid (Box w4 w.heap.size 29 #[.int .i64 k, .int .i64 n, .string t]) := A3.out.belowS hb
  have D4 : Hid (Box w4 (w.heap.size + 1) 29 #[.int .i64 k', .int .i64 n', .string t']) := D3.out.belowS hb
  have X4 : Hid (Box w4 (w.heap.size + 2) 29 #[.int .i64 0, .int .i64 0, .string ⟨#[]⟩]) := X3.out.belowS hb
  clear hb q0 q1 q2 p0 p1 p2 x0 x1 x2 t0 t1 t2
  obtain ⟨q0, q1, q2⟩ := box3 A4.out
  obtain ⟨p0, p1, p2⟩ := box3 D4.out
  obtain ⟨x0, x1, x2⟩ := box3 X4.out
  have t0 := X4.out.thaw 0
  have t1 := X4.out.thaw 1
  have t2 := X4.out.thaw 2
  go_wp2
  refine ret32 Tryd.results75 rfl rfl rfl (put3_box X4.out _ _ _) ⟨?_, put3_below B4.out (by omega) _ _ _⟩
  rw [E.out]
  rfl

end Go.Proofs.YtcgcaomaofppiaaDoor
