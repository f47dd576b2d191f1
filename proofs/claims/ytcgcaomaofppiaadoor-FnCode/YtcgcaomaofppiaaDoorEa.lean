/-
  What expressions mean: the leaves of EvalExpr.
-/
import Derived.Test.YtcgcaomaofppiaaDoorXr
import Derived.Test.YtcgcaomaofppiaaDoorXc
namespace Go.Proofs.YtcgcaomaofppiaaDoor
open Go Go.RowKit
set_option linter.unusedVariables false
set_option linter.unusedSimpArgs false

/-- A value and a code. -/
structure EV where
  k : Int
  n : Int
  t : ByteArray
  c : Int
def errE (c : Int) : EV := ⟨0, 0, ⟨#[]⟩, c⟩
def numE (n : Int) : EV := ⟨1, n, ⟨#[]⟩, 0⟩
def colE (c : Int) (i : Int) (u v : VV) : EV := if c = 0 then ⟨1, i, ⟨#[]⟩, 0⟩ else if c = 1 then ⟨u.1, u.2.1, u.2.2, 0⟩ else ⟨v.1, v.2.1, v.2.2, 0⟩
def unaE (op k n : Int) : EV := if op = 4 then numE (trI (k == 0)) else if k = 2 then errE 10 else if k = 0 then errE 0 else if op = 3 then numE (trI (n == 0)) else numE (-n)
def ofB (r : BR) : EV := ⟨r.k, r.n, ⟨#[]⟩, r.c⟩
def evE : PT → Int → VV → VV → EV
  | .con k n t, _, _, _ => ⟨k, n, t, 0⟩
  | .col c, i, u, v => colE c i u v
  | .una op p, i, u, v => if (evE p i u v).c != 0 then errE (evE p i u v).c else unaE op (evE p i u v).k (evE p i u v).n
  | .bin op l r, i, u, v =>
    if (evE l i u v).c != 0 then errE (evE l i u v).c
    else if decB op (evE l i u v).k (evE l i u v).n then numE (trI (op == 13))
    else if (evE r i u v).c != 0 then errE (evE r i u v).c
    else ofB (binR op (evE l i u v).k (evE l i u v).n (evE l i u v).t (evE r i u v).k (evE r i u v).n (evE r i u v).t)
def PT.ok : PT → Bool
  | .con k n t => valB k n t
  | .col c => inB c 0 2
  | .una op p => inB op 3 5 && p.ok
  | .bin op l r => inB op 6 13 && (l.ok && r.ok)
theorem ret3v {fn : Func} {p : Tmp} (h : fn.results = #[.cell p 29]) {R : Ending → World → Prop} {a : Act} {w : World} {r : Nat} {v0 v1 v2 : Value} (hp : a.tmps.getD p undef = .pointer (some ⟨r, 0, none⟩)) (hd : a.defers = []) (hb : Box w r 29 #[v0, v1, v2]) (hR : R (.returned (.agg #[v0, v1, v2])) w) : bodyPost Tryd.prog fn R .ret a w := by
  refine bodyPost_ret ?_ hd hR
  have hp' : a.tmps[p]?.getD undef = .pointer (some ⟨r, 0, none⟩) := by simpa using hp
  simp only [results, h]
  simp [hp', asAddr, loadVar3 hb]
theorem ixA0 (c0 c1 c2 c3 c4 c5 c6 c7 c8 : Value) (wx : World) : (Instr.index 132 (.agg #[c0, c1, c2, c3, c4, c5, c6, c7, c8]) (.int .i64 0)).run Tryd.prog wx = .ok (.agg #[c0, c1, c2]) wx := by kernel_rfl
theorem ixA1 (c0 c1 c2 c3 c4 c5 c6 c7 c8 : Value) (wx : World) : (Instr.index 132 (.agg #[c0, c1, c2, c3, c4, c5, c6, c7, c8]) (.int .i64 1)).run Tryd.prog wx = .ok (.agg #[c3, c4, c5]) wx := by kernel_rfl
theorem ixA2 (c0 c1 c2 c3 c4 c5 c6 c7 c8 : Value) (wx : World) : (Instr.index 132 (.agg #[c0, c1, c2, c3, c4, c5, c6, c7, c8]) (.int .i64 2)).run Tryd.prog wx = .ok (.agg #[c6, c7, c8]) wx := by kernel_rfl
set_option maxRecDepth 100000 in
set_option maxHeartbeats 4000000 in
theorem c_colV (c : Int) (i : Int) (u v : VV) (w : World) (h : inB c 0 2 = true) : Calls Tryd.prog 62 #[.int .i64 c, .agg #[.int .i64 i, .int .i64 u.1, .int .i64 u.2.1, .string u.2.2, .int .i64 v.1, .int .i64 v.2.1, .string v.2.2]] w fun e w' => e = .returned (.agg #[.int .i64 (colE c i u v).k, .int .i64 (colE c i u v).n, .string (colE c i u v).t]) ∧ Below w.heap.size w w' := by
  have hc : c = 0 ∨ c = 1 ∨ c = 2 := by unfold inB at h; simp at h; omega
  have hix0 : ∀ wx : World, (Instr.index 132 (.agg #[.int .i64 1, .int .i64 i, .string ⟨#[]⟩, .int .i64 u.1, .int .i64 u.2.1, .string u.2.2, .int .i64 v.1, .int .i64 v.2.1, .string v.2.2]) (.int .i64 0)).run Tryd.prog wx = .ok (.agg #[.int .i64 1, .int .i64 i, .string ⟨#[]⟩]) wx := fun wx => ixA0 _ _ _ _ _ _ _ _ _ wx
  have hix1 : ∀ wx : World, (Instr.index 132 (.agg #[.int .i64 1, .int .i64 i, .string ⟨#[]⟩, .int .i64 u.1, .int .i64 u.2.1, .string u.2.2, .int .i64 v.1, .int .i64 v.2.1, .string v.2.2]) (.int .i64 1)).run Tryd.prog wx = .ok (.agg #[.int .i64 u.1, .int .i64 u.2.1, .string u.2.2]) wx := fun wx => ixA1 _ _ _ _ _ _ _ _ _ wx
  have hix2 : ∀ wx : World, (Instr.index 132 (.agg #[.int .i64 1, .int .i64 i, .string ⟨#[]⟩, .int .i64 u.1, .int .i64 u.2.1, .string u.2.2, .int .i64 v.1, .int .i64 v.2.1, .string v.2.2]) (.int .i64 2)).run Tryd.prog wx = .ok (.agg #[.int .i64 v.1, .int .i64 v.2.1, .string v.2.2]) wx := fun wx => ixA2 _ _ _ _ _ _ _ _ _ wx
  rcases hc with rfl | rfl | rfl
  all_goals
    clear h
    go_enter Tryd.func62, Tryd.ntmps62
    go_wp2
    refine ret3v Tryd.results62 rfl rfl (Box.new2 _ _ _ _) ⟨rfl, ((Below.refl _ _).alloc (Nat.le_refl _) _).alloc (by simp) _⟩
set_option maxRecDepth 100000 in
set_option maxHeartbeats 4000000 in
theorem c_colS (c : Int) (i : Int) (u v : VV) (w : World) (h : inB c 0 2 = true) : Calls Tryd.prog 42 #[.agg #[.int .i64 i, .int .i64 u.1, .int .i64 u.2.1, .string u.2.2, .int .i64 v.1, .int .i64 v.2.1, .string v.2.2], .int .i64 c] w fun e w' => e = .returned (.agg #[.int .i64 (colE c i u v).k, .int .i64 (colE c i u v).n, .string (colE c i u v).t]) ∧ Below w.heap.size w w' := by
  have hc : c = 0 ∨ c = 1 ∨ c = 2 := by unfold inB at h; simp at h; omega
  rcases hc with rfl | rfl | rfl
  · clear h
    obtain ⟨w0, hV0⟩ : ∃ V, (w.alloc (.cells #[.int .i64 i, .int .i64 u.1, .int .i64 u.2.1, .string u.2.2, .int .i64 v.1, .int .i64 v.2.1, .string v.2.2] 35)).alloc (.cells #[.int .i64 0, .int .i64 0, .string ⟨#[]⟩] 29) = V := ⟨_, rfl⟩
    have B0 : Hid (Below w.heap.size w w0) := by unfold Hid; rw [← hV0]; exact ((Below.refl _ _).alloc (Nat.le_refl _) _).alloc (by simp) _
    have X0 : Hid (Box w0 (w.heap.size + 1) 29 #[.int .i64 0, .int .i64 0, .string ⟨#[]⟩]) := by unfold Hid; rw [← hV0]; exact Box.new2 _ _ _ _
    have q0 : w0.cell? ⟨w.heap.size, 0, none⟩ = some (.int .i64 i) := (show Box w0 w.heap.size 35 #[.int .i64 i, .int .i64 u.1, .int .i64 u.2.1, .string u.2.2, .int .i64 v.1, .int .i64 v.2.1, .string v.2.2] by rw [← hV0]; exact (Box.new _ _ _).alloc _).cell 0
    go_enter Tryd.func42, Tryd.ntmps42
    go_wp2_with fail
    refine (c_l10Int i _).mono ?_
    rintro e w1 ⟨rfl, hb⟩
    have B1 : Hid (Below w.heap.size w w1) := B0.out.trans (hb.mono B0.out.size)
    have X1 : Hid (Box w1 (w.heap.size + 1) 29 #[.int .i64 0, .int .i64 0, .string ⟨#[]⟩]) := X0.out.belowS hb
    obtain ⟨x0, x1, x2⟩ := box3 X1.out
    have t0 := X1.out.thaw 0
    have t1 := X1.out.thaw 1
    have t2 := X1.out.thaw 2
    clear hb B0 X0 hV0 q0
    go_wp2
    refine ret3v Tryd.results42 rfl rfl (put3_box X1.out _ _ _) ⟨rfl, put3_below B1.out (by omega) _ _ _⟩
  all_goals
    clear h
    go_enter Tryd.func42, Tryd.ntmps42
    go_wp2
    refine ret3v Tryd.results42 rfl rfl (Box.new2 _ _ _ _) ⟨rfl, ((Below.refl _ _).alloc (Nat.le_refl _) _).alloc (by simp) _⟩
theorem nil_of_list {t : ByteArray} (h : t.toList = []) : t = ⟨#[]⟩ := by
  rw [ByteArray.toList_eq] at h
  cases t with
  | mk d => cases d with | mk l => simp at h; subst h; rfl
theorem val_nothing {n : Int} {t : ByteArray} (h : valB 0 n t = true) : n = 0 ∧ t = ⟨#[]⟩ := by
  rw [val0] at h
  simp only [Bool.and_eq_true, beq_iff_eq] at h
  exact ⟨h.1, nil_of_list (List.isEmpty_iff.1 h.2)⟩
set_option maxRecDepth 100000 in
set_option maxHeartbeats 4000000 in
theorem c_uI_4 (op k n : Int) (t : ByteArray) (w : World) (p4 : (op == 4) = true) (E : Hid (unaE op k n = numE (trI (k == 0)))) :
    Calls Tryd.prog 63 #[.int .i64 op, .agg #[.int .i64 k, .int .i64 n, .string t]] w fun e w' => e = .returned (.tuple #[.agg #[.int .i64 (unaE op k n).k, .int .i64 (unaE op k n).n, .string (unaE op k n).t], .int .i64 (unaE op k n).c]) ∧ Below w.heap.size w w' := by
  obtain ⟨w0, hV0⟩ : ∃ V, (w.alloc (.cells #[.int .i64 k, .int .i64 n, .string t] 29)).alloc (.cells #[.int .i64 0, .int .i64 0, .string ⟨#[]⟩] 29) = V := ⟨_, rfl⟩
  have B0 : Hid (Below w.heap.size w w0) := by unfold Hid; rw [← hV0]; exact ((Below.refl _ _).alloc (Nat.le_refl _) _).alloc (by simp) _
  have A0 : Hid (Box w0 w.heap.size 29 #[.int .i64 k, .int .i64 n, .string t]) := by unfold Hid; rw [← hV0]; exact (Box.new _ _ _).alloc _
  have X0 : Hid (Box w0 (w.heap.size + 1) 29 #[.int .i64 0, .int .i64 0, .string ⟨#[]⟩]) := by unfold Hid; rw [← hV0]; exact Box.new2 _ _ _ _
  obtain ⟨q0, q1, q2⟩ := box3 A0.out
  obtain ⟨x0, x1, x2⟩ := box3 X0.out
  have t0 := X0.out.thaw 0
  have t1 := X0.out.thaw 1
  have t2 := X0.out.thaw 2
  go_enter Tryd.func63, Tryd.ntmps63
  go_wp2_with fail
  refine (c_truth (k == 0) _).mono ?_
  rintro e w1 ⟨rfl, hb⟩
  have B1 : Hid (Below w.heap.size w w1) := B0.out.trans (hb.mono B0.out.size)
  have X1 : Hid (Box w1 (w.heap.size + 1) 29 #[.int .i64 0, .int .i64 0, .string ⟨#[]⟩]) := X0.out.belowS hb
  clear hb q0 q1 q2 x0 x1 x2 t0 t1 t2
  obtain ⟨x0, x1, x2⟩ := box3 X1.out
  have t0 := X1.out.thaw 0
  have t1 := X1.out.thaw 1
  have t2 := X1.out.thaw 2
  go_wp2
  refine ret32 Tryd.results63 rfl rfl rfl (put3_box X1.out _ _ _) ⟨?_, put3_below B1.out (by omega) _ _ _⟩
  rw [E.out]
  rfl
set_option maxRecDepth 100000 in
set_option maxHeartbeats 4000000 in
theorem c_uI_2 (op k n : Int) (t : ByteArray) (w : World) (p4 : (op == 4) = false) (k2 : (k == 2) = true) (E : Hid (unaE op k n = errE 10)) :
    Calls Tryd.prog 63 #[.int .i64 op, .agg #[.int .i64 k, .int .i64 n, .string t]] w fun e w' => e = .returned (.tuple #[.agg #[.int .i64 (unaE op k n).k, .int .i64 (unaE op k n).n, .string (unaE op k n).t], .int .i64 (unaE op k n).c]) ∧ Below w.heap.size w w' := by
  obtain ⟨w0, hV0⟩ : ∃ V, (w.alloc (.cells #[.int .i64 k, .int .i64 n, .string t] 29)).alloc (.cells #[.int .i64 0, .int .i64 0, .string ⟨#[]⟩] 29) = V := ⟨_, rfl⟩
  have B0 : Hid (Below w.heap.size w w0) := by unfold Hid; rw [← hV0]; exact ((Below.refl _ _).alloc (Nat.le_refl _) _).alloc (by simp) _
  have A0 : Hid (Box w0 w.heap.size 29 #[.int .i64 k, .int .i64 n, .string t]) := by unfold Hid; rw [← hV0]; exact (Box.new _ _ _).alloc _
  have X0 : Hid (Box w0 (w.heap.size + 1) 29 #[.int .i64 0, .int .i64 0, .string ⟨#[]⟩]) := by unfold Hid; rw [← hV0]; exact Box.new2 _ _ _ _
  obtain ⟨q0, q1, q2⟩ := box3 A0.out
  obtain ⟨x0, x1, x2⟩ := box3 X0.out
  have t0 := X0.out.thaw 0
  have t1 := X0.out.thaw 1
  have t2 := X0.out.thaw 2
  go_enter Tryd.func63, Tryd.ntmps63
  go_wp2
  refine ret32 Tryd.results63 rfl rfl rfl (put3_box X0.out _ _ _) ⟨?_, put3_below B0.out (by omega) _ _ _⟩
  rw [E.out]
  rfl
set_option maxRecDepth 100000 in
set_option maxHeartbeats 4000000 in
theorem c_uI_0 (op k n : Int) (t : ByteArray) (w : World) (p4 : (op == 4) = false) (k2 : (k == 2) = false) (k0 : (k == 0) = true) (E : Hid (unaE op k n = errE 0)) :
    Calls Tryd.prog 63 #[.int .i64 op, .agg #[.int .i64 k, .int .i64 n, .string t]] w fun e w' => e = .returned (.tuple #[.agg #[.int .i64 (unaE op k n).k, .int .i64 (unaE op k n).n, .string (unaE op k n).t], .int .i64 (unaE op k n).c]) ∧ Below w.heap.size w w' := by
  obtain ⟨w0, hV0⟩ : ∃ V, (w.alloc (.cells #[.int .i64 k, .int .i64 n, .string t] 29)).alloc (.cells #[.int .i64 0, .int .i64 0, .string ⟨#[]⟩] 29) = V := ⟨_, rfl⟩
  have B0 : Hid (Below w.heap.size w w0) := by unfold Hid; rw [← hV0]; exact ((Below.refl _ _).alloc (Nat.le_refl _) _).alloc (by simp) _
  have A0 : Hid (Box w0 w.heap.size 29 #[.int .i64 k, .int .i64 n, .string t]) := by unfold Hid; rw [← hV0]; exact (Box.new _ _ _).alloc _
  have X0 : Hid (Box w0 (w.heap.size + 1) 29 #[.int .i64 0, .int .i64 0, .string ⟨#[]⟩]) := by unfold Hid; rw [← hV0]; exact Box.new2 _ _ _ _
  obtain ⟨q0, q1, q2⟩ := box3 A0.out
  obtain ⟨x0, x1, x2⟩ := box3 X0.out
  have t0 := X0.out.thaw 0
  have t1 := X0.out.thaw 1
  have t2 := X0.out.thaw 2
  go_enter Tryd.func63, Tryd.ntmps63
  go_wp2
  refine ret32 Tryd.results63 rfl rfl rfl (put3_box X0.out _ _ _) ⟨?_, put3_below B0.out (by omega) _ _ _⟩
  rw [E.out]
  rfl
set_option maxRecDepth 100000 in
set_option maxHeartbeats 4000000 in
theorem c_uI_3 (op k n : Int) (t : ByteArray) (w : World) (p4 : (op == 4) = false) (k2 : (k == 2) = false) (k0 : (k == 0) = false) (p3 : (op == 3) = true) (E : Hid (unaE op k n = numE (trI (n == 0)))) :
    Calls Tryd.prog 63 #[.int .i64 op, .agg #[.int .i64 k, .int .i64 n, .string t]] w fun e w' => e = .returned (.tuple #[.agg #[.int .i64 (unaE op k n).k, .int .i64 (unaE op k n).n, .string (unaE op k n).t], .int .i64 (unaE op k n).c]) ∧ Below w.heap.size w w' := by
  obtain ⟨w0, hV0⟩ : ∃ V, (w.alloc (.cells #[.int .i64 k, .int .i64 n, .string t] 29)).alloc (.cells #[.int .i64 0, .int .i64 0, .string ⟨#[]⟩] 29) = V := ⟨_, rfl⟩
  have B0 : Hid (Below w.heap.size w w0) := by unfold Hid; rw [← hV0]; exact ((Below.refl _ _).alloc (Nat.le_refl _) _).alloc (by simp) _
  have A0 : Hid (Box w0 w.heap.size 29 #[.int .i64 k, .int .i64 n, .string t]) := by unfold Hid; rw [← hV0]; exact (Box.new _ _ _).alloc _
  have X0 : Hid (Box w0 (w.heap.size + 1) 29 #[.int .i64 0, .int .i64 0, .string ⟨#[]⟩]) := by unfold Hid; rw [← hV0]; exact Box.new2 _ _ _ _
  obtain ⟨q0, q1, q2⟩ := box3 A0.out
  obtain ⟨x0, x1, x2⟩ := box3 X0.out
  have t0 := X0.out.thaw 0
  have t1 := X0.out.thaw 1
  have t2 := X0.out.thaw 2
  go_enter Tryd.func63, Tryd.ntmps63
  go_wp2_with fail
  refine (c_truth (n == 0) _).mono ?_
  rintro e w1 ⟨rfl, hb⟩
  have B1 : Hid (Below w.heap.size w w1) := B0.out.trans (hb.mono B0.out.size)
  have X1 : Hid (Box w1 (w.heap.size + 1) 29 #[.int .i64 0, .int .i64 0, .string ⟨#[]⟩]) := X0.out.belowS hb
  clear hb q0 q1 q2 x0 x1 x2 t0 t1 t2
  obtain ⟨x0, x1, x2⟩ := box3 X1.out
  have t0 := X1.out.thaw 0
  have t1 := X1.out.thaw 1
  have t2 := X1.out.thaw 2
  go_wp2
  refine ret32 Tryd.results63 rfl rfl rfl (put3_box X1.out _ _ _) ⟨?_, put3_below B1.out (by omega) _ _ _⟩
  rw [E.out]
  rfl
set_option maxRecDepth 100000 in
set_option maxHeartbeats 4000000 in
theorem c_uI_5 (op k n : Int) (t : ByteArray) (w : World) (p4 : (op == 4) = false) (k2 : (k == 2) = false) (k0 : (k == 0) = false) (p3 : (op == 3) = false) (W : wrap64 (-n) = -n) (E : Hid (unaE op k n = numE (-n))) :
    Calls Tryd.prog 63 #[.int .i64 op, .agg #[.int .i64 k, .int .i64 n, .string t]] w fun e w' => e = .returned (.tuple #[.agg #[.int .i64 (unaE op k n).k, .int .i64 (unaE op k n).n, .string (unaE op k n).t], .int .i64 (unaE op k n).c]) ∧ Below w.heap.size w w' := by
  obtain ⟨w0, hV0⟩ : ∃ V, (w.alloc (.cells #[.int .i64 k, .int .i64 n, .string t] 29)).alloc (.cells #[.int .i64 0, .int .i64 0, .string ⟨#[]⟩] 29) = V := ⟨_, rfl⟩
  have B0 : Hid (Below w.heap.size w w0) := by unfold Hid; rw [← hV0]; exact ((Below.refl _ _).alloc (Nat.le_refl _) _).alloc (by simp) _
  have A0 : Hid (Box w0 w.heap.size 29 #[.int .i64 k, .int .i64 n, .string t]) := by unfold Hid; rw [← hV0]; exact (Box.new _ _ _).alloc _
  have X0 : Hid (Box w0 (w.heap.size + 1) 29 #[.int .i64 0, .int .i64 0, .string ⟨#[]⟩]) := by unfold Hid; rw [← hV0]; exact Box.new2 _ _ _ _
  obtain ⟨q0, q1, q2⟩ := box3 A0.out
  obtain ⟨x0, x1, x2⟩ := box3 X0.out
  have t0 := X0.out.thaw 0
  have t1 := X0.out.thaw 1
  have t2 := X0.out.thaw 2
  go_enter Tryd.func63, Tryd.ntmps63
  go_wp2
  refine ret32 Tryd.results63 rfl rfl rfl (put3_box X0.out _ _ _) ⟨?_, put3_below B0.out (by omega) _ _ _⟩
  rw [E.out]
  rfl
set_option maxRecDepth 100000 in
set_option maxHeartbeats 4000000 in
theorem c_uS_4 (op k n : Int) (t : ByteArray) (w : World) (p4 : (op == 4) = true) (E : Hid (unaE op k n = numE (trI (k == 0)))) :
    Calls Tryd.prog 43 #[.int .i64 op, .agg #[.int .i64 k, .int .i64 n, .string t]] w fun e w' => e = .returned (.tuple #[.agg #[.int .i64 (unaE op k n).k, .int .i64 (unaE op k n).n, .string (unaE op k n).t], .int .i64 (unaE op k n).c]) ∧ Below w.heap.size w w' := by
  obtain ⟨w0, hV0⟩ : ∃ V, (w.alloc (.cells #[.int .i64 k, .int .i64 n, .string t] 29)).alloc (.cells #[.int .i64 0, .int .i64 0, .string ⟨#[]⟩] 29) = V := ⟨_, rfl⟩
  have B0 : Hid (Below w.heap.size w w0) := by unfold Hid; rw [← hV0]; exact ((Below.refl _ _).alloc (Nat.le_refl _) _).alloc (by simp) _
  have A0 : Hid (Box w0 w.heap.size 29 #[.int .i64 k, .int .i64 n, .string t]) := by unfold Hid; rw [← hV0]; exact (Box.new _ _ _).alloc _
  have X0 : Hid (Box w0 (w.heap.size + 1) 29 #[.int .i64 0, .int .i64 0, .string ⟨#[]⟩]) := by unfold Hid; rw [← hV0]; exact Box.new2 _ _ _ _
  obtain ⟨q0, q1, q2⟩ := box3 A0.out
  obtain ⟨x0, x1, x2⟩ := box3 X0.out
  have t0 := X0.out.thaw 0
  have t1 := X0.out.thaw 1
  have t2 := X0.out.thaw 2
  go_enter Tryd.func43, Tryd.ntmps43
  go_wp2_with fail
  refine (c_bitT (k == 0) _).mono ?_
  rintro e w' ⟨rfl, rfl⟩
  go_wp2_with fail
  refine (c_l10Int (trI (k == 0)) _).mono ?_
  rintro e w1 ⟨rfl, hb⟩
  have B1 : Hid (Below w.heap.size w w1) := B0.out.trans (hb.mono B0.out.size)
  have X1 : Hid (Box w1 (w.heap.size + 1) 29 #[.int .i64 0, .int .i64 0, .string ⟨#[]⟩]) := X0.out.belowS hb
  clear hb q0 q1 q2 x0 x1 x2 t0 t1 t2
  obtain ⟨x0, x1, x2⟩ := box3 X1.out
  have t0 := X1.out.thaw 0
  have t1 := X1.out.thaw 1
  have t2 := X1.out.thaw 2
  go_wp2
  refine ret32 Tryd.results43 rfl rfl rfl (put3_box X1.out _ _ _) ⟨?_, put3_below B1.out (by omega) _ _ _⟩
  rw [E.out]
  rfl
set_option maxRecDepth 100000 in
set_option maxHeartbeats 4000000 in
theorem c_uS_2 (op k n : Int) (t : ByteArray) (w : World) (p4 : (op == 4) = false) (k2 : (k == 2) = true) (E : Hid (unaE op k n = errE 10)) :
    Calls Tryd.prog 43 #[.int .i64 op, .agg #[.int .i64 k, .int .i64 n, .string t]] w fun e w' => e = .returned (.tuple #[.agg #[.int .i64 (unaE op k n).k, .int .i64 (unaE op k n).n, .string (unaE op k n).t], .int .i64 (unaE op k n).c]) ∧ Below w.heap.size w w' := by
  obtain ⟨w0, hV0⟩ : ∃ V, (w.alloc (.cells #[.int .i64 k, .int .i64 n, .string t] 29)).alloc (.cells #[.int .i64 0, .int .i64 0, .string ⟨#[]⟩] 29) = V := ⟨_, rfl⟩
  have B0 : Hid (Below w.heap.size w w0) := by unfold Hid; rw [← hV0]; exact ((Below.refl _ _).alloc (Nat.le_refl _) _).alloc (by simp) _
  have A0 : Hid (Box w0 w.heap.size 29 #[.int .i64 k, .int .i64 n, .string t]) := by unfold Hid; rw [← hV0]; exact (Box.new _ _ _).alloc _
  have X0 : Hid (Box w0 (w.heap.size + 1) 29 #[.int .i64 0, .int .i64 0, .string ⟨#[]⟩]) := by unfold Hid; rw [← hV0]; exact Box.new2 _ _ _ _
  obtain ⟨q0, q1, q2⟩ := box3 A0.out
  obtain ⟨x0, x1, x2⟩ := box3 X0.out
  have t0 := X0.out.thaw 0
  have t1 := X0.out.thaw 1
  have t2 := X0.out.thaw 2
  go_enter Tryd.func43, Tryd.ntmps43
  go_wp2
  refine ret32 Tryd.results43 rfl rfl rfl (put3_box X0.out _ _ _) ⟨?_, put3_below B0.out (by omega) _ _ _⟩
  rw [E.out]
  rfl
set_option maxRecDepth 100000 in
set_option maxHeartbeats 4000000 in
theorem c_uS_0 (op k n : Int) (t : ByteArray) (w : World) (p4 : (op == 4) = false) (k2 : (k == 2) = false) (k0 : (k == 0) = true) (E : Hid (unaE op k n = ⟨k, n, t, 0⟩)) :
    Calls Tryd.prog 43 #[.int .i64 op, .agg #[.int .i64 k, .int .i64 n, .string t]] w fun e w' => e = .returned (.tuple #[.agg #[.int .i64 (unaE op k n).k, .int .i64 (unaE op k n).n, .string (unaE op k n).t], .int .i64 (unaE op k n).c]) ∧ Below w.heap.size w w' := by
  obtain ⟨w0, hV0⟩ : ∃ V, (w.alloc (.cells #[.int .i64 k, .int .i64 n, .string t] 29)).alloc (.cells #[.int .i64 0, .int .i64 0, .string ⟨#[]⟩] 29) = V := ⟨_, rfl⟩
  have B0 : Hid (Below w.heap.size w w0) := by unfold Hid; rw [← hV0]; exact ((Below.refl _ _).alloc (Nat.le_refl _) _).alloc (by simp) _
  have A0 : Hid (Box w0 w.heap.size 29 #[.int .i64 k, .int .i64 n, .string t]) := by unfold Hid; rw [← hV0]; exact (Box.new _ _ _).alloc _
  have X0 : Hid (Box w0 (w.heap.size + 1) 29 #[.int .i64 0, .int .i64 0, .string ⟨#[]⟩]) := by unfold Hid; rw [← hV0]; exact Box.new2 _ _ _ _
  obtain ⟨q0, q1, q2⟩ := box3 A0.out
  obtain ⟨x0, x1, x2⟩ := box3 X0.out
  have t0 := X0.out.thaw 0
  have t1 := X0.out.thaw 1
  have t2 := X0.out.thaw 2
  go_enter Tryd.func43, Tryd.ntmps43
  go_wp2
  refine ret32 Tryd.results43 rfl rfl rfl (put3_box X0.out _ _ _) ⟨?_, put3_below B0.out (by omega) _ _ _⟩
  rw [E.out]
  rfl
set_option maxRecDepth 100000 in
set_option maxHeartbeats 4000000 in
theorem c_uS_3 (op k n : Int) (t : ByteArray) (w : World) (p4 : (op == 4) = false) (k2 : (k == 2) = false) (k0 : (k == 0) = false) (p3 : (op == 3) = true) (E : Hid (unaE op k n = numE (trI (n == 0)))) :
    Calls Tryd.prog 43 #[.int .i64 op, .agg #[.int .i64 k, .int .i64 n, .string t]] w fun e w' => e = .returned (.tuple #[.agg #[.int .i64 (unaE op k n).k, .int .i64 (unaE op k n).n, .string (unaE op k n).t], .int .i64 (unaE op k n).c]) ∧ Below w.heap.size w w' := by
  obtain ⟨w0, hV0⟩ : ∃ V, (w.alloc (.cells #[.int .i64 k, .int .i64 n, .string t] 29)).alloc (.cells #[.int .i64 0, .int .i64 0, .string ⟨#[]⟩] 29) = V := ⟨_, rfl⟩
  have B0 : Hid (Below w.heap.size w w0) := by unfold Hid; rw [← hV0]; exact ((Below.refl _ _).alloc (Nat.le_refl _) _).alloc (by simp) _
  have A0 : Hid (Box w0 w.heap.size 29 #[.int .i64 k, .int .i64 n, .string t]) := by unfold Hid; rw [← hV0]; exact (Box.new _ _ _).alloc _
  have X0 : Hid (Box w0 (w.heap.size + 1) 29 #[.int .i64 0, .int .i64 0, .string ⟨#[]⟩]) := by unfold Hid; rw [← hV0]; exact Box.new2 _ _ _ _
  obtain ⟨q0, q1, q2⟩ := box3 A0.out
  obtain ⟨x0, x1, x2⟩ := box3 X0.out
  have t0 := X0.out.thaw 0
  have t1 := X0.out.thaw 1
  have t2 := X0.out.thaw 2
  go_enter Tryd.func43, Tryd.ntmps43
  go_wp2_with fail
  refine (c_bitT (n == 0) _).mono ?_
  rintro e w' ⟨rfl, rfl⟩
  go_wp2_with fail
  refine (c_l10Int (trI (n == 0)) _).mono ?_
  rintro e w1 ⟨rfl, hb⟩
  have B1 : Hid (Below w.heap.size w w1) := B0.out.trans (hb.mono B0.out.size)
  have X1 : Hid (Box w1 (w.heap.size + 1) 29 #[.int .i64 0, .int .i64 0, .string ⟨#[]⟩]) := X0.out.belowS hb
  clear hb q0 q1 q2 x0 x1 x2 t0 t1 t2
  obtain ⟨x0, x1, x2⟩ := box3 X1.out
  have t0 := X1.out.thaw 0
  have t1 := X1.out.thaw 1
  have t2 := X1.out.thaw 2
  go_wp2
  refine ret32 Tryd.results43 rfl rfl rfl (put3_box X1.out _ _ _) ⟨?_, put3_below B1.out (by omega) _ _ _⟩
  rw [E.out]
  rfl
set_option maxRecDepth 100000 in
set_option maxHeartbeats 4000000 in
theorem c_uS_5 (op k n : Int) (t : ByteArray) (w : World) (p4 : (op == 4) = false) (k2 : (k == 2) = false) (k0 : (k == 0) = false) (p3 : (op == 3) = false) (W : wrap64 (-n) = -n) (E : Hid (unaE op k n = numE (-n))) :
    Calls Tryd.prog 43 #[.int .i64 op, .agg #[.int .i64 k, .int .i64 n, .string t]] w fun e w' => e = .returned (.tuple #[.agg #[.int .i64 (unaE op k n).k, .int .i64 (unaE op k n).n, .string (unaE op k n).t], .int .i64 (unaE op k n).c]) ∧ Below w.heap.size w w' := by
  obtain ⟨w0, hV0⟩ : ∃ V, (w.alloc (.cells #[.int .i64 k, .int .i64 n, .string t] 29)).alloc (.cells #[.int .i64 0, .int .i64 0, .string ⟨#[]⟩] 29) = V := ⟨_, rfl⟩
  have B0 : Hid (Below w.heap.size w w0) := by unfold Hid; rw [← hV0]; exact ((Below.refl _ _).alloc (Nat.le_refl _) _).alloc (by simp) _
  have A0 : Hid (Box w0 w.heap.size 29 #[.int .i64 k, .int .i64 n, .string t]) := by unfold Hid; rw [← hV0]; exact (Box.new _ _ _).alloc _
  have X0 : Hid (Box w0 (w.heap.size + 1) 29 #[.int .i64 0, .int .i64 0, .string ⟨#[]⟩]) := by unfold Hid; rw [← hV0]; exact Box.new2 _ _ _ _
  obtain ⟨q0, q1, q2⟩ := box3 A0.out
  obtain ⟨x0, x1, x2⟩ := box3 X0.out
  have t0 := X0.out.thaw 0
  have t1 := X0.out.thaw 1
  have t2 := X0.out.thaw 2
  go_enter Tryd.func43, Tryd.ntmps43
  go_wp2_with fail
  refine (c_l10Int (-n) _).mono ?_
  rintro e w1 ⟨rfl, hb⟩
  have B1 : Hid (Below w.heap.size w w1) := B0.out.trans (hb.mono B0.out.size)
  have X1 : Hid (Box w1 (w.heap.size + 1) 29 #[.int .i64 0, .int .i64 0, .string ⟨#[]⟩]) := X0.out.belowS hb
  clear hb q0 q1 q2 x0 x1 x2 t0 t1 t2
  obtain ⟨x0, x1, x2⟩ := box3 X1.out
  have t0 := X1.out.thaw 0
  have t1 := X1.out.thaw 1
  have t2 := X1.out.thaw 2
  go_wp2
  refine ret32 Tryd.results43 rfl rfl rfl (put3_box X1.out _ _ _) ⟨?_, put3_below B1.out (by omega) _ _ _⟩
  rw [E.out]
  rfl
set_option maxRecDepth 100000 in
set_option maxHeartbeats 4000000 in
theorem c_uI (op k n : Int) (t : ByteArray) (w : World) (h : valB k n t = true) : Calls Tryd.prog 63 #[.int .i64 op, .agg #[.int .i64 k, .int .i64 n, .string t]] w fun e w' => e = .returned (.tuple #[.agg #[.int .i64 (unaE op k n).k, .int .i64 (unaE op k n).n, .string (unaE op k n).t], .int .i64 (unaE op k n).c]) ∧ Below w.heap.size w w' := by
  have hr := rt_of h
  have W : wrap64 (-n) = -n := wrapS (by have := hr.n1; omega) (by have := hr.n0; omega)
  have hz : k = 0 → n = 0 ∧ t = ⟨#[]⟩ := fun e => val_nothing (e ▸ h)
  clear h hr
  cases p4 : (op == 4)
  · cases k2 : (k == 2)
    · cases k0 : (k == 0)
      · cases p3 : (op == 3)
        · exact c_uI_5 op k n t w p4 k2 k0 p3 W (by unfold Hid unaE; simp_all)
        · exact c_uI_3 op k n t w p4 k2 k0 p3 (by unfold Hid unaE; simp_all)
      · exact c_uI_0 op k n t w p4 k2 k0 (by unfold Hid unaE; simp_all [errE])
    · exact c_uI_2 op k n t w p4 k2 (by unfold Hid unaE; simp_all)
  · exact c_uI_4 op k n t w p4 (by unfold Hid unaE; simp_all)
set_option maxRecDepth 100000 in
set_option maxHeartbeats 4000000 in
theorem c_uS (op k n : Int) (t : ByteArray) (w : World) (h : valB k n t = true) : Calls Tryd.prog 43 #[.int .i64 op, .agg #[.int .i64 k, .int .i64 n, .string t]] w fun e w' => e = .returned (.tuple #[.agg #[.int .i64 (unaE op k n).k, .int .i64 (unaE op k n).n, .string (unaE op k n).t], .int .i64 (unaE op k n).c]) ∧ Below w.heap.size w w' := by
  have hr := rt_of h
  have W : wrap64 (-n) = -n := wrapS (by have := hr.n1; omega) (by have := hr.n0; omega)
  have hz : k = 0 → n = 0 ∧ t = ⟨#[]⟩ := fun e => val_nothing (e ▸ h)
  clear h hr
  cases p4 : (op == 4)
  · cases k2 : (k == 2)
    · cases k0 : (k == 0)
      · cases p3 : (op == 3)
        · exact c_uS_5 op k n t w p4 k2 k0 p3 W (by unfold Hid unaE; simp_all)
        · exact c_uS_3 op k n t w p4 k2 k0 p3 (by unfold Hid unaE; simp_all)
      · exact c_uS_0 op k n t w p4 k2 k0 (by unfold Hid unaE; have := hz (by simpa using k0); simp_all [errE])
    · exact c_uS_2 op k n t w p4 k2 (by unfold Hid unaE; simp_all)
  · exact c_uS_4 op k n t w p4 (by unfold Hid unaE; simp_all)

end Go.Proofs.YtcgcaomaofppiaaDoor
