/-
  The walks of CompareValues: the program's, by cmp.Compare, and the specification's answer alike.
-/
import Derived.Test.YtcgcaomaofppiaaDoorVal
namespace Go.Proofs.YtcgcaomaofppiaaDoor
open Go Go.RowKit

theorem less_irr : ∀ l : List UInt8, Op.bytesLess l l = false
  | [] => rfl
  | c :: l => by simp [Op.bytesLess, less_irr l]

def cmpI (a b : Int) : Int := if a < b then -1 else if b < a then 1 else 0
def lessS (a b : ByteArray) : Bool := Op.bytesLess a.toList b.toList
def eqS (a b : ByteArray) : Bool := a.toList == b.toList
theorem eq_less {a b : ByteArray} (h : eqS a b = true) : lessS a b = false := by
  unfold eqS at h; unfold lessS; rw [beq_iff_eq] at h; rw [h]; exact less_irr _
def cmpS (a b : ByteArray) : Int := if eqS a b then 0 else if lessS a b then -1 else 1
def cmpV (k n : Int) (t : ByteArray) (k' n' : Int) (t' : ByteArray) : Int :=
  if k ≠ k' then cmpI k k' else if n ≠ n' then cmpI n n' else cmpS t t'

set_option maxHeartbeats 400000 in
theorem c_cmpI (a b : Int) (w : World) : Calls Tryd.prog 93 #[.int .i64 a, .int .i64 b] w fun e w' => e = .returned (.int .i64 (cmpI a b)) ∧ w' = w := by
  by_cases h1 : a < b
  · have e : Hid (cmpI a b = -1) := by unfold Hid; unfold cmpI; rw [if_pos h1]
    go_enter Tryd.func93, Tryd.ntmps93
    go_wp2
    go_ret
    exact ⟨ret_int e.out.symm, rfl⟩
  · by_cases h2 : b < a
    · have e : Hid (cmpI a b = 1) := by unfold Hid; unfold cmpI; rw [if_neg h1, if_pos h2]
      go_enter Tryd.func93, Tryd.ntmps93
      go_wp2
      go_ret
      exact ⟨ret_int e.out.symm, rfl⟩
    · have e : Hid (cmpI a b = 0) := by unfold Hid; unfold cmpI; rw [if_neg h1, if_neg h2]
      go_enter Tryd.func93, Tryd.ntmps93
      go_wp2
      go_ret
      exact ⟨ret_int e.out.symm, rfl⟩

set_option maxHeartbeats 400000 in
theorem c_cmpS (a b : ByteArray) (w : World) : Calls Tryd.prog 94 #[.string a, .string b] w fun e w' => e = .returned (.int .i64 (cmpS a b)) ∧ w' = w := by
  cases h1 : eqS a b
  · cases h2 : lessS a b
    · have e : Hid (cmpS a b = 1) := by unfold Hid; unfold cmpS; rw [h1, h2]; rfl
      unfold eqS at h1
      unfold lessS at h2
      go_enter Tryd.func94, Tryd.ntmps94
      go_wp2
      go_ret
      exact ⟨ret_int e.out.symm, rfl⟩
    · have e : Hid (cmpS a b = -1) := by unfold Hid; unfold cmpS; rw [h1, h2]; rfl
      unfold eqS at h1
      unfold lessS at h2
      go_enter Tryd.func94, Tryd.ntmps94
      go_wp2
      go_ret
      exact ⟨ret_int e.out.symm, rfl⟩
  · have h2 := eq_less h1
    have e : Hid (cmpS a b = 0) := by unfold Hid; unfold cmpS; rw [h1]; rfl
    unfold eqS at h1
    unfold lessS at h2
    go_enter Tryd.func94, Tryd.ntmps94
    go_wp2
    go_ret
    exact ⟨ret_int e.out.symm, rfl⟩

theorem c_bit (b : Bool) (w : World) : Calls Tryd.prog 46 #[.bool b] w fun e w' => e = .returned (.int .i64 (if b then 1 else 0)) ∧ w' = w := by
  cases b
  all_goals
    go_enter Tryd.func46, Tryd.ntmps46
    go_wp2
    go_ret
    exact ⟨rfl, rfl⟩

set_option maxHeartbeats 1000000 in
theorem c_cmpR (k n : Int) (t : ByteArray) (k' n' : Int) (t' : ByteArray) (w : World) :
    Calls Tryd.prog 89 #[.agg #[.int .i64 k, .int .i64 n, .string t], .agg #[.int .i64 k', .int .i64 n', .string t']] w fun e w' => e = .returned (.int .i64 (cmpV k n t k' n' t')) ∧ Below w.heap.size w w' := by
  have bz : ∀ o o', Below w.heap.size w ((w.alloc o).alloc o') := fun o o' => ((Below.refl _ _).alloc (Nat.le_refl _) _).alloc (by simp) _
  by_cases h1 : k = k'
  · have e1 : (cmpI k k' != 0) = false := by subst h1; simp [cmpI]
    by_cases h2 : n = n'
    · have e2 : (cmpI n n' != 0) = false := by subst h2; simp [cmpI]
      have E : Hid (cmpV k n t k' n' t' = cmpS t t') := by unfold cmpV Hid; simp [h1, h2]
      clear h1 h2
      go_enter Tryd.func89, Tryd.ntmps89
      go_wp2_with (first | (go_at_call 93; refine (c_cmpI _ _ _).mono ?_; rintro e w' ⟨rfl, rfl⟩) | (go_at_call 94; refine (c_cmpS _ _ _).mono ?_; rintro e w' ⟨rfl, rfl⟩))
      go_ret
      exact ⟨ret_int E.out.symm, bz _ _⟩
    · have e2 : (cmpI n n' != 0) = true := by unfold cmpI; simp; split <;> (try split) <;> omega
      have E : Hid (cmpV k n t k' n' t' = cmpI n n') := by unfold cmpV Hid; simp [h1, h2]
      clear h1 h2
      go_enter Tryd.func89, Tryd.ntmps89
      go_wp2_with (first | (go_at_call 93; refine (c_cmpI _ _ _).mono ?_; rintro e w' ⟨rfl, rfl⟩) | (go_at_call 94; refine (c_cmpS _ _ _).mono ?_; rintro e w' ⟨rfl, rfl⟩))
      go_ret
      exact ⟨ret_int E.out.symm, bz _ _⟩
  · have e1 : (cmpI k k' != 0) = true := by unfold cmpI; simp; split <;> (try split) <;> omega
    have E : Hid (cmpV k n t k' n' t' = cmpI k k') := by unfold cmpV Hid; simp [h1]
    clear h1
    go_enter Tryd.func89, Tryd.ntmps89
    go_wp2_with (first | (go_at_call 93; refine (c_cmpI _ _ _).mono ?_; rintro e w' ⟨rfl, rfl⟩) | (go_at_call 94; refine (c_cmpS _ _ _).mono ?_; rintro e w' ⟨rfl, rfl⟩))
    go_ret
    exact ⟨ret_int E.out.symm, bz _ _⟩

set_option maxHeartbeats 1000000 in
theorem c_cmpL (k n : Int) (t : ByteArray) (k' n' : Int) (t' : ByteArray) (w : World) :
    Calls Tryd.prog 71 #[.agg #[.int .i64 k, .int .i64 n, .string t], .agg #[.int .i64 k', .int .i64 n', .string t']] w fun e w' => e = .returned (.int .i64 (cmpV k n t k' n' t')) ∧ Below w.heap.size w w' := by
  have bz : ∀ o o', Below w.heap.size w ((w.alloc o).alloc o') := fun o o' => ((Below.refl _ _).alloc (Nat.le_refl _) _).alloc (by simp) _
  by_cases h1 : k = k'
  · have e1 : (k != k') = false := by simp [h1]
    by_cases h2 : n = n'
    · have e2 : (n != n') = false := by simp [h2]
      have E : Hid (cmpV k n t k' n' t' = cmpS t t') := by unfold cmpV Hid; simp [h1, h2]
      clear h1 h2
      cases h3 : eqS t t'
      · have E3 : Hid (cmpS t t' = if lessS t t' then -1 else 1) := by unfold cmpS Hid; rw [h3]; rfl
        unfold eqS at h3
        cases h4 : lessS t t'
        all_goals
          have E4 := E3
          rw [h4] at E4
          unfold lessS at h4
          have h3' : (t.toList != t'.toList) = true := by simp [bne, h3]
          go_enter Tryd.func71, Tryd.ntmps71
          go_wp2_with (go_at_call 46; refine (c_bit _ _).mono ?_; rintro e w' ⟨rfl, rfl⟩)
          go_ret
          exact ⟨ret_int (by rw [E.out, E4.out]; rfl), bz _ _⟩
      · have E3 : Hid (cmpS t t' = 0) := by unfold cmpS Hid; rw [h3]; rfl
        unfold eqS at h3
        have h3' : (t.toList != t'.toList) = false := by simp [bne, h3]
        go_enter Tryd.func71, Tryd.ntmps71
        go_wp2
        go_ret
        exact ⟨ret_int (by rw [E.out, E3.out]), bz _ _⟩
    · have e2 : (n != n') = true := by simpa using h2
      have E : Hid (cmpV k n t k' n' t' = cmpI n n') := by unfold cmpV Hid; simp [h1, h2]
      have N : Hid (n ≠ n') := h2
      clear h1 h2
      go_enter Tryd.func71, Tryd.ntmps71
      go_wp2_with (go_at_call 46; refine (c_bit _ _).mono ?_; rintro e w' ⟨rfl, rfl⟩)
      all_goals go_ret
      all_goals exact ⟨ret_int (by have := N.out; rw [E.out]; unfold cmpI; split <;> (try split) <;> omega), bz _ _⟩
  · have e1 : (k != k') = true := by simpa using h1
    have E : Hid (cmpV k n t k' n' t' = cmpI k k') := by unfold cmpV Hid; simp [h1]
    have N : Hid (k ≠ k') := h1
    clear h1
    go_enter Tryd.func71, Tryd.ntmps71
    go_wp2_with (go_at_call 46; refine (c_bit _ _).mono ?_; rintro e w' ⟨rfl, rfl⟩)
    all_goals go_ret
    all_goals exact ⟨ret_int (by have := N.out; rw [E.out]; unfold cmpI; split <;> (try split) <;> omega), bz _ _⟩

def cmpA (k n : Int) (t : ByteArray) (k' n' : Int) (t' : ByteArray) : Int := if valB k n t && valB k' n' t' then cmpV k n t k' n' t' else 0
def cmpE (k n : Int) (t : ByteArray) (k' n' : Int) (t' : ByteArray) : Int := if valB k n t && valB k' n' t' then 0 else 1
theorem ret_two {a b c d : Int} (h : a = b) (h' : c = d) : Ending.returned (.tuple #[.int .i64 a, .int .i64 c]) = .returned (.tuple #[.int .i64 b, .int .i64 d]) := by rw [h, h']

end Go.Proofs.YtcgcaomaofppiaaDoor
