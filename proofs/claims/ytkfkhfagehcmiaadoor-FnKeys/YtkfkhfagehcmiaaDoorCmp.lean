/-
  The walks of CompareValues: the program's, by cmp.Compare, and the specification's answer alike.
-/
import Derived.Test.YtkfkhfagehcmiaaDoorVal
import Derived.Test.YtkfkhfagehcmiaaDoorKi
namespace Go.Proofs.YtkfkhfagehcmiaaDoor
open Go Go.RowKit

theorem less_irr : ∀ l : List UInt8, Op.bytesLess l l = false
  | [] => rfl
  | c :: l => by simp [Op.bytesLess, less_irr l]

def cmpI (a b : Int) : Int := if a < b then -1 else if b < a then 1 else 0
def lessS (a b : ByteArray) : Bool := Op.bytesLess a.toList b.toList
def eqS (a b : ByteArray) : Bool := a.toList == b.toList
theorem eq_less {a b : ByteArray} (h : eqS a b = true) : lessS a b = false := by
  unfold eqS at h; unfold lessS; rw [beq_iff_eq] at h; rw [h]; exact less_irr _
def cmpS (a b : ByteArray) : Int := if eqS a b then 0 else if lessS a b then -1 else 1
def cmpV (k n : Int) (t : ByteArray) (k' n' : Int) (t' : ByteArray) : Int :=
  if k ≠ k' then cmpI k k' else if n ≠ n' then cmpI n n' else cmpS t t'

set_option maxRecDepth 100000 in
set_option maxHeartbeats 400000 in
theorem c_cmpI (a b : Int) (w : World) : Calls Tryd.prog 38 #[.int .i64 a, .int .i64 b] w fun e w' => e = .returned (.int .i64 (cmpI a b)) ∧ w' = w := by
  by_cases h1 : a < b
  · have e : Hid (cmpI a b = -1) := by unfold Hid; unfold cmpI; rw [if_pos h1]
    go_enter Tryd.func38, Tryd.ntmps38
    go_wp2
    go_ret
    exact ⟨ret_int e.out.symm, rfl⟩
  · by_cases h2 : b < a
    · have e : Hid (cmpI a b = 1) := by unfold Hid; unfold cmpI; rw [if_neg h1, if_pos h2]
      go_enter Tryd.func38, Tryd.ntmps38
      go_wp2
      go_ret
      exact ⟨ret_int e.out.symm, rfl⟩
    · have e : Hid (cmpI a b = 0) := by unfold Hid; unfold cmpI; rw [if_neg h1, if_neg h2]
      go_enter Tryd.func38, Tryd.ntmps38
      go_wp2
      go_ret
      exact ⟨ret_int e.out.symm, rfl⟩

set_option maxRecDepth 100000 in
set_option maxHeartbeats 400000 in
theorem c_cmpS (a b : ByteArray) (w : World) : Calls Tryd.prog 39 #[.string a, .string b] w fun e w' => e = .returned (.int .i64 (cmpS a b)) ∧ w' = w := by
  cases h1 : eqS a b
  · cases h2 : lessS a b
    · have e : Hid (cmpS a b = 1) := by unfold Hid; unfold cmpS; rw [h1, h2]; rfl
      unfold eqS at h1
      unfold lessS at h2
      go_enter Tryd.func39, Tryd.ntmps39
      go_wp2
      go_ret
      exact ⟨ret_int e.out.symm, rfl⟩
    · have e : Hid (cmpS a b = -1) := by unfold Hid; unfold cmpS; rw [h1, h2]; rfl
      unfold eqS at h1
      unfold lessS at h2
      go_enter Tryd.func39, Tryd.ntmps39
      go_wp2
      go_ret
      exact ⟨ret_int e.out.symm, rfl⟩
  · have h2 := eq_less h1
    have e : Hid (cmpS a b = 0) := by unfold Hid; unfold cmpS; rw [h1]; rfl
    unfold eqS at h1
    unfold lessS at h2
    go_enter Tryd.func39, Tryd.ntmps39
    go_wp2
    go_ret
    exact ⟨ret_int e.out.symm, rfl⟩

set_option maxRecDepth 100000 in
set_option maxHeartbeats 1000000 in
theorem c_cmpR (k n : Int) (t : ByteArray) (k' n' : Int) (t' : ByteArray) (w : World) :
    Calls Tryd.prog 27 #[.agg #[.int .i64 k, .int .i64 n, .string t], .agg #[.int .i64 k', .int .i64 n', .string t']] w fun e w' => e = .returned (.int .i64 (cmpV k n t k' n' t')) ∧ Below w.heap.size w w' := by
  have bz : ∀ o o', Below w.heap.size w ((w.alloc o).alloc o') := fun o o' => ((Below.refl _ _).alloc (Nat.le_refl _) _).alloc (by simp) _
  by_cases h1 : k = k'
  · have e1 : (cmpI k k' != 0) = false := by subst h1; simp [cmpI]
    by_cases h2 : n = n'
    · have e2 : (cmpI n n' != 0) = false := by subst h2; simp [cmpI]
      have E : Hid (cmpV k n t k' n' t' = cmpS t t') := by unfold cmpV Hid; simp [h1, h2]
      clear h1 h2
      go_enter Tryd.func27, Tryd.ntmps27
      go_wp2_with (first | (go_at_call 38; refine (c_cmpI _ _ _).mono ?_; rintro e w' ⟨rfl, rfl⟩) | (go_at_call 39; refine (c_cmpS _ _ _).mono ?_; rintro e w' ⟨rfl, rfl⟩))
      go_ret
      exact ⟨ret_int E.out.symm, bz _ _⟩
    · have e2 : (cmpI n n' != 0) = true := by unfold cmpI; simp; split <;> (try split) <;> omega
      have E : Hid (cmpV k n t k' n' t' = cmpI n n') := by unfold cmpV Hid; simp [h1, h2]
      clear h1 h2
      go_enter Tryd.func27, Tryd.ntmps27
      go_wp2_with (first | (go_at_call 38; refine (c_cmpI _ _ _).mono ?_; rintro e w' ⟨rfl, rfl⟩) | (go_at_call 39; refine (c_cmpS _ _ _).mono ?_; rintro e w' ⟨rfl, rfl⟩))
      go_ret
      exact ⟨ret_int E.out.symm, bz _ _⟩
  · have e1 : (cmpI k k' != 0) = true := by unfold cmpI; simp; split <;> (try split) <;> omega
    have E : Hid (cmpV k n t k' n' t' = cmpI k k') := by unfold cmpV Hid; simp [h1]
    clear h1
    go_enter Tryd.func27, Tryd.ntmps27
    go_wp2_with (first | (go_at_call 38; refine (c_cmpI _ _ _).mono ?_; rintro e w' ⟨rfl, rfl⟩) | (go_at_call 39; refine (c_cmpS _ _ _).mono ?_; rintro e w' ⟨rfl, rfl⟩))
    go_ret
    exact ⟨ret_int E.out.symm, bz _ _⟩

def cmpA (k n : Int) (t : ByteArray) (k' n' : Int) (t' : ByteArray) : Int := if valB k n t && valB k' n' t' then cmpV k n t k' n' t' else 0
def cmpE (k n : Int) (t : ByteArray) (k' n' : Int) (t' : ByteArray) : Int := if valB k n t && valB k' n' t' then 0 else 1
theorem ret_two {a b c d : Int} (h : a = b) (h' : c = d) : Ending.returned (.tuple #[.int .i64 a, .int .i64 c]) = .returned (.tuple #[.int .i64 b, .int .i64 d]) := by rw [h, h']
set_option maxRecDepth 100000 in
set_option maxHeartbeats 1000000 in
theorem c_implCmp (k n : Int) (t : ByteArray) (k' n' : Int) (t' : ByteArray) (w : World) (hs : t.size ≤ maxLen) (hs' : t'.size ≤ maxLen) :
    Calls Tryd.prog 15 #[.agg #[.int .i64 k, .int .i64 n, .string t], .agg #[.int .i64 k', .int .i64 n', .string t']] w fun e w' => e = .returned (.tuple #[.int .i64 (cmpA k n t k' n' t'), .int .i64 (cmpE k n t k' n' t')]) ∧ Below w.heap.size w w' := by
  go_enter Tryd.func15, Tryd.ntmps15
  go_wp2_with fail
  refine (c_implOK _ _ _ _ hs).mono ?_
  rintro e w1 ⟨rfl, hb1⟩
  obtain ⟨hc1, hf1⟩ := bcell hb1
  have hq1 := ((((Below.refl w.heap.size w).alloc (Nat.le_refl _) _).alloc (by simp) _).trans (hb1.mono (by simp; omega)))
  cases h1 : valB k n t
  · go_wp2
    go_ret2
    exact ⟨ret_two (by simp [cmpA, h1]) (by simp [cmpE, h1]), hq1⟩
  · go_wp2_with fail
    refine (c_implOK _ _ _ _ hs').mono ?_
    rintro e w2 ⟨rfl, hb2⟩
    have hb2 := hb1.trans (hb2.mono hb1.size)
    clear hc1 hf1
    obtain ⟨hc2, hf2⟩ := bcell hb2
    have hq2 := ((((Below.refl w.heap.size w).alloc (Nat.le_refl _) _).alloc (by simp) _).trans (hb2.mono (by simp; omega)))
    cases h2 : valB k' n' t'
    · go_wp2
      go_ret2
      exact ⟨ret_two (by simp [cmpA, h2]) (by simp [cmpE, h2]), hq2⟩
    · go_wp2_with fail
      refine (c_cmpR _ _ _ _ _ _ _).mono ?_
      rintro e w3 ⟨rfl, hb3⟩
      have hq3 := hq2.trans (hb3.mono hq2.size)
      go_wp2
      go_ret2
      exact ⟨ret_two (by simp [cmpA, h1, h2]) (by simp [cmpE, h1, h2]), hq3⟩
end Go.Proofs.YtkfkhfagehcmiaaDoor
