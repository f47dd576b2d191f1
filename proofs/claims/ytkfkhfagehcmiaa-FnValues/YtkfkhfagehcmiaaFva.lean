/-
  What FnValues says of the answers of BinaryValue.
-/
import Derived.Test.YtkfkhfagehcmiaaBve
namespace Go.Proofs.Ytkfkhfagehcmiaa
open Go Go.RowKit
set_option linter.unusedSimpArgs false

theorem okz : valB 0 0 (⟨#[]⟩ : ByteArray) = true := by rw [val0, emptyL]; rfl
theorem okt (b : Bool) : valB 1 (trI b) (⟨#[]⟩ : ByteArray) = true := by rw [val1, emptyL]; cases b <;> rfl
theorem okb (v : Int) : valB (bndB v).k (bndB v).n (⟨#[]⟩ : ByteArray) = true := by
  cases h : inB v (-1000000000) 1000000000
  · rw [bnd_no h]; exact okz
  · rw [bnd_yes h, val1, h, emptyL]; rfl
theorem okr (op a b : Int) : valB (reckB op a b).k (reckB op a b).n (⟨#[]⟩ : ByteArray) = true := by
  unfold reckB
  split
  · exact okz
  · exact okb _
theorem binA_ok (op : Int) (k n : Int) (t : ByteArray) (k' n' : Int) (t' : ByteArray) : valB (binA op k n t k' n' t').k (binA op k n t k' n' t').n (⟨#[]⟩ : ByteArray) = true := by
  unfold binA
  split
  · split
    · unfold binR
      repeat' split
      all_goals first | exact okz | exact okt _ | exact okr _ _ _
    · exact okz
  · exact okz
theorem binA_none (op : Int) (k' n' : Int) (t' : ByteArray) (h : op < 12) (hc : (binA op 0 0 ⟨#[]⟩ k' n' t').c = 0) : binA op 0 0 ⟨#[]⟩ k' n' t' = ⟨0, 0, 0⟩ := by
  unfold binA at hc ⊢
  split at hc
  · rename_i hv
    rw [if_pos hv]
    split at hc
    · rename_i hi
      rw [if_pos hi]
      have d1 : decB op 0 0 = false := dec_ne (by omega) (by omega)
      have d2 : decB op k' n' = false := dec_ne (by omega) (by omega)
      unfold binR at hc ⊢
      split at hc
      · cases hc
      · rename_i hT
        rw [if_neg hT, if_neg (by rw [d1, d2]; simp), if_pos (.inl rfl)]
    · cases hc
  · cases hc
theorem eqS_comm (a b : ByteArray) : eqS a b = eqS b a := by unfold eqS; exact Bool.eq_iff_iff.2 ⟨fun h => by simp at h ⊢; exact h.symm, fun h => by simp at h ⊢; exact h.symm⟩
theorem binR_comm (op : Int) (k n : Int) (t : ByteArray) (k' n' : Int) (t' : ByteArray) (h : op = 6 ∨ op = 8 ∨ op = 10 ∨ op = 12 ∨ op = 13) : binR op k n t k' n' t' = binR op k' n' t' k n t := by
  unfold binR
  by_cases c1 : (k = 2 ∨ k' = 2) ∧ op ≠ 10 ∧ op ≠ 11
  · have c1' : (k' = 2 ∨ k = 2) ∧ op ≠ 10 ∧ op ≠ 11 := ⟨c1.1.symm, c1.2⟩
    rw [if_pos c1, if_pos c1']
  have c1' : ¬ ((k' = 2 ∨ k = 2) ∧ op ≠ 10 ∧ op ≠ 11) := fun x => c1 ⟨x.1.symm, x.2⟩
  rw [if_neg c1, if_neg c1']
  by_cases c2 : decB op k n = true ∨ decB op k' n' = true
  · have c2' : decB op k' n' = true ∨ decB op k n = true := c2.symm
    rw [if_pos c2, if_pos c2']
  have c2' : ¬ (decB op k' n' = true ∨ decB op k n = true) := fun x => c2 x.symm
  rw [if_neg c2, if_neg c2']
  by_cases c3 : k = 0 ∨ k' = 0
  · have c3' : k' = 0 ∨ k = 0 := c3.symm
    rw [if_pos c3, if_pos c3']
  have c3' : ¬ (k' = 0 ∨ k = 0) := fun x => c3 x.symm
  rw [if_neg c3, if_neg c3']
  by_cases c4 : k ≠ k'
  · have c4' : k' ≠ k := fun e => c4 e.symm
    rw [if_pos c4, if_pos c4']
  have c4' : ¬ (k' ≠ k) := fun e => c4 (fun x => e x.symm)
  rw [if_neg c4, if_neg c4']
  rcases h with rfl | rfl | rfl | rfl | rfl
  · simp [reckB, opI, Int.add_comm n n']
  · simp [reckB, opI, Int.mul_comm n n']
  · have e1 : (n == n') = (n' == n) := by exact Bool.eq_iff_iff.2 ⟨fun h => by simp at h ⊢; exact h.symm, fun h => by simp at h ⊢; exact h.symm⟩
    simp [eqS_comm t t', e1]
  · rfl
  · rfl
theorem binA_comm (op : Int) (k n : Int) (t : ByteArray) (k' n' : Int) (t' : ByteArray) (h : op = 6 ∨ op = 8 ∨ op = 10 ∨ op = 12 ∨ op = 13) : binA op k n t k' n' t' = binA op k' n' t' k n t := by
  unfold binA
  rw [binR_comm op k n t k' n' t' h, Bool.and_comm]

end Go.Proofs.Ytkfkhfagehcmiaa
