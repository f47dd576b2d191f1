/-
  The last change of a row stands.
-/
import Derived.Test.YtiobobocjokgiaaHk
namespace Go.Proofs.Ytiobobocjokgiaa
open Go Go.RowKit
attribute [local go_sem ↓] Go.wp_at_zero Go.wp_at_succ

set_option linter.unusedVariables false
set_option linter.unusedSimpArgs false
def findR (L : List RW) (x : Int) : Option RW := L.find? (fun r => decide (r.i = x))
theorem findR_none {L : List RW} {x : Int} (h : ∀ r ∈ L, r.i ≠ x) : findR L x = none := by
  unfold findR
  rw [List.find?_eq_none]
  intro r hr
  simpa using h r hr
theorem findR_app (A B : List RW) (x : Int) : findR (A ++ B) x = (findR A x).or (findR B x) := by unfold findR; rw [List.find?_append]
theorem find_next {L : List RW} (h : SoR L) (c : CW) (x : Int) : findR (nextR L c) x = if c.i = x then (if c.g then none else some (rowC c)) else findR L x := by
  have lo : ∀ r ∈ L.take (posR L c.i), r.i < c.i := fun r hr => low_of hr
  have hi : ∀ r ∈ L.drop (posR L c.i + if hitR L c.i then 1 else 0), c.i < r.i := fun r hr => high_of h hr
  by_cases hx : c.i = x
  · rw [if_pos hx]
    unfold nextR
    rw [findR_app, findR_app, findR_none (L := L.take _) (fun r hr => by have := lo r hr; omega), findR_none (L := L.drop _) (fun r hr => by have := hi r hr; omega)]
    cases hg : c.g
    · simp [findR, rowC, hx]
    · simp [findR]
  · rw [if_neg hx]
    have e : findR L x = (findR (L.take (posR L c.i)) x).or (findR (L.drop (posR L c.i + if hitR L c.i then 1 else 0)) x) := by
      cases hh : hitR L c.i
      · rw [← findR_app]
        simp
      · have hp := hit_pos hh
        have hid : (L[posR L c.i]'hp).i = c.i := by
          have := hit_in hp
          rw [hh, List.getD_eq_getElem?_getD, List.getElem?_eq_getElem hp] at this
          simpa using this.symm
        conv => lhs; rw [← List.take_append_drop (posR L c.i) L]
        rw [findR_app, List.drop_eq_getElem_cons hp]
        congr 1
        unfold findR
        rw [List.find?_cons_of_neg (by simp [hid, hx])]
        rfl
    unfold nextR
    rw [findR_app, findR_app, e]
    congr 1
    cases hg : c.g
    · simp [findR, rowC, hx]
    · simp [findR]
theorem find_step {tb : Int} {L : List RW} (h : SoR L) (c : CW) (x : Int) : findR (stepR tb L c) x = if c.tb = tb ∧ c.i = x then (if c.g then none else some (rowC c)) else findR L x := by
  unfold stepR
  by_cases ht : c.tb = tb
  · rw [if_pos ht, find_next h]
    simp [ht]
  · rw [if_neg ht, if_neg (fun k => ht k.1)]
/-- The place of a row's last change among the first k, or -1. -/
def la (tb x : Int) (cs : List CW) : Nat → Int
  | 0 => -1
  | k + 1 => if (cs.getD k zeroC).tb = tb ∧ (cs.getD k zeroC).i = x then (k : Int) else la tb x cs k
theorem la_all (tb x : Int) (cs : List CW) : ∀ k, k ≤ cs.length → (la tb x cs k = -1 ∧ findR (foldR tb (cs.take k)) x = none) ∨ (∃ j : Nat, j < k ∧ la tb x cs k = (j : Int) ∧ findR (foldR tb (cs.take k)) x = if (cs.getD j zeroC).g then none else some (rowC (cs.getD j zeroC)))
  | 0, _ => .inl ⟨rfl, rfl⟩
  | k + 1, hk => by
    have hs := (fold_so tb cs k (by omega)).1
    rw [fold_step tb cs k (by omega), find_step hs]
    unfold la
    by_cases hm : (cs.getD k zeroC).tb = tb ∧ (cs.getD k zeroC).i = x
    · rw [if_pos hm, if_pos hm]
      exact .inr ⟨k, by omega, rfl, rfl⟩
    · rw [if_neg hm, if_neg hm]
      rcases la_all tb x cs k (by omega) with ⟨h1, h2⟩ | ⟨j, hj, h1, h2⟩
      · exact .inl ⟨h1, h2⟩
      · exact .inr ⟨j, by omega, h1, h2⟩
theorem find_at {L : List RW} (h : SoR L) {k : Nat} (hk : k < L.length) : findR L (L.getD k zeroR).i = some (L.getD k zeroR) := by
  unfold findR
  rw [List.find?_eq_some_iff_append]
  refine ⟨by simp, L.take k, L.drop (k + 1), ?_, ?_⟩
  · rw [List.getD_eq_getElem?_getD, List.getElem?_eq_getElem hk]
    show L = _
    conv => lhs; rw [← List.take_append_drop k L, List.drop_eq_getElem_cons hk]
    rfl
  · intro r hr
    obtain ⟨j, hj, _, rfl⟩ := mem_getT hr
    have := h.at hj hk
    have hne : ¬ (L.getD j zeroR).i = (L.getD k zeroR).i := by omega
    rw [decide_eq_false hne]; rfl
theorem any_find (L : List RW) (x : Int) : (L.any fun r => decide (r.i = x)) = (findR L x).isSome := by
  rw [Bool.eq_iff_iff]
  unfold findR
  rw [List.find?_isSome, List.any_eq_true]

end Go.Proofs.Ytiobobocjokgiaa
