/-
  What changes lead to.
-/
import Derived.Test.YtiobobocjokgiaaHd
namespace Go.Proofs.Ytiobobocjokgiaa
open Go Go.RowKit
attribute [local go_sem ↓] Go.wp_at_zero Go.wp_at_succ

set_option linter.unusedVariables false
set_option linter.unusedSimpArgs false
def rowC (c : CW) : RW := ⟨c.i, c.a, c.b, c.t, c.p, c.q, c.z⟩
/-- How many rows at the beginning have a lesser Id. -/
def posR (L : List RW) (x : Int) : Nat := (L.takeWhile (fun r => decide (r.i < x))).length
def hitR (L : List RW) (x : Int) : Bool := match L[posR L x]? with | some r => decide (r.i = x) | none => false
def nextR (L : List RW) (c : CW) : List RW := L.take (posR L c.i) ++ ((if c.g then [] else [rowC c]) ++ L.drop (posR L c.i + if hitR L c.i then 1 else 0))
def stepR (tb : Int) (L : List RW) (c : CW) : List RW := if c.tb = tb then nextR L c else L
def foldR (tb : Int) (cs : List CW) : List RW := cs.foldl (stepR tb) []
def SoR (L : List RW) : Prop := L.Pairwise (fun x y => x.i < y.i)
theorem posR_le (L : List RW) (x : Int) : posR L x ≤ L.length := List.IsPrefix.length_le (List.takeWhile_prefix _)
theorem posR_lt : ∀ (L : List RW) (x : Int) (k : Nat), k < posR L x → (L.getD k zeroR).i < x
  | [], x, k, h => by simp [posR] at h
  | r :: L, x, k, h => by
    unfold posR at h
    rw [List.takeWhile_cons] at h
    split at h
    · rename_i hr
      cases k with
      | zero => simpa using hr
      | succ k => exact posR_lt L x k (by simpa [posR] using h)
    · simp at h
theorem posR_at : ∀ (L : List RW) (x : Int), posR L x < L.length → ¬ (L.getD (posR L x) zeroR).i < x
  | [], x, h => by simp [posR] at h
  | r :: L, x, h => by
    by_cases hr : r.i < x
    · have e : posR (r :: L) x = posR L x + 1 := by unfold posR; rw [List.takeWhile_cons, if_pos (by simpa using hr)]; rfl
      rw [e] at h ⊢
      exact posR_at L x (by simpa using h)
    · have e : posR (r :: L) x = 0 := by unfold posR; rw [List.takeWhile_cons, if_neg (by simpa using hr)]; rfl
      rw [e]
      simpa using hr
theorem pos_uniq {L : List RW} {x : Int} {i : Nat} (hi : i ≤ L.length) (h1 : ∀ k, k < i → (L.getD k zeroR).i < x) (h2 : i < L.length → ¬ (L.getD i zeroR).i < x) : posR L x = i := by
  have hp := posR_le L x
  rcases Nat.lt_trichotomy (posR L x) i with h | h | h
  · exact absurd (h1 _ h) (posR_at L x (by omega))
  · exact h
  · exact absurd (posR_lt L x i h) (h2 (by omega))
theorem hit_in {L : List RW} {x : Int} (h : posR L x < L.length) : hitR L x = decide ((L.getD (posR L x) zeroR).i = x) := by
  unfold hitR
  rw [List.getElem?_eq_getElem h, List.getD_eq_getElem?_getD, List.getElem?_eq_getElem h]
  rfl
theorem hit_out {L : List RW} {x : Int} (h : ¬ posR L x < L.length) : hitR L x = false := by
  unfold hitR
  rw [List.getElem?_eq_none (by omega)]
theorem SoR.at {L : List RW} (h : SoR L) {i j : Nat} (hij : i < j) (hj : j < L.length) : (L.getD i zeroR).i < (L.getD j zeroR).i := by
  rw [List.getD_eq_getElem?_getD, List.getD_eq_getElem?_getD, List.getElem?_eq_getElem (by omega), List.getElem?_eq_getElem hj]
  exact List.pairwise_iff_getElem.1 h i j (by omega) hj hij
theorem SoR.low {L : List RW} (h : SoR L) {x : Int} {m : Nat} (hm : m < L.length) (hx : (L.getD m zeroR).i < x) : ∀ k, k < m + 1 → (L.getD k zeroR).i < x := by
  intro k hk
  rcases Nat.lt_or_ge k m with h1 | h1
  · have := h.at h1 hm; omega
  · obtain rfl : k = m := by omega
    exact hx
theorem SoR.high {L : List RW} (h : SoR L) {x : Int} {m : Nat} (hx : ¬ (L.getD m zeroR).i < x) : ∀ k, m ≤ k → k < L.length → ¬ (L.getD k zeroR).i < x := by
  intro k h1 h2
  rcases Nat.lt_or_ge m k with h3 | h3
  · have := h.at h3 h2; omega
  · obtain rfl : k = m := by omega
    exact hx
theorem mem_getD {L : List RW} {r : RW} {k : Nat} (hr : r ∈ L.drop k) : ∃ j, k ≤ j ∧ j < L.length ∧ r = L.getD j zeroR := by
  obtain ⟨j, hj, e⟩ := List.getElem_of_mem hr
  rw [List.length_drop] at hj
  refine ⟨k + j, by omega, by omega, ?_⟩
  rw [List.getElem_drop] at e
  rw [List.getD_eq_getElem?_getD, List.getElem?_eq_getElem (by omega)]
  exact e.symm
theorem mem_getT {L : List RW} {r : RW} {k : Nat} (hr : r ∈ L.take k) : ∃ j, j < k ∧ j < L.length ∧ r = L.getD j zeroR := by
  obtain ⟨j, hj, e⟩ := List.getElem_of_mem hr
  rw [List.length_take] at hj
  refine ⟨j, by omega, by omega, ?_⟩
  rw [List.getElem_take] at e
  rw [List.getD_eq_getElem?_getD, List.getElem?_eq_getElem (by omega)]
  exact e.symm
theorem low_of {L : List RW} {x : Int} {r : RW} (hr : r ∈ L.take (posR L x)) : r.i < x := by
  obtain ⟨j, hj, _, rfl⟩ := mem_getT hr
  exact posR_lt L x j hj
theorem high_of {L : List RW} (h : SoR L) {x : Int} {r : RW} (hr : r ∈ L.drop (posR L x + if hitR L x then 1 else 0)) : x < r.i := by
  obtain ⟨j, hj, hl, rfl⟩ := mem_getD hr
  have hp : posR L x < L.length := by omega
  have ha := posR_at L x hp
  cases hh : hitR L x
  · rw [hh] at hj
    rw [hit_in hp] at hh
    have hne : ¬ (L.getD (posR L x) zeroR).i = x := by simpa using hh
    rcases Nat.lt_or_ge (posR L x) j with h1 | h1
    · have := h.at h1 hl; omega
    · have : j = posR L x := by simp at hj; omega
      rw [this]; omega
  · rw [hh] at hj
    rw [hit_in hp] at hh
    have he : (L.getD (posR L x) zeroR).i = x := by simpa using hh
    have := h.at (show posR L x < j by simp at hj; omega) hl
    omega
theorem SoR.next {L : List RW} (h : SoR L) (c : CW) : SoR (nextR L c) := by
  unfold nextR SoR
  rw [List.pairwise_append]
  refine ⟨List.Pairwise.sublist (List.take_sublist _ _) h, ?_, ?_⟩
  · rw [List.pairwise_append]
    refine ⟨by split <;> simp, List.Pairwise.sublist (List.drop_sublist _ _) h, ?_⟩
    intro a ha b hb
    have := high_of h hb
    split at ha
    · cases ha
    · simp only [List.mem_cons, List.not_mem_nil, or_false] at ha
      subst ha
      exact this
  · intro a ha b hb
    have h1 := low_of ha
    rcases List.mem_append.1 hb with hb | hb
    · split at hb
      · cases hb
      · simp only [List.mem_cons, List.not_mem_nil, or_false] at hb
        subst hb
        exact h1
    · have := high_of h hb
      omega
theorem SoR.step {tb : Int} {L : List RW} (h : SoR L) (c : CW) : SoR (stepR tb L c) := by
  unfold stepR
  split
  · exact h.next c
  · exact h
theorem next_len (L : List RW) (c : CW) : (nextR L c).length ≤ L.length + 1 := by
  have := posR_le L c.i
  unfold nextR
  simp only [List.length_append, List.length_take, List.length_drop]
  split <;> split <;> simp <;> omega
theorem step_len (tb : Int) (L : List RW) (c : CW) : (stepR tb L c).length ≤ L.length + 1 := by
  unfold stepR
  split
  · exact next_len L c
  · omega
theorem fold_step (tb : Int) (cs : List CW) (k : Nat) (h : k < cs.length) : foldR tb (cs.take (k + 1)) = stepR tb (foldR tb (cs.take k)) (cs.getD k zeroC) := by
  unfold foldR
  rw [List.take_add_one, List.getElem?_eq_getElem h, List.getD_eq_getElem?_getD, List.getElem?_eq_getElem h, List.foldl_append]
  rfl
theorem fold_so (tb : Int) (cs : List CW) : ∀ k, k ≤ cs.length → SoR (foldR tb (cs.take k)) ∧ (foldR tb (cs.take k)).length ≤ k := by
  intro k
  induction k with
  | zero => intro _; exact ⟨List.Pairwise.nil, Nat.le_refl _⟩
  | succ k ih =>
    intro hk
    obtain ⟨h1, h2⟩ := ih (by omega)
    rw [fold_step tb cs k (by omega)]
    exact ⟨h1.step _, by have := step_len tb (foldR tb (cs.take k)) (cs.getD k zeroC); omega⟩

end Go.Proofs.Ytiobobocjokgiaa
