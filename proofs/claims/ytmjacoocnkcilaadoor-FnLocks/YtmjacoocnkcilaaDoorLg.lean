/-
  Lists of which a part is done.
-/
import Derived.Test.YtmjacoocnkcilaaDoorBx
namespace Go.Proofs.YtmjacoocnkcilaaDoor
open Go Go.RowKit
attribute [local go_sem ↓] Go.wp_at_zero Go.wp_at_succ

def partA {α : Type} (d : α) (xs : List α) (n k : Nat) : List α := xs.take k ++ List.replicate (n - k) d
theorem partA_step {α : Type} (d : α) (xs : List α) (n k : Nat) (hz : xs.length = n) (hk : k < n) : (partA d xs n k).set k (xs.getD k d) = partA d xs n (k + 1) := by
  unfold partA
  have hl : (xs.take k).length = k := by simp; omega
  rw [List.set_append, if_neg (by omega), hl, Nat.sub_self]
  obtain ⟨m, hm⟩ : ∃ m, n - k = m + 1 := ⟨n - k - 1, by omega⟩
  have hm' : n - (k + 1) = m := by omega
  rw [hm, hm', List.replicate_succ, List.set_cons_zero, List.take_add_one, List.append_assoc, List.getD_eq_getElem?_getD, List.getElem?_eq_getElem (by omega)]
  rfl
theorem partA_len {α : Type} (d : α) (xs : List α) (n k : Nat) (hz : xs.length = n) (hk : k ≤ n) : (partA d xs n k).length = n := by unfold partA; simp; omega
theorem partA_full {α : Type} (d : α) (xs : List α) (n : Nat) (hz : xs.length = n) : partA d xs n n = xs := by
  unfold partA; rw [List.take_of_length_le (by omega), Nat.sub_self]; simp
def mixA {α : Type} (ys xs : List α) (k : Nat) : List α := ys.take k ++ xs.drop k
theorem mixA_zero {α : Type} (ys xs : List α) : mixA ys xs 0 = xs := by simp [mixA]
theorem mixA_len {α : Type} (ys xs : List α) (n k : Nat) (hx : xs.length = n) (hy : ys.length = n) (hk : k ≤ n) : (mixA ys xs k).length = n := by unfold mixA; simp; omega
theorem mixA_step {α : Type} (ys xs : List α) (n k : Nat) (d : α) (hx : xs.length = n) (hy : ys.length = n) (hk : k < n) : (mixA ys xs k).set k (ys.getD k d) = mixA ys xs (k + 1) := by
  unfold mixA
  have hl : (ys.take k).length = k := by simp; omega
  rw [List.set_append, if_neg (by omega), hl, Nat.sub_self, List.drop_eq_getElem_cons (show k < xs.length by omega), List.set_cons_zero, List.take_add_one, List.append_assoc, List.getD_eq_getElem?_getD, List.getElem?_eq_getElem (by omega)]
  rfl
theorem mixA_full {α : Type} (ys xs : List α) (n : Nat) (hx : xs.length = n) (hy : ys.length = n) : mixA ys xs n = ys := by
  unfold mixA; rw [List.take_of_length_le (by omega), List.drop_eq_nil_of_le (by omega)]; simp

end Go.Proofs.YtmjacoocnkcilaaDoor
