/-
  Texts of numbers.
-/
import Derived.Test.YtdbdhcjafdbmjaaBx
import Derived.Laws.BytesArg
import Derived.Lib.Strings
namespace Go.Proofs.Ytdbdhcjafdbmjaa
open Go Go.RowKit
attribute [local go_sem ↓] Go.wp_at_zero Go.wp_at_succ

theorem son_get {zs : List Int} {p : Nat} (hz : ∀ z ∈ zs, 0 ≤ z ∧ z < 256) (h : p < (strOfNums zs).size) : (((strOfNums zs)[p]'h).toNat : Int) = zs.getD p 0 := by
  have hl : p < zs.length := by rwa [strOfNums_size] at h
  have e : (strOfNums zs)[p]'h = (zs.map fun n => UInt8.ofNat n.toNat)[p]'(by simpa using hl) := rfl
  rw [e, List.getElem_map, List.getD_eq_getElem?_getD, List.getElem?_eq_getElem hl]
  have := hz _ (List.getElem_mem hl)
  rw [UInt8.toNat_ofNat']
  simp
  omega
theorem son_cut (zs : List Int) (a b : Nat) : (strOfNums zs).extract a b = strOfNums ((zs.drop a).take (b - a)) := by
  have h := Lib.extract_data (strOfNums zs) a b
  rw [strOfNums_data] at h
  have h2 : ((strOfNums zs).extract a b).data.toList = (strOfNums ((zs.drop a).take (b - a))).data.toList := by
    rw [h, strOfNums_data, List.map_take, List.map_drop]
  have h3 : ((strOfNums zs).extract a b).data = (strOfNums ((zs.drop a).take (b - a))).data := by
    apply Array.ext'; exact h2
  cases hA : (strOfNums zs).extract a b with
  | mk d => rw [hA] at h3; cases hB : strOfNums ((zs.drop a).take (b - a)) with
    | mk d' => rw [hB] at h3; simp at h3; rw [h3]
theorem own_slice' {w : World} {base e size n : Nat} {v : Value} {xs : List Value} (h : w.ownsRow base e size v n xs) : ∃ a cap, v = .slice a n cap := by
  rcases own_form h with ⟨rfl, rfl⟩ | ⟨g, cap, rfl, _, _⟩
  · exact ⟨none, 0, rfl⟩
  · exact ⟨_, cap, rfl⟩
end Go.Proofs.Ytdbdhcjafdbmjaa
