/-
  The walk of the specification's ReadFields.
-/
import Derived.Test.YtimdoaehlciecaaRf
namespace Go.Proofs.Ytimdoaehlciecaa
open Go Go.RowKit

theorem son_get {zs : List Int} {p : Nat} (hz : ∀ z ∈ zs, 0 ≤ z ∧ z < 256) (h : p < (strOfNums zs).size) : (((strOfNums zs)[p]'h).toNat : Int) = zs.getD p 0 := by
  have hl : p < zs.length := by rwa [strOfNums_size] at h
  have e : (strOfNums zs)[p]'h = (zs.map fun n => UInt8.ofNat n.toNat)[p]'(by simpa using hl) := rfl
  rw [e, List.getElem_map, List.getD_eq_getElem?_getD, List.getElem?_eq_getElem hl]
  have := hz _ (List.getElem_mem hl)
  rw [UInt8.toNat_ofNat']
  simp
  omega
theorem son_cut (zs : List Int) (a b : Nat) : (strOfNums zs).extract a b = strOfNums ((zs.drop a).take (b - a)) := by
  have h := Lib.extract_data (strOfNums zs) a b
  rw [strOfNums_data] at h
  have h2 : ((strOfNums zs).extract a b).data.toList = (strOfNums ((zs.drop a).take (b - a))).data.toList := by
    rw [h, strOfNums_data, List.map_take, List.map_drop]
  have h3 : ((strOfNums zs).extract a b).data = (strOfNums ((zs.drop a).take (b - a))).data := by
    apply Array.ext'; exact h2
  cases hA : (strOfNums zs).extract a b with
  | mk d => rw [hA] at h3; cases hB : strOfNums ((zs.drop a).take (b - a)) with
    | mk d' => rw [hB] at h3; simp at h3; rw [h3]

/-- What the inner reader answers: the fields and true, or none and false. -/
def AnsI (w : World) (zs : List Int) (e : Ending) (w' : World) : Prop :=
  ∃ v, e = .returned (.tuple #[v, .bool (okR zs).isSome]) ∧ w'.ownsRow w.heap.size 9 1 v ((okR zs).getD []).length (((okR zs).getD []).map Value.string) ∧ Below w.heap.size w w'
theorem ansI_no {w w1 : World} {zs : List Int} (h : okR zs = none) (hb : Below w.heap.size w w1) : AnsI w zs (.returned (.tuple #[.slice (some ⟨w1.heap.size, 0, none⟩) 0 0, .bool false])) (w1.alloc (.cells #[] 9)) := by
  unfold AnsI
  rw [h]
  exact ⟨_, rfl, World.ownsRow_lit w1 #[] 0 hb.size (Nat.zero_le _) rfl, hb.alloc hb.size _⟩
theorem ansI_no' {w w1 : World} {zs : List Int} {v : Value} (h : okR zs = none) (ho : w1.ownsRow w.heap.size 9 1 v 0 []) (hb : Below w.heap.size w w1) : AnsI w zs (.returned (.tuple #[v, .bool false])) w1 := by
  unfold AnsI
  rw [h]
  exact ⟨_, rfl, ho, hb⟩
theorem ansI_yes {w w1 : World} {zs : List Int} {v : Value} {l : List ByteArray} (h : okR zs = some l) (ho : w1.ownsRow w.heap.size 9 1 v l.length (l.map Value.string)) (hb : Below w.heap.size w w1) : AnsI w zs (.returned (.tuple #[v, .bool true])) w1 := by
  unfold AnsI
  rw [h]
  exact ⟨_, rfl, ho, hb⟩

end Go.Proofs.Ytimdoaehlciecaa
