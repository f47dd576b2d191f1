/-
  Bytes whose sum stands behind them: the specification's own.
-/
import Derived.Test.YtlocgbjdnfnilaaDoorRu
import Derived.Laws.IdiomStrings
namespace Go.Proofs.YtlocgbjdnfnilaaDoor
open Go Go.RowKit
attribute [local go_sem ↓] Go.wp_at_zero Go.wp_at_succ


def ofL (ts : List Int) : Int := ts.foldl (fun n z => n * 256 + z) 0
theorem ofL_take {ts : List Int} {k : Nat} (h : k < ts.length) : ofL (ts.take (k + 1)) = ofL (ts.take k) * 256 + ts.getD k 0 := by
  unfold ofL
  rw [List.take_succ_eq_append_getElem h, List.foldl_append, List.getD_eq_getElem?_getD, List.getElem?_eq_getElem h]
  rfl
theorem ofL_bd {ts : List Int} (hz : ∀ z ∈ ts, 0 ≤ z ∧ z < 256) : ∀ k, k ≤ ts.length → 0 ≤ ofL (ts.take k) ∧ ofL (ts.take k) < 256 ^ k
  | 0, _ => by simp [ofL]
  | k + 1, h => by
    have h1 := ofL_bd hz k (by omega)
    have h2 := hz (ts.getD k 0) (by rw [List.getD_eq_getElem?_getD, List.getElem?_eq_getElem (by omega)]; exact List.getElem_mem _)
    rw [ofL_take (by omega), Int.pow_succ]
    omega
theorem of_sum {zs : List Int} (h4 : 4 ≤ zs.length) (hz : ∀ z ∈ zs, 0 ≤ z ∧ z < 256) : (((Crc.crc (headZ zs) : Nat) : Int) != ofL (tailZ zs)) = !unsB zs := by
  obtain ⟨t0, t1, t2, t3, ht, e0, e1, e2, e3⟩ := tail4 h4
  have hb : ∀ z ∈ tailZ zs, 0 ≤ z ∧ z < 256 := fun z h => hz z (List.mem_of_mem_drop h)
  rw [ht] at hb
  have b0 := hb t0 (by simp)
  have b1 := hb t1 (by simp)
  have b2 := hb t2 (by simp)
  have b3 := hb t3 (by simp)
  have hc := crc_lt (headZ zs) (head_bytes hz)
  have hl : ofL (tailZ zs) = ((t0 * 256 + t1) * 256 + t2) * 256 + t3 := by rw [ht]; simp [ofL]
  generalize hC : Crc.crc (headZ zs) = C at hc
  by_cases h : ((C : Nat) : Int) = ofL (tailZ zs)
  · have : unsB zs = true := uns_yes h4 (by
      rw [hC, ht]
      rw [hl] at h
      unfold sumZ
      congr 1; omega
      congr 1; omega
      congr 1; omega
      congr 1; omega)
    rw [this]; simp [h]
  · have : unsB zs = false := uns_no (fun e => h (by
      rw [hC, ht] at e
      simp [sumZ] at e
      rw [hl]
      omega))
    rw [this]; simp [h]
def unsT (zs : List Int) (u : Bool) : ByteArray := if u then strOfNums (headZ zs) else ⟨#[]⟩
theorem conv_rd {W : World} {zs : List Int} {c : Nat} {fr : Nat × Nat} (hz : ∀ z ∈ zs, 0 ≤ z ∧ z < 256) : Rd (W.alloc (.cells (bytesRow (strOfNums zs) c) 5 fr)).drew.drew (some ⟨W.heap.size, 0, none⟩) zs.length zs := by
  refine ⟨rfl, hz, fun h => ⟨W.heap.size, 0, rfl, fun i hi => ?_⟩⟩
  have hb : (W.alloc (.cells (bytesRow (strOfNums zs) c) 5 fr)).drew.drew.heap[W.heap.size]? = some (.cells (bytesRow (strOfNums zs) c) 5 fr) := by
    show (W.heap.push _)[W.heap.size]? = _
    simp
  have hsz : i < (strOfNums zs).data.size := by have := strOfNums_size zs; rw [ByteArray.size] at this; omega
  rw [Nat.zero_add, cell_of_row _ W.heap.size i _ 5 fr hb, bytesRow_at _ _ _ hsz]
  have hs2 : i < (strOfNums zs).size := by rw [strOfNums_size]; exact hi
  exact congrArg (fun z => some (Value.int .u8 z)) (son_get (p := i) hz hs2)
theorem headZ_len {zs : List Int} : (headZ zs).length = zs.length - 4 := by unfold headZ; rw [List.length_take]; omega
theorem cut_head {zs : List Int} : (strOfNums zs).extract 0 (zs.length - 4) = strOfNums (headZ zs) := by rw [son_cut]; rfl
theorem cut_tail {zs : List Int} : (strOfNums zs).extract (zs.length - 4) zs.length = strOfNums (tailZ zs) := by
  rw [son_cut]
  unfold tailZ
  rw [List.take_of_length_le (by rw [List.length_drop]; omega)]
end Go.Proofs.YtlocgbjdnfnilaaDoor
