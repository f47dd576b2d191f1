/-
  Keys that are written and read again: the mathematics.
-/
import Derived.Test.YtkfkhfagehcmiaaDoorKj
import Derived.Test.YtkfkhfagehcmiaaDoorKb
namespace Go.Proofs.YtkfkhfagehcmiaaDoor
open Go Go.RowKit
attribute [local go_sem ↓] Go.wp_at_zero Go.wp_at_succ


theorem ofL_num (u : Int) : ofL (numZ u) = u := by
  simp only [ofL, numZ, List.foldl_cons, List.foldl_nil]
  omega
theorem zi_word : ∀ (l rest : List Int), (∀ z ∈ l, ¬ z = 0) → zi (l ++ 0 :: rest) = l.length
  | [], _, _ => by simp [zi]
  | z :: l, rest, h => by
    rw [List.cons_append, zi, if_neg (h z (List.mem_cons_self ..)), zi_word l rest (fun x hx => h x (List.mem_cons_of_mem _ hx))]
    rfl
theorem son_strK (s : ByteArray) : strOfNums (strK s) = s := by
  apply ByteArray.ext
  apply Array.ext'
  have := strOfNums_data (strK s)
  rw [this]
  simp [strK, List.map_map, Function.comp_def]
theorem empty_of {t : ByteArray} (h : t.toList.isEmpty = true) : t = ⟨#[]⟩ := by
  rw [ByteArray.toList_eq] at h
  cases t with | mk d => simp at h; rw [h]
theorem word_letters {t : ByteArray} (h : wordB t = true) : ∀ z ∈ strK t, ¬ z = 0 := by
  intro z hz e
  unfold wordB allLow at h
  simp only [Bool.and_eq_true, List.all_eq_true, List.mem_range] at h
  obtain ⟨i, hi, he⟩ := List.getElem_of_mem hz
  rw [strK_len] at hi
  have h2 := h.2 i hi
  have hl : i < t.data.toList.length := by simpa using hi
  have e2 : by8 t i = z := by
    unfold by8
    rw [List.getD_eq_getElem?_getD, List.getElem?_eq_getElem hl, ← he]
    simp [strK]
  rw [e2, e] at h2
  simp [lowB] at h2
theorem pv_key {v : VV} (rest : List Int) (h : okV v = true) : ∃ z r, keyZ v ++ rest = z :: r ∧ pv z r = some (v, (keyZ v).length) := by
  obtain ⟨k, n, t⟩ := v
  have h' : valB k n t = true := h
  rcases okV_kind h with h0 | ⟨h1, h2, h3⟩ | ⟨h1, h2⟩
  · obtain rfl : k = 0 := h0
    rw [val0] at h'
    simp only [Bool.and_eq_true, beq_iff_eq] at h'
    obtain ⟨rfl, ht⟩ := h'
    obtain rfl := empty_of ht
    exact ⟨1, rest, rfl, (pvx (by omega) (by omega)).trans (chk_yes h)⟩
  · obtain rfl : k = 1 := h1
    have h'' := h'
    rw [val1] at h''
    simp only [Bool.and_eq_true] at h''
    obtain rfl := empty_of h''.2
    refine ⟨2, numZ (n + 1000000000) ++ rest, rfl, ?_⟩
    have e : (numZ (n + 1000000000) ++ rest).take 4 = numZ (n + 1000000000) := rfl
    rw [pv2' (by simp [numZ]), e, ofL_num, show n + 1000000000 - 1000000000 = n by omega]
    exact chk_yes h'
  · obtain rfl : k = 2 := h1
    have h'' := h'
    rw [val2] at h''
    simp only [Bool.and_eq_true, beq_iff_eq] at h''
    obtain ⟨rfl, hw⟩ := h''
    refine ⟨3, (strK t ++ [0]) ++ rest, rfl, ?_⟩
    have ez : zi ((strK t ++ [0]) ++ rest) = t.size := by rw [List.append_assoc]; show zi (strK t ++ 0 :: rest) = _; rw [zi_word _ _ (word_letters hw), strK_len]
    have et : ((strK t ++ [0]) ++ rest).take t.size = strK t := by rw [List.append_assoc, List.take_append_of_le_length (by rw [strK_len]; omega), List.take_of_length_le (by rw [strK_len]; omega)]
    rw [pv3' (by rw [ez]; simp [strK_len]), ez, et, son_strK]
    have el : t.size + 2 = (keyZ (2, 0, t)).length := by simp [keyZ, strK_len]
    rw [← el]
    exact chk_yes h'
theorem rk_key : ∀ (K : List VV), (∀ v ∈ K, okV v = true) → rk (K.flatMap keyZ) = some K
  | [], _ => rk_nil
  | v :: K, h => by
    have ih := rk_key K (fun x hx => h x (List.mem_cons_of_mem _ hx))
    obtain ⟨z, r, e, hp⟩ := pv_key (K.flatMap keyZ) (h v (List.mem_cons_self ..))
    rw [List.flatMap_cons, e, rk_step hp]
    have ed : r.drop ((keyZ v).length - 1) = K.flatMap keyZ := by
      have h1 := (pv_size hp).1
      have : (z :: r).drop (keyZ v).length = K.flatMap keyZ := by rw [← e]; exact List.drop_left ..
      rw [show (keyZ v).length = (keyZ v).length - 1 + 1 by omega, List.drop_succ_cons] at this
      exact this
    rw [ed, ih]
    rfl

end Go.Proofs.YtkfkhfagehcmiaaDoor
