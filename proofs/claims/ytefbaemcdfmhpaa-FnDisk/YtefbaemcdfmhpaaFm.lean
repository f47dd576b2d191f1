/-
  The mathematics of the law of the disk: writes settled are what is read, and a crash leaves what was there or a write.
-/
import Derived.Test.YtefbaemcdfmhpaaRr
import Derived.Test.YtefbaemcdfmhpaaPd
import Derived.Test.YtefbaemcdfmhpaaDa
namespace Go.Proofs.Ytefbaemcdfmhpaa
open Go Go.RowKit

theorem bkL_snoc (C : List PP) (p : PP) : bkL (C ++ [p]) (C ++ [p]).length (C ++ [p]).length = (C.length, p.1, p.2) :: bkL C C.length C.length := by
  rw [List.length_append]
  unfold bkL
  show (List.range (C.length + 1)).map _ = _
  rw [List.range_succ_eq_map, List.map_cons, List.map_map]
  refine List.cons_eq_cons.2 ⟨?_, ?_⟩
  · unfold bkF
    have e : C.length + [p].length - 1 - 0 = C.length := by simp
    rw [e, List.getD_eq_getElem?_getD, List.getElem?_append_right (Nat.le_refl _)]
    simp
  · apply List.map_congr_left
    intro j hj
    have hj := List.mem_range.1 hj
    show bkF _ _ (j + 1) = _
    unfold bkF
    have e : C.length + [p].length - 1 - (j + 1) = C.length - 1 - j := by simp; omega
    rw [e, List.getD_eq_getElem?_getD, List.getElem?_append_left (by omega), List.getD_eq_getElem?_getD]
theorem rdS_nil (S : List ByteArray) (j : Nat) : rdS S [] j = S.getD j ⟨#[]⟩ := rfl
theorem rdS_snoc (S : List ByteArray) (C : List PP) (p : PP) (j : Nat) : rdS S (C ++ [p]) j = if p.1 = (j : Int) then p.2 else rdS S C j := by
  unfold rdS
  rw [bkL_snoc]
  unfold fdB
  rw [List.find?_cons]
  by_cases h : p.1 = (j : Int)
  · rw [if_pos h]
    simp [h]
  · rw [if_neg h]
    simp [h]
theorem settle_rd (S : List ByteArray) (j : Nat) (hj : j < S.length) : ∀ (n : Nat) (C : List PP), C.length = n → (∀ p ∈ C, 0 ≤ p.1) → (settle S C).getD j ⟨#[]⟩ = rdS S C j := by
  intro n
  induction n with
  | zero =>
    intro C hC _
    rw [List.eq_nil_of_length_eq_zero hC]
    rfl
  | succ n ih =>
    intro C hC hp
    rcases List.eq_nil_or_concat C with rfl | ⟨L, b, rfl⟩
    · simp at hC
    · rw [List.concat_eq_append] at hC hp ⊢
      have hb : 0 ≤ b.1 := hp b (by simp)
      have hL := ih L (by simpa using hC) (fun p h => hp p (by simp [h]))
      have hlen := settle_len S L
      rw [settle_snoc, rdS_snoc, ← hL]
      by_cases h : b.1 = (j : Int)
      · have e : b.1.toNat = j := by omega
        rw [if_pos h, e, List.getD_eq_getElem?_getD, List.getElem?_set_self (by omega)]
        rfl
      · have e : ¬ b.1.toNat = j := by omega
        rw [if_neg h, List.getD_eq_getElem?_getD, List.getElem?_set_ne e, List.getD_eq_getElem?_getD]
theorem rd_or (S : List ByteArray) (j : Nat) : ∀ (n : Nat) (C : List PP), C.length = n → rdS S C j = S.getD j ⟨#[]⟩ ∨ ∃ p ∈ C, p.1 = (j : Int) ∧ p.2 = rdS S C j := by
  intro n
  induction n with
  | zero =>
    intro C hC
    rw [List.eq_nil_of_length_eq_zero hC]
    exact .inl rfl
  | succ n ih =>
    intro C hC
    rcases List.eq_nil_or_concat C with rfl | ⟨L, b, rfl⟩
    · simp at hC
    · rw [List.concat_eq_append] at hC ⊢
      rw [rdS_snoc]
      by_cases h : b.1 = (j : Int)
      · rw [if_pos h]
        exact .inr ⟨b, by simp, h, rfl⟩
      · rw [if_neg h]
        rcases ih L (by simpa using hC) with h1 | ⟨p, hp, h1, h2⟩
        · exact .inl h1
        · exact .inr ⟨p, by simp [hp], h1, h2⟩
/-- What a crash leaves at a place was there, or is a write of it. -/
theorem crash_or {D : DD} (h : okD D = true) (K : List Int) {j : Nat} (hj : j < D.S.length) :
    readT (crashD D K) j = D.S.getD j ⟨#[]⟩ ∨ ∃ i, i < D.C.length ∧ (D.C.getD i dP).1 = (j : Int) ∧ (D.C.getD i dP).2 = readT (crashD D K) j := by
  have hl : (crashD D K).S.length = D.S.length := settle_len _ _
  have e : readT (crashD D K) j = rdS D.S (keptN D.C K D.C.length) j := by
    unfold readT
    rw [if_pos (ok_crash h K), if_pos (by omega), ← settle_rd D.S j hj _ _ rfl (fun p hp => (ok_good h p (keptN_mem (Nat.le_refl _) p hp)).1)]
    rfl
  rw [e]
  rcases rd_or D.S j _ (keptN D.C K D.C.length) rfl with h1 | ⟨p, hp, h1, h2⟩
  · exact .inl h1
  · obtain ⟨i, hi, e⟩ := List.mem_iff_getElem.1 (keptN_mem (Nat.le_refl _) p hp)
    have e2 : D.C.getD i dP = p := by rw [List.getD_eq_getElem?_getD, List.getElem?_eq_getElem hi]; exact e
    exact .inr ⟨i, hi, by rw [e2]; exact h1, by rw [e2]; exact h2⟩
/-- A sync that the power stays for makes sure just what is read. -/
theorem sync_rd {D : DD} (h : okD D = true) (ha : D.A = false) {j : Nat} (hj : j < D.S.length) : readT (syncD D) j = readT D j := by
  have e0 : syncD D = ⟨settle D.S D.C, [], false, []⟩ := by unfold syncD; rw [if_neg (by rw [ha]; decide)]
  have hok := ok_sync h
  have hl : (syncD D).S.length = D.S.length := by rw [e0]; exact settle_len _ _
  unfold readT
  rw [if_pos hok, if_pos h, if_pos (by omega), if_pos (by omega), e0]
  show (settle D.S D.C).getD _ _ = _
  exact settle_rd D.S _ (by simpa using hj) _ _ rfl (fun p hp => (ok_good h p hp).1)
theorem sync_len (D : DD) : (syncD D).S.length = D.S.length := by
  unfold syncD
  split
  · exact settle_len _ _
  · exact settle_len _ _
theorem sync_none (D : DD) : (syncD D).C = [] := by
  unfold syncD
  split <;> rfl
/-- The last write is read. -/
theorem write_rd {D : DD} {k : Nat} {s : ByteArray} (h : okD (wrD D k s) = true) (hk : k < D.S.length) : readT (wrD D k s) k = s := by
  unfold readT
  rw [if_pos h, if_pos (by show _ ∧ (k : Int) < (D.S.length : Int); omega)]
  show rdS D.S (D.C ++ [((k : Int), s)]) _ = _
  rw [rdS_snoc, if_pos (by simp)]
theorem read_ok {D : DD} (h : okD D = true) {j : Nat} (hj : j < D.S.length) : readC D j = 0 := by
  unfold readC
  rw [if_pos h, if_pos (by omega)]
theorem cnt_snoc (D : DD) (k : Nat) (s : ByteArray) : 0 < cnt (D.C ++ [((k : Int), s)]) k (D.C ++ [((k : Int), s)]).length := by
  unfold cnt
  rw [List.take_length, List.countP_append]
  simp
theorem pend_some {D : DD} {k : Nat} {s : ByteArray} (h : okD (wrD D k s) = true) (hk : k < D.S.length) : 0 < (pendR (wrD D k s)).length ∧ pendC (wrD D k s) = 0 := by
  unfold pendR pendC
  rw [if_pos h, if_pos h]
  refine ⟨?_, rfl⟩
  unfold pendL
  rw [List.length_map]
  apply List.length_pos_of_mem (a := k)
  rw [List.mem_filter]
  exact ⟨List.mem_range.2 hk, decide_eq_true (cnt_snoc D k s)⟩
end Go.Proofs.Ytefbaemcdfmhpaa
