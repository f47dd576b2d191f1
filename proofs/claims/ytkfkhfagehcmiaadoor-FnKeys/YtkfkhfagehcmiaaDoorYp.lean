/-
  The order of keys is the order of values.
-/
import Derived.Test.YtkfkhfagehcmiaaDoorYo
import Derived.Test.YtkfkhfagehcmiaaDoorCmp
namespace Go.Proofs.YtkfkhfagehcmiaaDoor
open Go Go.RowKit
attribute [local go_sem ↓] Go.wp_at_zero Go.wp_at_succ


theorem lessZ_total : ∀ (l m : List Int), lessZ l m = false → lessZ m l = false → l = m
  | [], [], _, _ => rfl
  | [], _ :: _, h, _ => by cases h
  | _ :: _, [], _, h => by cases h
  | a :: l, b :: m, h, h' => by
    rw [lessZ] at h h'
    by_cases h1 : a < b
    · rw [if_pos h1] at h; cases h
    by_cases h2 : b < a
    · rw [if_pos h2] at h'; cases h'
    rw [if_neg h1, if_neg h2] at h
    rw [if_neg h2, if_neg h1] at h'
    rw [lessZ_total l m h h', show a = b by omega]
theorem lessZ_asym : ∀ (l m : List Int), lessZ l m = true → lessZ m l = false
  | [], [], h => by cases h
  | [], _ :: _, _ => rfl
  | _ :: _, [], h => by cases h
  | a :: l, b :: m, h => by
    rw [lessZ] at h ⊢
    by_cases h1 : a < b
    · rw [if_neg (by omega), if_pos h1]
    rw [if_neg h1] at h
    by_cases h2 : b < a
    · rw [if_pos h2] at h; cases h
    rw [if_neg h2] at h
    rw [if_neg h2, if_neg h1]
    exact lessZ_asym l m h
theorem lessS_Z (s t : ByteArray) : lessS s t = lessZ (strK s) (strK t) := by
  unfold lessS strK
  rw [lessZ_bytes, ByteArray.toList_eq, ByteArray.toList_eq]
theorem eqS_Z (s t : ByteArray) : eqS s t = true ↔ s = t := by
  unfold eqS
  rw [beq_iff_eq, ByteArray.toList_eq, ByteArray.toList_eq]
  constructor
  · intro h
    apply ByteArray.ext
    apply Array.ext'
    exact h
  · rintro rfl; rfl
theorem strK_inj {s t : ByteArray} (h : strK s = strK t) : s = t := by
  have := congrArg strOfNums h
  rwa [son_strK, son_strK] at this
def tailK (v : VV) : List Int := if v.1 = 0 then [] else if v.1 = 1 then numZ (v.2.1 + 1000000000) else strK v.2.2 ++ [0]
theorem keyZ_cons {v : VV} (h : okV v = true) : keyZ v = (v.1 + 1) :: tailK v := by
  unfold keyZ tailK
  rcases okV_kind h with h0 | ⟨h1, _⟩ | ⟨h2, _⟩
  · simp [h0]
  · simp [h1]
  · simp [h2]
theorem cmpI_lt {a b : Int} : (cmpI a b < 0 ↔ a < b) ∧ (0 < cmpI a b ↔ b < a) ∧ (cmpI a b = 0 ↔ a = b) := by
  unfold cmpI
  split
  · omega
  · split <;> omega
theorem cmpS_lt {s t : ByteArray} : (cmpS s t < 0 ↔ lessZ (strK s) (strK t) = true) ∧ (0 < cmpS s t ↔ lessZ (strK t) (strK s) = true) ∧ (cmpS s t = 0 ↔ s = t) := by
  unfold cmpS
  by_cases he : s = t
  · subst he
    rw [if_pos ((eqS_Z s s).2 rfl), lessZ_irr]
    simp
  · have hn : ¬ eqS s t = true := fun h => he ((eqS_Z s t).1 h)
    rw [if_neg hn, lessS_Z]
    cases h1 : lessZ (strK s) (strK t)
    · have h2 : lessZ (strK t) (strK s) = true := by
        cases h3 : lessZ (strK t) (strK s)
        · exact absurd (strK_inj (lessZ_total _ _ h1 h3)) he
        · rfl
      simp [h2, he]
    · have h2 := lessZ_asym _ _ h1
      simp [h2, he]
theorem okV_parts {v : VV} (h : okV v = true) : (v.1 = 0 ∧ v.2.1 = 0 ∧ v.2.2 = ⟨#[]⟩) ∨ (v.1 = 1 ∧ v.2.2 = ⟨#[]⟩) ∨ (v.1 = 2 ∧ v.2.1 = 0 ∧ wordB v.2.2 = true) := by
  obtain ⟨k, n, t⟩ := v
  have h' : valB k n t = true := h
  rcases okV_kind h with h0 | ⟨h1, _⟩ | ⟨h1, _⟩
  · obtain rfl : k = 0 := h0
    rw [val0] at h'
    simp only [Bool.and_eq_true, beq_iff_eq] at h'
    exact .inl ⟨rfl, h'.1, empty_of h'.2⟩
  · obtain rfl : k = 1 := h1
    rw [val1] at h'
    simp only [Bool.and_eq_true] at h'
    exact .inr (.inl ⟨rfl, empty_of h'.2⟩)
  · obtain rfl : k = 2 := h1
    rw [val2] at h'
    simp only [Bool.and_eq_true, beq_iff_eq] at h'
    exact .inr (.inr ⟨rfl, h'.1, h'.2⟩)
theorem word_pos {t : ByteArray} (h : wordB t = true) : ∀ z ∈ strK t, 0 < z := fun z hz => by
  have h1 := word_letters h z hz
  obtain ⟨b, _, rfl⟩ := List.mem_map.1 hz
  omega
theorem lessZ_ne {a b : Int} (l m : List Int) (h : ¬ a = b) : lessZ (a :: l) (b :: m) = decide (a < b) := by
  rw [lessZ]
  by_cases h1 : a < b
  · rw [if_pos h1, decide_eq_true h1]
  · rw [if_neg h1, if_pos (by omega), decide_eq_false h1]
theorem lessZ_eq (a : Int) (l m : List Int) : lessZ (a :: l) (a :: m) = lessZ l m := by
  rw [lessZ, if_neg (by omega), if_neg (by omega)]
theorem cmpV_k {k k' : Int} (n n' : Int) (t t' : ByteArray) (h : ¬ k = k') : cmpV k n t k' n' t' = cmpI k k' := by unfold cmpV; rw [if_pos h]
theorem cmpV_n {n n' : Int} (k : Int) (t t' : ByteArray) (h : ¬ n = n') : cmpV k n t k n' t' = cmpI n n' := by unfold cmpV; rw [if_neg (fun e => e rfl), if_pos h]
theorem cmpV_s (k n : Int) (t t' : ByteArray) : cmpV k n t k n t' = cmpS t t' := by unfold cmpV; rw [if_neg (fun e => e rfl), if_neg (fun e => e rfl)]
/-- One value is below another as its key's bytes are below the other's. -/
theorem key_lt {v v' : VV} (h : okV v = true) (h' : okV v' = true) : (cmpV v.1 v.2.1 v.2.2 v'.1 v'.2.1 v'.2.2 < 0 ↔ lessZ (keyZ v) (keyZ v') = true) ∧ (0 < cmpV v.1 v.2.1 v.2.2 v'.1 v'.2.1 v'.2.2 ↔ lessZ (keyZ v') (keyZ v) = true) ∧ (cmpV v.1 v.2.1 v.2.2 v'.1 v'.2.1 v'.2.2 = 0 ↔ v = v') := by
  rw [keyZ_cons h, keyZ_cons h']
  have p := okV_parts h
  have p' := okV_parts h'
  clear h h'
  obtain ⟨k, n, t⟩ := v
  obtain ⟨k', n', t'⟩ := v'
  by_cases hk : k = k'
  · subst hk
    rw [lessZ_eq, lessZ_eq]
    rcases p with ⟨h0, h1, h2⟩ | ⟨h0, h1⟩ | ⟨h0, h1, h2⟩
    · rcases p' with ⟨_, h3, h4⟩ | ⟨h5, _⟩ | ⟨h5, _⟩
      · obtain rfl : k = 0 := h0
        obtain rfl : n = 0 := h1
        obtain rfl : t = ⟨#[]⟩ := h2
        obtain rfl : n' = 0 := h3
        obtain rfl : t' = ⟨#[]⟩ := h4
        rw [cmpV_s, cmpS_lt.2.2.2 rfl, lessZ_irr]
        simp
      · exact absurd (h0.symm.trans h5) (by omega)
      · exact absurd (h0.symm.trans h5) (by omega)
    · rcases p' with ⟨h5, _⟩ | ⟨_, h4⟩ | ⟨h5, _⟩
      · exact absurd (h0.symm.trans h5) (by omega)
      · obtain rfl : k = 1 := h0
        obtain rfl : t = ⟨#[]⟩ := h1
        obtain rfl : t' = ⟨#[]⟩ := h4
        have e1 : tailK (1, n, ⟨#[]⟩) = numZ (n + 1000000000) := rfl
        have e2 : tailK (1, n', ⟨#[]⟩) = numZ (n' + 1000000000) := rfl
        rw [e1, e2, less_num, less_num]
        by_cases hn : n = n'
        · subst hn
          rw [cmpV_s, cmpS_lt.2.2.2 rfl]
          simp
        · have hi := cmpI_lt (a := n) (b := n')
          rw [cmpV_n _ _ _ hn]
          refine ⟨hi.1.trans (by simp), hi.2.1.trans (by simp), hi.2.2.trans ?_⟩
          simp
      · exact absurd (h0.symm.trans h5) (by omega)
    · rcases p' with ⟨h5, _⟩ | ⟨h5, _⟩ | ⟨_, h3, h4⟩
      · exact absurd (h0.symm.trans h5) (by omega)
      · exact absurd (h0.symm.trans h5) (by omega)
      · obtain rfl : k = 2 := h0
        obtain rfl : n = 0 := h1
        obtain rfl : n' = 0 := h3
        have e1 : tailK (2, 0, t) = strK t ++ [0] := rfl
        have e2 : tailK (2, 0, t') = strK t' ++ [0] := rfl
        have hc := cmpS_lt (s := t) (t := t')
        rw [e1, e2, lessZ_end _ _ (word_pos h2) (word_pos h4), lessZ_end _ _ (word_pos h4) (word_pos h2), cmpV_s]
        refine ⟨hc.1, hc.2.1, hc.2.2.trans ?_⟩
        simp
  · have hi := cmpI_lt (a := k) (b := k')
    rw [cmpV_k _ _ _ _ hk, lessZ_ne _ _ (by simp; omega), lessZ_ne _ _ (by simp; omega)]
    refine ⟨hi.1.trans (by simp), hi.2.1.trans (by simp), hi.2.2.trans ?_⟩
    exact ⟨fun e => absurd e hk, fun e => absurd (congrArg Prod.fst e) hk⟩

end Go.Proofs.YtkfkhfagehcmiaaDoor
