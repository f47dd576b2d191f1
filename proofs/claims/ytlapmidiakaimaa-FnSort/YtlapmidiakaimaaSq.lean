/-
  Sorted rows are the same rows, in one order.
-/
import Derived.Test.YtlapmidiakaimaaSk
namespace Go.Proofs.Ytlapmidiakaimaa
open Go Go.RowKit
attribute [local go_sem ↓] Go.wp_at_zero Go.wp_at_succ

set_option linter.unusedVariables false
set_option linter.unusedSimpArgs false
/-- A comparison that orders. -/
structure Good {α : Type} (f : α → α → Int) : Prop where
  anti : ∀ x y, f y x = - f x y
  trans : ∀ x y z, f x y < 0 → f y z < 0 → f x z < 0
  eqL : ∀ x y z, f x y = 0 → f x z = f y z
theorem Good.eqR {α : Type} {f : α → α → Int} (h : Good f) (x y z : α) (e : f y z = 0) : f x z = f x y := by
  have h1 := h.eqL z y x (by rw [h.anti y z, e]; rfl)
  rw [h.anti x z, h.anti x y] at h1
  omega
def lexF {α : Type} (f g : α → α → Int) (x y : α) : Int := if f x y = 0 then g x y else f x y
theorem good_lex {α : Type} {f g : α → α → Int} (hf : Good f) (hg : Good g) : Good (lexF f g) := by
  refine ⟨fun x y => ?_, fun x y z h1 h2 => ?_, fun x y z h => ?_⟩
  · unfold lexF
    rw [hf.anti x y, hg.anti x y]
    by_cases e : f x y = 0
    · rw [if_pos e, if_pos (by omega)]
    · rw [if_neg e, if_neg (by omega)]
  · unfold lexF at h1 h2 ⊢
    by_cases e : f x y = 0
    · rw [if_pos e] at h1
      have e3 := hf.eqL x y z e
      by_cases e2 : f y z = 0
      · rw [if_pos e2] at h2
        rw [if_pos (by omega)]
        exact hg.trans x y z h1 h2
      · rw [if_neg e2] at h2
        rw [if_neg (by omega)]
        omega
    · rw [if_neg e] at h1
      by_cases e2 : f y z = 0
      · have := hf.eqR x y z e2
        rw [if_neg (by omega)]
        omega
      · rw [if_neg e2] at h2
        have := hf.trans x y z h1 h2
        rw [if_neg (by omega)]
        exact this
  · unfold lexF at h ⊢
    by_cases e : f x y = 0
    · rw [if_pos e] at h
      rw [hf.eqL x y z e, hg.eqL x y z h]
    · rw [if_neg e] at h
      exact absurd h e
theorem good_pull {α β : Type} {f : β → β → Int} (hf : Good f) (p : α → β) : Good (fun x y => f (p x) (p y)) := ⟨fun _ _ => hf.anti _ _, fun _ _ _ => hf.trans _ _ _, fun _ _ _ => hf.eqL _ _ _⟩
theorem good_cmpI : Good cmpI := by
  refine ⟨fun x y => cmpI_anti x y, fun x y z h1 h2 => ?_, fun x y z h => ?_⟩
  · unfold cmpI at *; split at h1 <;> split at h2 <;> (try split at h1) <;> (try split at h2) <;> split <;> (try split) <;> omega
  · have : x = y := by unfold cmpI at h; split at h <;> (try split at h) <;> omega
    rw [this]
theorem bless_trans : ∀ a b c : List UInt8, Op.bytesLess a b = true → Op.bytesLess b c = true → Op.bytesLess a c = true
  | _, [], _, h, _ => by simp [Op.bytesLess] at h
  | _, _ :: _, [], _, h => by simp [Op.bytesLess] at h
  | [], _ :: _, _ :: _, _, _ => by simp [Op.bytesLess]
  | a :: x, b :: y, c :: z, h1, h2 => by
    simp only [Op.bytesLess, Bool.or_eq_true, Bool.and_eq_true, decide_eq_true_eq, beq_iff_eq] at h1 h2 ⊢
    rcases h1 with h1 | ⟨h1, h1'⟩
    · rcases h2 with h2 | ⟨h2, h2'⟩
      · exact .inl (UInt8.lt_trans h1 h2)
      · exact .inl (h2 ▸ h1)
    · rcases h2 with h2 | ⟨h2, h2'⟩
      · exact .inl (h1 ▸ h2)
      · exact .inr ⟨h1.trans h2, bless_trans x y z h1' h2'⟩
theorem cmpS_neg (a b : ByteArray) : cmpS a b < 0 ↔ Op.bytesLess a.toList b.toList = true := by
  unfold cmpS eqS lessS
  by_cases h : a.toList = b.toList
  · rw [h, less_irr]; simp
  · have e : (a.toList == b.toList) = false := by simpa using h
    rw [e]
    cases Op.bytesLess a.toList b.toList <;> simp
theorem cmpS_zero (a b : ByteArray) (h : cmpS a b = 0) : a.toList = b.toList := by
  unfold cmpS eqS lessS at h
  by_cases e : a.toList = b.toList
  · exact e
  · have e1 : (a.toList == b.toList) = false := by simpa using e
    rw [e1] at h
    cases hl : Op.bytesLess a.toList b.toList <;> rw [hl] at h <;> simp at h
theorem good_cmpS : Good cmpS := by
  refine ⟨fun x y => cmpS_anti x y, fun x y z h1 h2 => ?_, fun x y z h => ?_⟩
  · rw [cmpS_neg] at *
    exact bless_trans _ _ _ h1 h2
  · have := cmpS_zero x y h
    unfold cmpS eqS lessS
    rw [this]
theorem cmpV_lex (k n : Int) (t : ByteArray) (k' n' : Int) (t' : ByteArray) : cmpV k n t k' n' t' = if cmpI k k' = 0 then (if cmpI n n' = 0 then cmpS t t' else cmpI n n') else cmpI k k' := by
  have z : ∀ a b : Int, (cmpI a b = 0 ↔ a = b) := fun a b => by unfold cmpI; constructor <;> intro h <;> (try split at h) <;> (try split at h) <;> (try split) <;> (try split) <;> omega
  unfold cmpV
  by_cases h1 : k = k'
  · rw [if_neg (by simpa using h1), if_pos ((z _ _).2 h1)]
    by_cases h2 : n = n'
    · rw [if_neg (by simpa using h2), if_pos ((z _ _).2 h2)]
    · rw [if_pos h2, if_neg (fun e => h2 ((z _ _).1 e))]
  · rw [if_pos h1, if_neg (fun e => h1 ((z _ _).1 e))]
theorem good_cV (c : Int) : Good (cV c) := by
  have h : cV c = lexF (fun x y => cmpI (colR c x).k (colR c y).k) (lexF (fun x y => cmpI (colR c x).n (colR c y).n) (fun x y => cmpS (colR c x).t (colR c y).t)) := by
    funext x y
    unfold cV lexF
    rw [cmpV_lex]
  rw [h]
  exact good_lex (good_pull good_cmpI (fun x => (colR c x).k)) (good_lex (good_pull good_cmpI (fun x => (colR c x).n)) (good_pull good_cmpS (fun x => (colR c x).t)))
theorem good_cU (c : Int) : Good (cU c) := good_lex (good_cV c) (good_pull good_cmpI (fun x : RW => x.i))
theorem cU_id {c : Int} {x y : RW} (h : cU c x y = 0) : x.i = y.i := by
  unfold cU at h
  by_cases e : cV c x y = 0
  · rw [if_pos e] at h
    unfold cmpI at h
    split at h <;> (try split at h) <;> omega
  · rw [if_neg e] at h
    exact absurd h e
theorem posR_spec (f : RW → RW → Int) (x : RW) (out : List RW) : ∀ n, posR f x out n ≤ n ∧ (∀ k, posR f x out n ≤ k → k < n → 0 < f (out.getD k zeroR) x) ∧ (∀ p, posR f x out n = p + 1 → ¬ 0 < f (out.getD p zeroR) x)
  | 0 => ⟨Nat.le_refl _, fun k h1 h2 => by omega, fun p h => by simp [posR] at h⟩
  | n + 1 => by
    obtain ⟨h1, h2, h3⟩ := posR_spec f x out n
    by_cases h : 0 < f (out.getD n zeroR) x
    · rw [posR_go h]
      refine ⟨by omega, fun k hk hk' => ?_, h3⟩
      rcases Nat.lt_or_ge k n with hh | hh
      · exact h2 k hk hh
      · rw [show k = n by omega]; exact h
    · rw [posR_stop h]
      exact ⟨Nat.le_refl _, fun k hk hk' => by omega, fun p hp => by rw [show p = n by omega]; exact h⟩
theorem posR_uniq (f : RW → RW → Int) (x : RW) (out : List RW) (q : Nat) : ∀ n, q ≤ n → (∀ k, q ≤ k → k < n → 0 < f (out.getD k zeroR) x) → (∀ p, q = p + 1 → ¬ 0 < f (out.getD p zeroR) x) → posR f x out n = q
  | 0, h, _, _ => by simp [posR]; omega
  | n + 1, h, h2, h3 => by
    rcases Nat.lt_or_ge n q with hh | hh
    · obtain rfl : q = n + 1 := by omega
      exact posR_stop (h3 n rfl)
    · rw [posR_go (h2 n hh (by omega))]
      exact posR_uniq f x out q n hh (fun k a b => h2 k a (by omega)) h3
/-- The rows rise by f. -/
def Rise (f : RW → RW → Int) (out : List RW) : Prop := ∀ i j, i < j → j < out.length → f (out.getD i zeroR) (out.getD j zeroR) < 0
theorem getD_mem {out : List RW} {k : Nat} (h : k < out.length) : out.getD k zeroR ∈ out := by
  rw [List.getD_eq_getElem?_getD, List.getElem?_eq_getElem h]; exact List.getElem_mem h
theorem parted {f : RW → RW → Int} (hf : Good f) {out : List RW} {x : RW} (hs : Rise f out) (hx : ∀ y ∈ out, f y x ≠ 0) :
    posR f x out out.length ≤ out.length ∧ (∀ k, posR f x out out.length ≤ k → k < out.length → 0 < f (out.getD k zeroR) x) ∧ (∀ k, k < posR f x out out.length → f (out.getD k zeroR) x < 0) := by
  obtain ⟨h1, h2, h3⟩ := posR_spec f x out out.length
  refine ⟨h1, h2, fun k hk => ?_⟩
  obtain ⟨p, hp⟩ : ∃ p, posR f x out out.length = p + 1 := ⟨posR f x out out.length - 1, by omega⟩
  have h4 := h3 p hp
  have h5 := hx _ (getD_mem (show p < out.length by omega))
  have h6 : f (out.getD p zeroR) x < 0 := by omega
  rcases Nat.lt_or_ge k p with hh | hh
  · exact hf.trans _ _ _ (hs k p hh (by omega)) h6
  · rw [show k = p by omega]; exact h6
theorem insR_get (f : RW → RW → Int) (out : List RW) (x : RW) (k : Nat) (hp : posR f x out out.length ≤ out.length) : (insR f out x).getD k zeroR = if k < posR f x out out.length then out.getD k zeroR else if k = posR f x out out.length then x else out.getD (k - 1) zeroR := by
  unfold insR
  generalize posR f x out out.length = p at hp
  simp only [List.getD_eq_getElem?_getD]
  by_cases h1 : k < p
  · rw [if_pos h1, List.getElem?_append_left (by simp; omega), List.getElem?_take_of_lt h1]
  · rw [if_neg h1, List.getElem?_append_right (by simp; omega)]
    by_cases h2 : k = p
    · subst h2
      rw [if_pos rfl]
      simp [Nat.min_eq_left hp]
    · rw [if_neg h2]
      have e : k - (out.take p).length = (k - 1 - p) + 1 := by simp; omega
      rw [e, List.getElem?_cons_succ, List.getElem?_drop]
      congr 2
      omega
theorem insR_rise {f : RW → RW → Int} (hf : Good f) {out : List RW} {x : RW} (hs : Rise f out) (hx : ∀ y ∈ out, f y x ≠ 0) : Rise f (insR f out x) := by
  obtain ⟨h1, h2, h3⟩ := parted hf hs hx
  intro i j hij hj
  rw [insR_len] at hj
  rw [insR_get f out x i h1, insR_get f out x j h1]
  generalize posR f x out out.length = p at *
  by_cases a : i < p
  · rw [if_pos a]
    by_cases b : j < p
    · rw [if_pos b]; exact hs i j hij (by omega)
    · rw [if_neg b]
      by_cases c : j = p
      · rw [if_pos c]; exact h3 i a
      · rw [if_neg c]; exact hs i (j - 1) (by omega) (by omega)
  · rw [if_neg a, if_neg (show ¬ j < p by omega)]
    by_cases b : i = p
    · rw [if_pos b, if_neg (show ¬ j = p by omega)]
      have := h2 (j - 1) (by omega) (by omega)
      rw [hf.anti]
      omega
    · rw [if_neg b, if_neg (show ¬ j = p by omega)]
      exact hs (i - 1) (j - 1) (by omega) (by omega)
theorem insR_mem (f : RW → RW → Int) (out : List RW) (x y : RW) : y ∈ insR f out x ↔ y ∈ out ∨ y = x := by
  unfold insR
  generalize posR f x out out.length = p
  have e : y ∈ out ↔ y ∈ out.take p ∨ y ∈ out.drop p := by rw [← List.mem_append, List.take_append_drop]
  rw [List.mem_append, List.mem_cons, e]
  constructor
  · rintro (h | h | h)
    · exact .inl (.inl h)
    · exact .inr h
    · exact .inl (.inr h)
  · rintro ((h | h) | h)
    · exact .inl h
    · exact .inr (.inr h)
    · exact .inr (.inl h)
def flipF (f : RW → RW → Int) (x y : RW) : Int := f y x
theorem insR_flip {f : RW → RW → Int} (hf : Good f) {out : List RW} {x : RW} (hs : Rise f out) (hx : ∀ y ∈ out, f y x ≠ 0) : insR (flipF f) out.reverse x = (insR f out x).reverse := by
  obtain ⟨h1, h2, h3⟩ := parted hf hs hx
  have hg : ∀ k, k < out.length → out.reverse.getD k zeroR = out.getD (out.length - 1 - k) zeroR := fun k hk => by
    simp only [List.getD_eq_getElem?_getD]
    rw [List.getElem?_reverse hk]
  have e : posR (flipF f) x out.reverse out.reverse.length = out.length - posR f x out out.length := by
    apply posR_uniq
    · rw [List.length_reverse]; omega
    · intro k hk hk'
      rw [List.length_reverse] at hk'
      rw [hg k hk']
      unfold flipF
      have := h3 (out.length - 1 - k) (by omega)
      rw [hf.anti]
      omega
    · intro p hp
      rw [hg p (by omega)]
      unfold flipF
      have := h2 (out.length - 1 - p) (by omega) (by omega)
      rw [hf.anti]
      omega
  unfold insR
  rw [e]
  generalize posR f x out out.length = p at *
  rw [List.take_reverse, List.drop_reverse, show out.length - (out.length - p) = p by omega]
  simp
theorem fold_rise {f : RW → RW → Int} (hf : Good f) : ∀ (vs out : List RW), Rise f out → (∀ x ∈ vs, ∀ y ∈ out, f y x ≠ 0) → vs.Pairwise (fun x y => f x y ≠ 0) →
    vs.foldl (insR (flipF f)) out.reverse = (vs.foldl (insR f) out).reverse ∧ Rise f (vs.foldl (insR f) out) ∧ ∀ y, y ∈ vs.foldl (insR f) out ↔ y ∈ out ∨ y ∈ vs
  | [], out, hs, _, _ => ⟨rfl, hs, fun y => by simp⟩
  | x :: vs, out, hs, hx, hp => by
    rw [List.pairwise_cons] at hp
    have h0 : ∀ y ∈ out, f y x ≠ 0 := hx x (by simp)
    obtain ⟨a, b, c⟩ := fold_rise hf vs (insR f out x) (insR_rise hf hs h0) (fun z hz y hy => by
      rcases (insR_mem f out x y).1 hy with h | h
      · exact hx z (by simp [hz]) y h
      · rw [h]; exact hp.1 z hz) hp.2
    refine ⟨?_, b, fun y => ?_⟩
    · rw [List.foldl_cons, List.foldl_cons, insR_flip hf hs h0, a]
    · rw [List.foldl_cons, c y, insR_mem]
      simp only [List.mem_cons]
      constructor
      · rintro ((h | h) | h)
        · exact .inl h
        · exact .inr (.inl h)
        · exact .inr (.inr h)
      · rintro (h | h | h)
        · exact .inl (.inl h)
        · exact .inl (.inr h)
        · exact .inr h
theorem areB_pair : ∀ (vs : List RW) (l : Int), areB l vs = true → (∀ r ∈ vs, l ≤ r.i) ∧ vs.Pairwise (fun x y => x.i < y.i)
  | [], _, _ => ⟨fun r h => absurd h (by simp), List.Pairwise.nil⟩
  | r :: rs, l, h => by
    simp only [areB, Bool.and_eq_true, decide_eq_true_eq] at h
    obtain ⟨h1, h2, h3⟩ := h
    obtain ⟨a, b⟩ := areB_pair rs (r.i + 1) h3
    refine ⟨fun x hx => ?_, ?_⟩
    · rcases List.mem_cons.1 hx with e | e
      · rw [e]; exact h2
      · have := a x e; omega
    · rw [List.pairwise_cons]
      exact ⟨fun x hx => by have := a x hx; omega, b⟩
theorem sort_all (c : Int) (vs : List RW) (h : rowsB vs = true) : sortR (ordF c true) vs = (sortR (ordF c false) vs).reverse ∧ Rise (cU c) (sortR (ordF c false) vs) ∧ ∀ y, y ∈ sortR (ordF c false) vs ↔ y ∈ vs := by
  obtain ⟨_, hp⟩ := areB_pair vs 0 h
  have hp' : vs.Pairwise (fun x y => cU c x y ≠ 0) := hp.imp (fun hlt e => by have := cU_id e; omega)
  obtain ⟨a, b, d⟩ := fold_rise (good_cU c) vs [] (fun i j _ hj => by cases hj) (fun _ _ _ hy => by cases hy) hp'
  have e1 : ordF c false = cU c := by funext x y; rfl
  have e2 : ordF c true = flipF (cU c) := by funext x y; rfl
  rw [e1, e2]
  refine ⟨by simpa [sortR] using a, b, fun y => by simpa [sortR] using d y⟩
theorem rise_cV {c : Int} {x y : RW} (h : cU c x y < 0) : cV c x y ≤ 0 := by
  unfold cU at h
  by_cases e : cV c x y = 0
  · omega
  · rw [if_neg e] at h; omega

end Go.Proofs.Ytlapmidiakaimaa
