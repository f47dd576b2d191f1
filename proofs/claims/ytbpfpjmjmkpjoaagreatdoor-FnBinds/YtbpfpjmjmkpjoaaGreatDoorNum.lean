/-
  The texts of numbers, and what they are read as.
-/
import Derived.Test.YtbpfpjmjmkpjoaaGreatDoorBa
import Derived.WalkKit
import Derived.Lib.ItoaMem
import Derived.Lib.AtoiAll
import Derived.Lib.Atoi
namespace Go.Proofs.YtbpfpjmjmkpjoaaGreatDoor
open Go Go.RowKit

set_option linter.unusedVariables false
set_option linter.unusedSimpArgs false
open Go.Lib
def isDg (b : UInt8) : Bool := decide (48 ≤ b.toNat ∧ b.toNat ≤ 57)
def valD (l : List UInt8) : Nat := l.foldl (fun n b => n * 10 + (b.toNat - 48)) 0
theorem valD_snoc (l : List UInt8) (b : UInt8) : valD (l ++ [b]) = valD l * 10 + (b.toNat - 48) := by unfold valD; rw [List.foldl_append]; rfl
/-- A number's digits: no nought ahead of another digit. -/
def okD (l : List UInt8) : Bool := !l.isEmpty && l.all isDg && !(l.head? == some 48 && decide (1 < l.length))
theorem okD_parts {l : List UInt8} (h : okD l = true) : l ≠ [] ∧ (∀ b ∈ l, 48 ≤ b.toNat ∧ b.toNat ≤ 57) ∧ (l.head? = some 48 → l.length ≤ 1) := by
  unfold okD at h
  simp only [Bool.and_eq_true, Bool.not_eq_true', List.isEmpty_eq_false_iff, List.all_eq_true, Bool.and_eq_false_iff] at h
  refine ⟨h.1.1, fun b hb => by have := h.1.2 b hb; unfold isDg at this; exact of_decide_eq_true this, fun hh => ?_⟩
  rcases h.2 with h2 | h2
  · rw [hh] at h2; simp at h2
  · have := of_decide_eq_false h2; omega
theorem okD_mk {l : List UInt8} (h0 : l ≠ []) (h1 : ∀ b ∈ l, 48 ≤ b.toNat ∧ b.toNat ≤ 57) (h2 : l.head? = some 48 → l.length ≤ 1) : okD l = true := by
  unfold okD
  simp only [Bool.and_eq_true, Bool.not_eq_true', List.isEmpty_eq_false_iff, List.all_eq_true, Bool.and_eq_false_iff]
  refine ⟨⟨h0, fun b hb => by unfold isDg; exact decide_eq_true (h1 b hb)⟩, ?_⟩
  by_cases hh : l.head? = some 48
  · right; have := h2 hh; exact decide_eq_false (by omega)
  · left; simpa using hh
theorem ofNat_dg {b : UInt8} (h1 : 48 ≤ b.toNat) (h2 : b.toNat ≤ 57) : UInt8.ofNat (48 + (b.toNat - 48)) = b := by
  rw [show 48 + (b.toNat - 48) = b.toNat by omega]; simp
theorem valD_pos : ∀ (l : List UInt8), l ≠ [] → (∀ b ∈ l, 48 ≤ b.toNat ∧ b.toNat ≤ 57) → l.head? ≠ some 48 → 1 ≤ valD l := by
  intro l
  induction h : l.length generalizing l with
  | zero => intro h0; exact absurd (List.eq_nil_of_length_eq_zero h) h0
  | succ k ih =>
    intro h0 h1 h2
    rcases List.eq_nil_or_concat l with e | ⟨i, b, e⟩
    · exact absurd e h0
    · subst e
      rw [List.concat_eq_append] at *
      rw [valD_snoc]
      have hb := h1 b (by simp)
      by_cases hi : i = []
      · subst hi
        have hne : b.toNat ≠ 48 := fun e => h2 (by simp; exact UInt8.toNat_inj.1 (by simpa using e))
        omega
      · have := ih i (by simp at h; omega) hi (fun c hc => h1 c (by simp [hc])) (by
          cases i with
          | nil => exact absurd rfl hi
          | cons c i => simpa using h2)
        omega
/-- Digits are the numeral of what they spell. -/
theorem dec_val : ∀ (l : List UInt8), okD l = true → decDigits (valD l) = l := by
  intro l
  induction h : l.length generalizing l with
  | zero => intro h0; exact absurd (List.eq_nil_of_length_eq_zero h) (okD_parts h0).1
  | succ k ih =>
    intro h0
    obtain ⟨p0, p1, p2⟩ := okD_parts h0
    rcases List.eq_nil_or_concat l with e | ⟨i, b, e⟩
    · exact absurd e p0
    · subst e
      rw [List.concat_eq_append] at *
      have hb := p1 b (by simp)
      rw [valD_snoc]
      by_cases hi : i = []
      · subst hi
        rw [show valD [] = 0 from rfl, Nat.zero_mul, Nat.zero_add, decDigits_one (by omega), ofNat_dg hb.1 hb.2]
        rfl
      · have hh : i.head? ≠ some 48 := fun e => by
          have := p2 (by cases i with
            | nil => exact absurd rfl hi
            | cons c i => simpa using e)
          cases i with
          | nil => exact hi rfl
          | cons c i => simp at this
        have hp := valD_pos i hi (fun c hc => p1 c (by simp [hc])) hh
        rw [decDigits, dif_neg (by omega), show (valD i * 10 + (b.toNat - 48)) / 10 = valD i by omega, show (valD i * 10 + (b.toNat - 48)) % 10 = b.toNat - 48 by omega, ofNat_dg hb.1 hb.2, ih i (by simp at h; omega) (okD_mk hi (fun c hc => p1 c (by simp [hc])) (fun e => absurd e hh))]
theorem val_dec (u : Nat) : okD (decDigits u) = true ∧ valD (decDigits u) = u ∧ (1 ≤ u → (decDigits u).head? ≠ some 48) := by
  induction u using Nat.strongRecOn with
  | _ u ih =>
    by_cases h : u < 10
    · rw [decDigits_one h]
      have e : (UInt8.ofNat (48 + u)).toNat = 48 + u := by simp; omega
      refine ⟨okD_mk (by simp) (fun b hb => ?_) (fun _ => by simp), ?_, fun h1 e' => ?_⟩
      · simp only [List.mem_cons, List.not_mem_nil, or_false] at hb
        subst hb; rw [e]; omega
      · show 0 * 10 + ((UInt8.ofNat (48 + u)).toNat - 48) = u
        rw [e]; omega
      · simp only [List.head?_cons, Option.some.injEq] at e'
        rw [e'] at e
        simp at e; omega
    · obtain ⟨i1, i2, i3⟩ := ih (u / 10) (by omega)
      obtain ⟨q0, q1, q2⟩ := okD_parts i1
      have i3' := i3 (by omega)
      have e : (UInt8.ofNat (48 + u % 10)).toNat = 48 + u % 10 := by simp; omega
      rw [decDigits, dif_neg h]
      have hd : (decDigits (u / 10) ++ [UInt8.ofNat (48 + u % 10)]).head? = (decDigits (u / 10)).head? := by
        cases hc : decDigits (u / 10) with
        | nil => exact absurd hc q0
        | cons c i => rfl
      refine ⟨okD_mk (by simp) (fun b hb => ?_) (fun e' => absurd (hd ▸ e') i3'), ?_, fun _ => by rw [hd]; exact i3'⟩
      · rcases List.mem_append.1 hb with hb | hb
        · exact q1 b hb
        · simp only [List.mem_cons, List.not_mem_nil, or_false] at hb
          subst hb; rw [e]; omega
      · rw [valD_snoc, i2, e]; omega
/-- What a text is read as by the specification's own reader of numbers. -/
def numL : List UInt8 → Option Int
  | [] => none
  | b :: r => if b = 45 then (if okD r && decide (r.length ≤ 18) && !(r.head? == some 48) then some (-(valD r : Int)) else none) else (if okD (b :: r) && decide ((b :: r).length ≤ 18) then some (valD (b :: r) : Int) else none)
/-- A number within a value's bounds by its text. -/
def numT (l : List UInt8) : Option Int := match numL l with | some n => if -1000000000 ≤ n ∧ n ≤ 1000000000 then some n else none | none => none
theorem nDig_le {u : Nat} (h : u ≤ 1000000000) : (decDigits u).length ≤ 10 := by
  rw [decDigits_length]
  have step : ∀ (k u : Nat), u < 10 ^ (k + 1) → nDigits u ≤ k + 1 := by
    intro k
    induction k with
    | zero => intro u hu; rw [nDigits_small (by simpa using hu)]; omega
    | succ k ih =>
      intro u hu
      by_cases h : u < 10
      · rw [nDigits_small h]; omega
      · rw [nDigits_big h]
        have := ih (u / 10) (by rw [Nat.pow_succ] at hu; omega)
        omega
  exact step 9 u (by omega)
/-- The texts of numbers are just what is read as numbers. -/
theorem num_iff (l : List UInt8) (n : Int) : numT l = some n ↔ itoa n = l ∧ -1000000000 ≤ n ∧ n ≤ 1000000000 := by
  constructor
  · intro h
    unfold numT at h
    cases hl : numL l with
    | none => rw [hl] at h; cases h
    | some m =>
      rw [hl] at h
      dsimp only at h
      split at h
      · rename_i hb
        cases h
        refine ⟨?_, hb.1, hb.2⟩
        cases l with
        | nil => cases hl
        | cons b r =>
          simp only [numL] at hl
          split at hl
          · rename_i hb45
            split at hl
            · rename_i hok
              cases hl
              simp only [Bool.and_eq_true, Bool.not_eq_true'] at hok
              have hh : r.head? ≠ some 48 := by have := hok.2; intro e; rw [e] at this; simp at this
              obtain ⟨p0, p1, _⟩ := okD_parts hok.1.1
              rw [itoa_neg _ (valD_pos r p0 p1 hh), dec_val r hok.1.1, hb45]
            · cases hl
          · split at hl
            · rename_i hok
              cases hl
              simp only [Bool.and_eq_true] at hok
              rw [itoa_nonneg, dec_val _ hok.1]
            · cases hl
      · cases h
  · rintro ⟨rfl, h1, h2⟩
    have key : numL (itoa n) = some n := by
      by_cases hn : n < 0
      · obtain ⟨u, hu⟩ : ∃ u : Nat, n = -(u : Int) := ⟨n.natAbs, by omega⟩
        subst hu
        rw [itoa_neg u (by omega)]
        obtain ⟨v1, v2, v3⟩ := val_dec u
        have hlen := nDig_le (u := u) (by omega)
        simp only [numL]
        have hh : ((decDigits u).head? == some 48) = false := by simpa using v3 (by omega)
        rw [v1, decide_eq_true (show (decDigits u).length ≤ 18 by omega), hh]
        simp [v2]
      · obtain ⟨u, hu⟩ : ∃ u : Nat, n = (u : Int) := ⟨n.toNat, by omega⟩
        subst hu
        rw [itoa_nonneg]
        obtain ⟨v1, v2, v3⟩ := val_dec u
        obtain ⟨p0, p1, _⟩ := okD_parts v1
        have hlen := nDig_le (u := u) (by omega)
        cases hc : decDigits u with
        | nil => exact absurd hc p0
        | cons b r =>
          simp only [numL]
          have hb := p1 b (by rw [hc]; simp)
          have hb45 : b ≠ 45 := fun e => by rw [e] at hb; simp at hb
          rw [if_neg hb45, ← hc, v1, decide_eq_true (show (decDigits u).length ≤ 18 by omega), if_pos (by rfl), v2]
    unfold numT
    rw [key]
    dsimp only
    rw [if_pos ⟨h1, h2⟩]
theorem pu_val : ∀ (l : List UInt8) (acc k : Nat), (∀ b ∈ l, 48 ≤ b.toNat ∧ b.toNat ≤ 57) → acc < 10 ^ k → k + l.length ≤ 18 → parseUint10 acc l = .ok (l.foldl (fun n b => n * 10 + (b.toNat - 48)) acc)
  | [], acc, k, _, _, _ => rfl
  | c :: r, acc, k, h1, h2, h3 => by
    have hc := h1 c (by simp)
    simp only [List.length_cons] at h3
    have hk : 10 ^ k ≤ 10 ^ 17 := Nat.pow_le_pow_right (by omega) (by omega)
    simp only [parseUint10]
    rw [if_pos hc, if_neg (by omega), if_neg (by omega), pu_val r _ (k + 1) (fun b hb => h1 b (by simp [hb])) (by rw [Nat.pow_succ]; omega) (by omega)]
    rfl
theorem atoi_itoa {n : Int} (h1 : -1000000000 ≤ n) (h2 : n ≤ 1000000000) : atoiAll (itoa n) = .ok n := by
  have mag : ∀ u : Nat, u ≤ 1000000000 → parseMag (decDigits u) = .ok u := fun u hu => by
    obtain ⟨v1, v2, _⟩ := val_dec u
    obtain ⟨p0, p1, _⟩ := okD_parts v1
    have hlen := nDig_le hu
    unfold parseMag
    rw [if_neg p0, pu_val _ 0 0 p1 (by omega) (by omega)]
    exact congrArg NumEnd.ok v2
  by_cases hn : n < 0
  · obtain ⟨u, hu⟩ : ∃ u : Nat, n = -(u : Int) := ⟨n.natAbs, by omega⟩
    subst hu
    rw [itoa_neg u (by omega)]
    have e : ((45 : UInt8).toNat) = 45 := rfl
    simp only [atoiAll, e, or_true, if_true, mag u (by omega)]
    rw [if_neg (by omega), if_neg (by omega)]
  · obtain ⟨u, hu⟩ : ∃ u : Nat, n = (u : Int) := ⟨n.toNat, by omega⟩
    subst hu
    rw [itoa_nonneg]
    obtain ⟨v1, _, _⟩ := val_dec u
    obtain ⟨p0, p1, _⟩ := okD_parts v1
    have hm := mag u (by omega)
    cases hc : decDigits u with
    | nil => exact absurd hc p0
    | cons b r =>
      have hb := p1 b (by rw [hc]; simp)
      rw [hc] at hm
      simp only [atoiAll]
      rw [if_neg (show ¬ (b.toNat = 43 ∨ b.toNat = 45) by omega), hm]
      dsimp only
      rw [if_neg (by omega), if_neg (by omega), if_neg (by omega)]
/-- What Atoi and Itoa tell together: the number, where the text is one's. -/
theorem num_atoi (l : List UInt8) : (∀ v, atoiAll l = .ok v → (numT l = some v ↔ (itoa v = l ∧ -1000000000 ≤ v ∧ v ≤ 1000000000)) ∧ (¬ (itoa v = l ∧ -1000000000 ≤ v ∧ v ≤ 1000000000) → numT l = none)) ∧ ((∀ v, atoiAll l ≠ .ok v) → numT l = none) := by
  refine ⟨fun v hv => ⟨num_iff l v, fun hno => ?_⟩, fun hno => ?_⟩
  · cases hc : numT l with
    | none => rfl
    | some m =>
      obtain ⟨e, b1, b2⟩ := (num_iff l m).1 hc
      have := atoi_itoa b1 b2
      rw [e, hv] at this
      cases this
      exact absurd ⟨e, b1, b2⟩ hno
  · cases hc : numT l with
    | none => rfl
    | some m =>
      obtain ⟨e, b1, b2⟩ := (num_iff l m).1 hc
      have := atoi_itoa b1 b2
      rw [e] at this
      exact absurd this (hno m)

end Go.Proofs.YtbpfpjmjmkpjoaaGreatDoor
