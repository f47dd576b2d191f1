/-
  The nodes of a part, the part that is read of them; values by their tokens.
-/
import Derived.Test.YtbpfpjmjmkpjoaaGreatDoorTa
import Derived.Test.YtbpfpjmjmkpjoaaGreatDoorNum
namespace Go.Proofs.YtbpfpjmjmkpjoaaGreatDoor
open Go Go.RowKit

set_option linter.unusedVariables false
set_option linter.unusedSimpArgs false
theorem emptyL : (⟨#[]⟩ : ByteArray).toList = [] := by first | rfl | exact (by simp : ByteArray.empty.toList = [])
def PT.cnt : PT → Nat
  | .con _ _ _ => 1
  | .col _ => 1
  | .una _ p => p.cnt + 1
  | .bin _ l r => l.cnt + r.cnt + 1
def PT.ok : PT → Bool
  | .con k n t => valB k n t
  | .col c => inB c 0 2
  | .una op p => inB op 3 5 && p.ok
  | .bin op l r => inB op 6 13 && (l.ok && r.ok)
theorem pF_stp (L : List EN) (fu k : Nat) : pF L (fu + 1) (k + 1) =
    cond ((L.getD k zeroE).o == 1) (cond ((L.getD k zeroE).a == 0 && ((L.getD k zeroE).b == 0 && ((L.getD k zeroE).c == 0 && valB (L.getD k zeroE).k (L.getD k zeroE).n (L.getD k zeroE).t))) (some (.con (L.getD k zeroE).k (L.getD k zeroE).n (L.getD k zeroE).t, k)) none)
    (cond ((L.getD k zeroE).o == 2) (cond ((L.getD k zeroE).a == 0 && ((L.getD k zeroE).b == 0 && (noV (L.getD k zeroE) && inB (L.getD k zeroE).c 0 2))) (some (.col (L.getD k zeroE).c, k)) none)
    (cond (inB (L.getD k zeroE).o 3 5) (cond ((L.getD k zeroE).a == (k : Int) - 1 && ((L.getD k zeroE).b == 0 && ((L.getD k zeroE).c == 0 && noV (L.getD k zeroE)))) (match pF L fu k with | none => none | some (p, f) => some (.una (L.getD k zeroE).o p, f)) none)
    (cond (inB (L.getD k zeroE).o 6 13) (match pF L fu k with | none => none | some (r, f) => cond ((L.getD k zeroE).a == (f : Int) - 1 && ((L.getD k zeroE).b == (k : Int) - 1 && ((L.getD k zeroE).c == 0 && noV (L.getD k zeroE)))) (match pF L fu f with | none => none | some (l, g) => some (.bin (L.getD k zeroE).o l r, g)) none)
    none))) := by
  rw [pF]
  generalize L.getD k zeroE = x
  unfold inB
  cases pF L fu k with
  | none => simp only [Bool.cond_decide, Bool.cond_eq_ite, beq_iff_eq, decide_eq_true_eq] <;> rfl
  | some q => simp only [Bool.cond_decide, Bool.cond_eq_ite, beq_iff_eq, decide_eq_true_eq] <;> rfl
def nodesP : PT → Nat → List EN
  | .con k n t, _ => [⟨1, 0, 0, 0, k, n, t⟩]
  | .col c, _ => [⟨2, 0, 0, c, 0, 0, ⟨#[]⟩⟩]
  | .una op p, m => nodesP p m ++ [⟨op, ((m + (nodesP p m).length : Nat) : Int) - 1, 0, 0, 0, 0, ⟨#[]⟩⟩]
  | .bin op l r, m => nodesP l m ++ nodesP r (m + (nodesP l m).length) ++ [⟨op, ((m + (nodesP l m).length : Nat) : Int) - 1, ((m + (nodesP l m).length + (nodesP r (m + (nodesP l m).length)).length : Nat) : Int) - 1, 0, 0, 0, ⟨#[]⟩⟩]
theorem nodes_len : ∀ (p : PT) (m : Nat), (nodesP p m).length = p.cnt
  | .con _ _ _, _ => rfl
  | .col _, _ => rfl
  | .una _ p, m => by rw [nodesP, PT.cnt, List.length_append, nodes_len p m]; rfl
  | .bin _ l r, m => by rw [nodesP, PT.cnt, List.length_append, List.length_append, nodes_len l, nodes_len r]; rfl
def SegE (L : List EN) (m : Nat) (C : List EN) : Prop := ∀ j, j < C.length → L.getD (m + j) zeroE = C.getD j zeroE
theorem SegE.left {L : List EN} {m : Nat} {A C : List EN} (h : SegE L m (A ++ C)) : SegE L m A := fun j hj => by
  rw [h j (by rw [List.length_append]; omega), List.getD_eq_getElem?_getD, List.getElem?_append_left hj, ← List.getD_eq_getElem?_getD]
theorem SegE.right {L : List EN} {m : Nat} {A C : List EN} (h : SegE L m (A ++ C)) : SegE L (m + A.length) C := fun j hj => by
  have := h (A.length + j) (by rw [List.length_append]; omega)
  rw [Nat.add_assoc, this, List.getD_eq_getElem?_getD, List.getElem?_append_right (by omega), Nat.add_sub_cancel_left, ← List.getD_eq_getElem?_getD]
theorem SegE.one {L : List EN} {m : Nat} {x : EN} (h : SegE L m [x]) : L.getD m zeroE = x := by
  have := h 0 (by simp)
  simpa using this
theorem noV0 (o a b c : Int) : noV ⟨o, a, b, c, 0, 0, ⟨#[]⟩⟩ = true := by unfold noV; rw [emptyL]; rfl
theorem cnt_pos : ∀ (p : PT), 1 ≤ p.cnt
  | .con _ _ _ => Nat.le_refl _
  | .col _ => Nat.le_refl _
  | .una _ _ => by simp [PT.cnt]
  | .bin _ _ _ => by simp [PT.cnt]
theorem pF_nodes (L : List EN) : ∀ (p : PT) (m fu : Nat), p.ok = true → SegE L m (nodesP p m) → p.cnt ≤ fu → pF L fu (m + p.cnt) = some (p, m)
  | .con k x t, m, fu, ok, hs, hf => by
    obtain ⟨fu, rfl⟩ : ∃ g, fu = g + 1 := ⟨fu - 1, by simp [PT.cnt] at hf; omega⟩
    have hx := SegE.one hs
    rw [show m + (PT.con k x t).cnt = m + 1 from rfl, pF_stp, hx]
    have hv : valB k x t = true := ok
    simp only [hv]
    rfl
  | .col c, m, fu, ok, hs, hf => by
    obtain ⟨fu, rfl⟩ : ∃ g, fu = g + 1 := ⟨fu - 1, by simp [PT.cnt] at hf; omega⟩
    have hx := SegE.one hs
    rw [show m + (PT.col c).cnt = m + 1 from rfl, pF_stp, hx]
    have hv : inB c 0 2 = true := ok
    simp only [hv, noV0]
    rfl
  | .una op p, m, fu, ok, hs, hf => by
    obtain ⟨fu, rfl⟩ : ∃ g, fu = g + 1 := ⟨fu - 1, by simp [PT.cnt] at hf; omega⟩
    have ok2 : inB op 3 5 = true ∧ p.ok = true := by simpa [PT.ok] using ok
    rw [nodesP] at hs
    have hx := hs.right.one
    have ih := pF_nodes L p m fu ok2.2 hs.left (by simp [PT.cnt] at hf; omega)
    rw [nodes_len] at hx
    rw [show m + (PT.una op p).cnt = m + p.cnt + 1 from rfl, pF_stp, hx, ih]
    have h35 : 3 ≤ op ∧ op ≤ 5 := of_decide_eq_true ok2.1
    have o1 : (op == 1) = false := by simp; omega
    have o2 : (op == 2) = false := by simp; omega
    have oa : ((((m + p.cnt : Nat) : Int) - 1) == ((m + p.cnt : Nat) : Int) - 1) = true := by simp
    simp only [o1, o2, ok2.1, noV0, oa]
    rfl
  | .bin op l r, m, fu, ok, hs, hf => by
    obtain ⟨fu, rfl⟩ : ∃ g, fu = g + 1 := ⟨fu - 1, by simp [PT.cnt] at hf; omega⟩
    have ok2 : inB op 6 13 = true ∧ l.ok = true ∧ r.ok = true := by simpa [PT.ok] using ok
    rw [nodesP] at hs
    have hx := hs.right.one
    have sr := hs.left.right
    simp only [List.length_append, nodes_len] at hx sr
    have ihl := pF_nodes L l m fu ok2.2.1 hs.left.left (by simp [PT.cnt] at hf; omega)
    have ihr := pF_nodes L r (m + l.cnt) fu ok2.2.2 sr (by simp [PT.cnt] at hf; omega)
    rw [← Nat.add_assoc] at hx
    rw [show m + (PT.bin op l r).cnt = m + l.cnt + r.cnt + 1 by simp [PT.cnt]; omega, pF_stp, hx, ihr]
    dsimp only
    rw [ihl]
    have h613 : 6 ≤ op ∧ op ≤ 13 := of_decide_eq_true ok2.1
    have o1 : (op == 1) = false := by simp; omega
    have o2 : (op == 2) = false := by simp; omega
    have o3 : inB op 3 5 = false := decide_eq_false (by omega)
    have oa : ((((m + l.cnt : Nat) : Int) - 1) == ((m + l.cnt : Nat) : Int) - 1) = true := by simp
    have ob : ((((m + l.cnt + r.cnt : Nat) : Int) - 1) == ((m + l.cnt + r.cnt : Nat) : Int) - 1) = true := by simp
    simp only [o1, o2, o3, ok2.1, noV0, oa, ob]
    rfl


structure VT where
  k : Int
  n : Int
  t : ByteArray
def numB (t : ByteArray) : Option Int := numT t.data.toList
/-- A text in quotes without them. -/
def inQ (t : ByteArray) : ByteArray := t.extract 1 (t.size - 1)
def wNull : ByteArray := ⟨#[110, 117, 108, 108]⟩
def wMin : ByteArray := ⟨#[45]⟩
/-- The value that a token is. -/
def valT (t : ByteArray) : Option VT :=
  if t = wNull then some ⟨0, 0, ⟨#[]⟩⟩
  else if by8 t 0 = 39 then (if wordB (inQ t) then some ⟨2, 0, inQ t⟩ else none)
  else match numB t with | some n => some ⟨1, n, ⟨#[]⟩⟩ | none => none
/-- A token of the lexer's, or nothing at all. -/
structure Tok (t : ByteArray) : Prop where
  size : t.size ≤ 65536
  quote : by8 t 0 = 39 → 2 ≤ t.size ∧ by8 t (t.size - 1) = 39
  minus : by8 t 0 = 45 → t = wMin
theorem valT_ok {t : ByteArray} {v : VT} (h : valT t = some v) : valB v.k v.n v.t = true := by
  unfold valT at h
  split at h
  · simp only [Option.some.injEq] at h; subst h; rw [val0, emptyL]; rfl
  · split at h
    · split at h
      · rename_i hw
        simp only [Option.some.injEq] at h; subst h
        rw [val2, hw]; rfl
      · cases h
    · split at h
      · rename_i n hn
        simp only [Option.some.injEq] at h; subst h
        rw [val1]
        have hb : -1000000000 ≤ n ∧ n ≤ 1000000000 := ((num_iff _ n).1 hn).2
        unfold inB
        rw [decide_eq_true hb, emptyL]; rfl
      · cases h
theorem neg_num (l : List UInt8) (h : l.head? ≠ some 45) : numT (45 :: l) = match numT l with | some n => if n = 0 then none else some (-n) | none => none := by
  have e1 : numL (45 :: l) = if okD l && decide (l.length ≤ 18) && !(l.head? == some 48) then some (-(valD l : Int)) else none := by rw [numL, if_pos rfl]
  have e2 : numL l = if okD l && decide (l.length ≤ 18) then some (valD l : Int) else none := by
    cases l with
    | nil => rfl
    | cons b r =>
      have : b ≠ 45 := fun e => h (by rw [e]; rfl)
      rw [numL, if_neg this]
  unfold numT
  rw [e1, e2]
  cases hk : okD l && decide (l.length ≤ 18) with
  | false => simp
  | true =>
    have ho : okD l = true := by cases ho : okD l <;> rw [ho] at hk <;> simp_all
    obtain ⟨p0, p1, p2⟩ := okD_parts ho
    by_cases h48 : l.head? = some 48
    · have hl : l = [48] := by
        cases l with
        | nil => exact absurd rfl p0
        | cons b r =>
          have hlen := p2 h48
          simp only [List.length_cons] at hlen
          have hr : r = [] := List.eq_nil_of_length_eq_zero (by omega)
          simp only [List.head?_cons, Option.some.injEq] at h48
          rw [hr, h48]
      rw [hl]; decide
    · have hp := valD_pos l p0 p1 h48
      have hb : (l.head? == some 48) = false := by simpa using h48
      simp only [hb, Bool.not_false, Bool.and_true, if_true]
      by_cases hr : (valD l : Int) ≤ 1000000000
      · rw [if_pos (by omega), if_pos (by omega)]
        dsimp only
        rw [if_neg (by omega)]
      · rw [if_neg (by omega), if_neg (by omega)]

end Go.Proofs.YtbpfpjmjmkpjoaaGreatDoor
