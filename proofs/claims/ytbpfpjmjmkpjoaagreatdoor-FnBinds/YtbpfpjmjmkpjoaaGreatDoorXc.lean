/-
  Parts of an expression, and where they end.
-/
import Derived.Test.YtbpfpjmjmkpjoaaGreatDoorXb
namespace Go.Proofs.YtbpfpjmjmkpjoaaGreatDoor
open Go Go.RowKit

inductive PT where
  | con (k n : Int) (t : ByteArray)
  | col (c : Int)
  | una (op : Int) (p : PT)
  | bin (op : Int) (l r : PT)
def PT.enc : PT → Value
  | .con k n t => .iface 125 (.agg #[.int .i64 k, .int .i64 n, .string t])
  | .col c => .iface 128 (.agg #[.int .i64 c])
  | .una op p => .iface 130 (.agg #[.int .i64 op, p.enc])
  | .bin op l r => .iface 133 (.agg #[.int .i64 op, l.enc, r.enc])
def PT.dep : PT → Nat
  | .con _ _ _ => 1
  | .col _ => 1
  | .una _ p => p.dep + 1
  | .bin _ l r => max l.dep r.dep + 1
def noV (x : EN) : Bool := x.k == 0 && (x.n == 0 && (x.t.toList == []))
/-- The part whose last node is the one ahead of place k, and the place of its first node. -/
def pF (L : List EN) : Nat → Nat → Option (PT × Nat)
  | 0, _ => none
  | _ + 1, 0 => none
  | fu + 1, k + 1 =>
    let x := L.getD k zeroE
    if x.o = 1 then (if x.a == 0 && (x.b == 0 && (x.c == 0 && valB x.k x.n x.t)) then some (.con x.k x.n x.t, k) else none)
    else if x.o = 2 then (if x.a == 0 && (x.b == 0 && (noV x && inB x.c 0 2)) then some (.col x.c, k) else none)
    else if 3 ≤ x.o ∧ x.o ≤ 5 then
      (if x.a == (k : Int) - 1 && (x.b == 0 && (x.c == 0 && noV x)) then (match pF L fu k with | none => none | some (p, f) => some (.una x.o p, f)) else none)
    else if 6 ≤ x.o ∧ x.o ≤ 13 then
      (match pF L fu k with
      | none => none
      | some (r, f) => if x.a == (f : Int) - 1 && (x.b == (k : Int) - 1 && (x.c == 0 && noV x)) then (match pF L fu f with | none => none | some (l, g) => some (.bin x.o l r, g)) else none)
    else none
def encO : Option (PT × Nat) → Value
  | none => .nilIface
  | some (p, _) => p.enc
def ahO (k : Nat) : Option (PT × Nat) → Int
  | none => (k : Int) - 1
  | some (_, f) => (f : Int) - 1
theorem pF_lt (L : List EN) : ∀ (fu k : Nat) (p : PT) (f : Nat), pF L fu k = some (p, f) → f < k
  | 0, _, _, _, h => by simp [pF] at h
  | _ + 1, 0, _, _, h => by simp [pF] at h
  | fu + 1, k + 1, p, f, h => by
    unfold pF at h
    dsimp only at h
    split at h
    · split at h
      · simp only [Option.some.injEq, Prod.mk.injEq] at h; omega
      · cases h
    · split at h
      · split at h
        · simp only [Option.some.injEq, Prod.mk.injEq] at h; omega
        · cases h
      · split at h
        · split at h
          · cases e : pF L fu k with
            | none => rw [e] at h; cases h
            | some q => obtain ⟨q, g⟩ := q; rw [e] at h; simp only [Option.some.injEq, Prod.mk.injEq] at h; have := pF_lt L fu k q g e; omega
          · cases h
        · split at h
          · cases e : pF L fu k with
            | none => rw [e] at h; cases h
            | some q =>
              obtain ⟨q, g⟩ := q
              rw [e] at h
              dsimp only at h
              split at h
              · cases e2 : pF L fu g with
                | none => rw [e2] at h; cases h
                | some q2 => obtain ⟨q2, g2⟩ := q2; rw [e2] at h; simp only [Option.some.injEq, Prod.mk.injEq] at h; have := pF_lt L fu k q g e; have := pF_lt L fu g q2 g2 e2; omega
              · cases h
          · cases h

end Go.Proofs.YtbpfpjmjmkpjoaaGreatDoor
