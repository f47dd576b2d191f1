/-
  What a parser of expressions reads: a relation, its reach and its end.
-/
import Derived.Test.YtbpfpjmjmkpjoaaGreatDoorQn
namespace Go.Proofs.YtbpfpjmjmkpjoaaGreatDoor
open Go Go.RowKit

/-- The first of what is left, nothing where none is left. -/
def nxt (T : List ByteArray) : ByteArray := T.headD ⟨#[]⟩
def wNot : ByteArray := ⟨#[110, 111, 116]⟩
def wIs : ByteArray := ⟨#[105, 115]⟩
def wOp : ByteArray := ⟨#[40]⟩
def wCl : ByteArray := ⟨#[41]⟩
inductive Ch where
  | or | and | sum | mul
inductive Lv where
  | ch (c : Ch) | more (c : Ch) (p : PT) | den | cmp | neg | pri
def Ch.sub : Ch → Lv
  | .or => .ch .and
  | .and => .den
  | .sum => .ch .mul
  | .mul => .neg
def Ch.lo : Ch → Nat
  | .or => 13
  | .and => 12
  | .sum => 6
  | .mul => 8
def Ch.hi : Ch → Nat
  | .or => 13
  | .and => 12
  | .sum => 7
  | .mul => 9
/-- The sign of a level that stands ahead, 0 if none. -/
def sgn (lo hi : Nat) (T : List ByteArray) : Nat := if nxt T = sgT lo then lo else if nxt T = sgT hi then hi else 0
inductive Res where
  | err (c : Int)
  | ok (p : PT) (T : List ByteArray) (n : Nat)
/-- A value that stands ahead, and what is left behind it. -/
def vAt (T : List ByteArray) : Option (VT × List ByteArray) :=
  match valT (nxt T) with
  | some v => some (v, T.drop 1)
  | none => if nxt T = wMin then (match numB (nxt (T.drop 1)) with
      | some n => if n = 0 then none else some (⟨1, -n, ⟨#[]⟩⟩, T.drop 2)
      | none => none) else none
/-- Which column stands ahead. -/
def colOf (t : ByteArray) : Option Nat := if t = clT 0 then some 0 else if t = clT 1 then some 1 else if t = clT 2 then some 2 else none
inductive Parses : Lv → Nat → List ByteArray → Nat → Res → Prop where
  | chE {c : Ch} {o : Nat} {T : List ByteArray} {n : Nat} {e : Int} : Parses c.sub o T n (.err e) → Parses (.ch c) o T n (.err e)
  | chO {c : Ch} {o : Nat} {T T1 : List ByteArray} {n n1 : Nat} {p : PT} {r : Res} : Parses c.sub o T n (.ok p T1 n1) → Parses (.more c p) o T1 n1 r → Parses (.ch c) o T n r
  | mEnd {c : Ch} {o : Nat} {T : List ByteArray} {n : Nat} {p : PT} : sgn c.lo c.hi T = 0 → Parses (.more c p) o T n (.ok p T n)
  | mErr {c : Ch} {o : Nat} {T : List ByteArray} {n : Nat} {p : PT} {e : Int} {k : Nat} : sgn c.lo c.hi T = k → k ≠ 0 → Parses c.sub o (T.drop 1) n (.err e) → Parses (.more c p) o T n (.err e)
  | mMany {c : Ch} {o : Nat} {T T1 : List ByteArray} {n n1 : Nat} {p q : PT} {k : Nat} : sgn c.lo c.hi T = k → k ≠ 0 → Parses c.sub o (T.drop 1) n (.ok q T1 n1) → n1 = 40 → Parses (.more c p) o T n (.err 6)
  | mOk {c : Ch} {o : Nat} {T T1 : List ByteArray} {n n1 : Nat} {p q : PT} {k : Nat} {r : Res} : sgn c.lo c.hi T = k → k ≠ 0 → Parses c.sub o (T.drop 1) n (.ok q T1 n1) → n1 < 40 → Parses (.more c (.bin (k : Int) p q)) o T1 (n1 + 1) r → Parses (.more c p) o T n r
  | dDeep {o : Nat} {T : List ByteArray} {n : Nat} : nxt T = wNot → o = 48 → Parses .den o T n (.err 16)
  | dErr {o : Nat} {T : List ByteArray} {n : Nat} {e : Int} : nxt T = wNot → o < 48 → Parses .den (o + 1) (T.drop 1) n (.err e) → Parses .den o T n (.err e)
  | dMany {o : Nat} {T T1 : List ByteArray} {n n1 : Nat} {p : PT} : nxt T = wNot → o < 48 → Parses .den (o + 1) (T.drop 1) n (.ok p T1 n1) → n1 = 40 → Parses .den o T n (.err 6)
  | dOk {o : Nat} {T T1 : List ByteArray} {n n1 : Nat} {p : PT} : nxt T = wNot → o < 48 → Parses .den (o + 1) (T.drop 1) n (.ok p T1 n1) → n1 < 40 → Parses .den o T n (.ok (.una 3 p) T1 (n1 + 1))
  | dC {o : Nat} {T : List ByteArray} {n : Nat} {r : Res} : nxt T ≠ wNot → Parses .cmp o T n r → Parses .den o T n r
  | cE {o : Nat} {T : List ByteArray} {n : Nat} {e : Int} : Parses (.ch .sum) o T n (.err e) → Parses .cmp o T n (.err e)
  | cIsF {o : Nat} {T T1 : List ByteArray} {n n1 : Nat} {p : PT} : Parses (.ch .sum) o T n (.ok p T1 n1) → nxt T1 = wIs → nxt (T1.drop 1) ≠ wNull → Parses .cmp o T n (.err 3)
  | cIsM {o : Nat} {T T1 : List ByteArray} {n n1 : Nat} {p : PT} : Parses (.ch .sum) o T n (.ok p T1 n1) → nxt T1 = wIs → nxt (T1.drop 1) = wNull → n1 = 40 → Parses .cmp o T n (.err 6)
  | cIs {o : Nat} {T T1 : List ByteArray} {n n1 : Nat} {p : PT} : Parses (.ch .sum) o T n (.ok p T1 n1) → nxt T1 = wIs → nxt (T1.drop 1) = wNull → n1 < 40 → Parses .cmp o T n (.ok (.una 4 p) (T1.drop 2) (n1 + 1))
  | cQE {o : Nat} {T T1 : List ByteArray} {n n1 k : Nat} {p : PT} {e : Int} : Parses (.ch .sum) o T n (.ok p T1 n1) → nxt T1 ≠ wIs → sgn 10 11 T1 = k → k ≠ 0 → Parses (.ch .sum) o (T1.drop 1) n1 (.err e) → Parses .cmp o T n (.err e)
  | cQM {o : Nat} {T T1 T2 : List ByteArray} {n n1 n2 k : Nat} {p q : PT} : Parses (.ch .sum) o T n (.ok p T1 n1) → nxt T1 ≠ wIs → sgn 10 11 T1 = k → k ≠ 0 → Parses (.ch .sum) o (T1.drop 1) n1 (.ok q T2 n2) → n2 = 40 → Parses .cmp o T n (.err 6)
  | cQ {o : Nat} {T T1 T2 : List ByteArray} {n n1 n2 k : Nat} {p q : PT} : Parses (.ch .sum) o T n (.ok p T1 n1) → nxt T1 ≠ wIs → sgn 10 11 T1 = k → k ≠ 0 → Parses (.ch .sum) o (T1.drop 1) n1 (.ok q T2 n2) → n2 < 40 → Parses .cmp o T n (.ok (.bin (k : Int) p q) T2 (n2 + 1))
  | c0 {o : Nat} {T T1 : List ByteArray} {n n1 : Nat} {p : PT} : Parses (.ch .sum) o T n (.ok p T1 n1) → nxt T1 ≠ wIs → sgn 10 11 T1 = 0 → Parses .cmp o T n (.ok p T1 n1)
  | gVM {o : Nat} {T T1 : List ByteArray} {n : Nat} {v : VT} : vAt T = some (v, T1) → n = 40 → Parses .neg o T n (.err 6)
  | gV {o : Nat} {T T1 : List ByteArray} {n : Nat} {v : VT} : vAt T = some (v, T1) → n < 40 → Parses .neg o T n (.ok (.con v.k v.n v.t) T1 (n + 1))
  | gDeep {o : Nat} {T : List ByteArray} {n : Nat} : vAt T = none → nxt T = wMin → o = 48 → Parses .neg o T n (.err 16)
  | gErr {o : Nat} {T : List ByteArray} {n : Nat} {e : Int} : vAt T = none → nxt T = wMin → o < 48 → Parses .neg (o + 1) (T.drop 1) n (.err e) → Parses .neg o T n (.err e)
  | gMany {o : Nat} {T T1 : List ByteArray} {n n1 : Nat} {p : PT} : vAt T = none → nxt T = wMin → o < 48 → Parses .neg (o + 1) (T.drop 1) n (.ok p T1 n1) → n1 = 40 → Parses .neg o T n (.err 6)
  | gOk {o : Nat} {T T1 : List ByteArray} {n n1 : Nat} {p : PT} : vAt T = none → nxt T = wMin → o < 48 → Parses .neg (o + 1) (T.drop 1) n (.ok p T1 n1) → n1 < 40 → Parses .neg o T n (.ok (.una 5 p) T1 (n1 + 1))
  | gP {o : Nat} {T : List ByteArray} {n : Nat} {r : Res} : vAt T = none → nxt T ≠ wMin → Parses .pri o T n r → Parses .neg o T n r
  | pDeep {o : Nat} {T : List ByteArray} {n : Nat} : nxt T = wOp → o = 48 → Parses .pri o T n (.err 16)
  | pErr {o : Nat} {T : List ByteArray} {n : Nat} {e : Int} : nxt T = wOp → o < 48 → Parses (.ch .or) (o + 1) (T.drop 1) n (.err e) → Parses .pri o T n (.err e)
  | pNo {o : Nat} {T T1 : List ByteArray} {n n1 : Nat} {p : PT} : nxt T = wOp → o < 48 → Parses (.ch .or) (o + 1) (T.drop 1) n (.ok p T1 n1) → nxt T1 ≠ wCl → Parses .pri o T n (.err 3)
  | pOk {o : Nat} {T T1 : List ByteArray} {n n1 : Nat} {p : PT} : nxt T = wOp → o < 48 → Parses (.ch .or) (o + 1) (T.drop 1) n (.ok p T1 n1) → nxt T1 = wCl → Parses .pri o T n (.ok p (T1.drop 1) n1)
  | pColM {o : Nat} {T : List ByteArray} {n k : Nat} : nxt T ≠ wOp → colOf (nxt T) = some k → n = 40 → Parses .pri o T n (.err 6)
  | pCol {o : Nat} {T : List ByteArray} {n k : Nat} : nxt T ≠ wOp → colOf (nxt T) = some k → n < 40 → Parses .pri o T n (.ok (.col (k : Int)) (T.drop 1) (n + 1))
  | pF {o : Nat} {T : List ByteArray} {n : Nat} : nxt T ≠ wOp → colOf (nxt T) = none → Parses .pri o T n (.err 3)
/-- A step of the reader takes one at least. -/
def Lv.nMore : Lv → Bool
  | .more _ _ => false
  | _ => true
def Lv.cnt0 : Lv → Nat
  | .more _ p => p.cnt
  | _ => 0
def Lv.ok0 : Lv → Bool
  | .more _ p => p.ok
  | _ => true
def Goes (l : Lv) (T : List ByteArray) (n : Nat) : Res → Prop
  | .err e => e ≠ 0 ∧ -1000 ≤ e ∧ e ≤ 1000
  | .ok p T1 n1 => (∃ k, T1 = T.drop k ∧ k ≤ T.length ∧ (l.nMore = true → 1 ≤ k)) ∧ n1 + l.cnt0 = n + p.cnt ∧ n1 ≤ 40 ∧ p.ok = true

end Go.Proofs.YtbpfpjmjmkpjoaaGreatDoor
