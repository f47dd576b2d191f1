/-
  Regions that draw their order, whose operations only read, and whose calls make nothing but blocks of their own: one walk serves every order.
-/
import Derived.Test.YtbpfpjmjmkpjoaaGreatDoorBx
import Derived.Deep.Quiet
import Derived.Deep.QuietTactic
import Derived.BigQuiet
namespace Go.Proofs.YtbpfpjmjmkpjoaaGreatDoor
open Go Go.RowKit
attribute [local go_sem ↓] Go.wp_at_zero Go.wp_at_succ

/-- The worlds that a world grows into. -/
structure Out (w : World) where
  y : World
  p : Below w.heap.size w y
theorem Out.some (w : World) : Nonempty (Out w) := ⟨⟨w, Below.refl _ _⟩⟩
theorem q_begin {P : Program} {id : Nat} {Q : Exit → Act → World → Prop} {a : Act} {w : World} {l : List Oper} (hm : P.follows .mixedOrders = true) (hB : Region.lexB .any l.toArray = true) (h : wpQuiet P l.toArray (fun x => ∃ q : Out w, x = q.y) (fun a' => ∀ w', (∃ q : Out w, w' = q.y) → Q .normal a' w') l a) : (Code.region id l.toArray true).wp P Q a w :=
  wp_region_quiet (C := fun x => ∃ q : Out w, x = q.y) hm hB ⟨⟨_, (Below.refl _ _).drew⟩, rfl⟩ (by rw [show l.toArray.toList = l by simp]; exact h)
theorem q_call {P : Program} {w : World} {q : Out w} {f : FuncId} {args : Array Value} {v : Value} (h : Calls P f args q.y fun e y => e = .returned v ∧ Below q.y.heap.size q.y y) : Calls P f args q.y fun e y => e = .returned v ∧ ∃ q' : Out w, y = q'.y :=
  h.mono fun _ y hy => ⟨hy.1, ⟨y, q.p.trans (hy.2.mono q.p.size)⟩, rfl⟩
theorem q_same {P : Program} {w : World} {q : Out w} {f : FuncId} {args : Array Value} {v : Value} (h : Calls P f args q.y fun e y => e = .returned v ∧ y = q.y) : Calls P f args q.y fun e y => e = .returned v ∧ ∃ q' : Out w, y = q'.y :=
  h.mono fun _ _ hy => ⟨hy.1, q, hy.2⟩
theorem q_cell {w : World} {b o : Nat} {u : Value} (h : w.cell? ⟨b, o, none⟩ = some u) (q : Out w) : q.y.cell? ⟨b, o, none⟩ = some u := far6 q.p h

end Go.Proofs.YtbpfpjmjmkpjoaaGreatDoor
