/-
  How deep a part is.
-/
import Derived.Test.YtbpfpjmjmkpjoaaGreatDoorXj
import Derived.Deep.RegionHeld3
import Derived.Deep.DrawnRows
namespace Go.Proofs.YtbpfpjmjmkpjoaaGreatDoor
open Go Go.RowKit
attribute [local go_sem ↓] Go.wp_at_zero Go.wp_at_succ
set_option linter.unusedVariables false

set_option maxRecDepth 100000 in
set_option maxHeartbeats 4000000 in
theorem c_dcon (k n : Int) (t : ByteArray) (w : World) : Calls Tryz.prog 267 #[.agg #[.int .i64 k, .int .i64 n, .string t]] w fun e w' => e = .returned (.int .i64 1) ∧ Below w.heap.size w w' := by
  go_enter Tryz.func267, Tryz.ntmps267
  go_wp2
  go_ret
  first | exact ⟨rfl, Below.refl _ _⟩ | exact ⟨rfl, (Below.refl _ _).alloc (Nat.le_refl _) _⟩
set_option maxRecDepth 100000 in
set_option maxHeartbeats 4000000 in
theorem c_dcol (c : Int) (w : World) : Calls Tryz.prog 268 #[.agg #[.int .i64 c]] w fun e w' => e = .returned (.int .i64 1) ∧ Below w.heap.size w w' := by
  go_enter Tryz.func268, Tryz.ntmps268
  go_wp2
  go_ret
  first | exact ⟨rfl, Below.refl _ _⟩ | exact ⟨rfl, (Below.refl _ _).alloc (Nat.le_refl _) _⟩
/-- A part's depth, by the method of its kind. -/
def DepC : PT → Prop
  | .con k n t => ∀ w, Calls Tryz.prog 267 #[.agg #[.int .i64 k, .int .i64 n, .string t]] w fun e w' => e = .returned (.int .i64 1) ∧ Below w.heap.size w w'
  | .col c => ∀ w, Calls Tryz.prog 268 #[.agg #[.int .i64 c]] w fun e w' => e = .returned (.int .i64 1) ∧ Below w.heap.size w w'
  | .una op p => ∀ w, Calls Tryz.prog 269 #[.agg #[.int .i64 op, p.enc]] w fun e w' => e = .returned (.int .i64 ((PT.una op p).dep : Int)) ∧ Below w.heap.size w w'
  | .bin op l r => ∀ w, Calls Tryz.prog 270 #[.agg #[.int .i64 op, l.enc, r.enc]] w fun e w' => e = .returned (.int .i64 ((PT.bin op l r).dep : Int)) ∧ Below w.heap.size w w'
set_option maxRecDepth 100000 in
set_option maxHeartbeats 4000000 in
theorem c_duna (op : Int) (p : PT) (hp : DepC p) (hd : p.dep ≤ 1048576) : DepC (.una op p) := by
  intro w
  have e1 : (PT.una op p).dep = p.dep + 1 := rfl
  have HE : Hid ((((PT.una op p).dep : Nat) : Int) = 1 + (p.dep : Int)) := by unfold Hid; rw [e1]; omega
  clear e1
  cases p
  all_goals
    have CP := hp
    unfold DepC at CP
    unfold PT.enc
    go_enter Tryz.func269, Tryz.ntmps269
    go_wp2_with fail
    refine (CP _).mono ?_
    rintro e w1 ⟨rfl, hb⟩
    have HB : Hid (Below w.heap.size w w1) := ((Below.refl w.heap.size w).alloc (Nat.le_refl _) _).trans (hb.mono (by simp))
    clear hb CP hp
    go_wp2
    go_ret
    exact ⟨ret_int HE.out.symm, HB.out⟩

end Go.Proofs.YtbpfpjmjmkpjoaaGreatDoor
