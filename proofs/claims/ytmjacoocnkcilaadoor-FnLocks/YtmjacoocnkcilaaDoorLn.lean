/-
  A map from rows to holders that the call makes: look-up, store, clear.
-/
import Derived.Test.YtmjacoocnkcilaaDoorLh
import Derived.Maps.OwnOps
import Derived.Maps.Views
namespace Go.Proofs.YtmjacoocnkcilaaDoor
open Go Go.RowKit
attribute [local go_sem ↓] Go.wp_at_zero Go.wp_at_succ

open Go.Maps Go.ChangeMaps Go.MapKept
open Go.WideElems (Fit)

def lU (b : B64) : DataW Unit := .lit (.int .u64 (b.toNat : Int))
def dH (h : HM) : DataW Unit := .agg [lU (h 0), lU (h 1), lU (h 2), lU (h 3), lU (h 4)]
def elH (v : Value) : Option (DataW Unit × List MemPlace) :=
  match v with
  | .agg c => match c.toList with
    | [.int .u64 a0, .int .u64 a1, .int .u64 a2, .int .u64 a3, .int .u64 a4] => some (.agg [.lit (.int .u64 a0), .lit (.int .u64 a1), .lit (.int .u64 a2), .lit (.int .u64 a3), .lit (.int .u64 a4)], [])
    | _ => none
  | _ => none
theorem elH_cH (h : HM) : elH (.agg (cH h)) = some (dH h, []) := rfl
theorem elH_inv {v : Value} {h : HM} {ps : List MemPlace} (e : elH v = some (dH h, ps)) : v = .agg (cH h) := by
  unfold elH at e
  split at e
  · rename_i c
    split at e
    · rename_i a0 a1 a2 a3 a4 hc
      simp only [Option.some.injEq, Prod.mk.injEq, dH, lU, DataW.agg.injEq, List.cons.injEq, DataW.lit.injEq, Lit.int.injEq, true_and, and_true] at e
      obtain ⟨⟨e0, e1, e2, e3, e4⟩, _⟩ := e
      have : c = cH h := by
        apply Array.toList_inj.1
        rw [hc, e0, e1, e2, e3, e4]
        rfl
      rw [this]
    · cases e
  · cases e
def zeroH : HM := fun _ => 0#64
abbrev FM := Int → HM
def putM (f : FM) (r : Int) (h : HM) : FM := fun z => if z = r then h else f z
theorem keyI : Keyed Tryd.prog 3 := int_keyed Tryd.underlying3
theorem zeroHV (w : World) : (zeroValue 76).run Tryd.prog w = .ok (.agg (cH zeroH)) w := by kernel_rfl
/-- Block b is a map of at most n entries; at a row stands what f says. -/
def OwnM (w : World) (b n : Nat) (f : FM) : Prop :=
  ∃ D : DataW Unit, w.ownsMap Tryd.prog 3 elH b n D ∧ IsMap D ∧ ∀ r : Int, D.atKey (.int .i64 r) (dH zeroH) = dH (f r)
theorem OwnM.kept {w w' : World} {b n : Nat} {f : FM} (h : OwnM w b n f) (hs : w'.heap[b]? = w.heap[b]?) : OwnM w' b n f := by
  obtain ⟨D, ⟨es, clock, hb, F, hn, hD⟩, hm, ha⟩ := h
  exact ⟨D, ⟨es, clock, hs.trans hb, F, hn, hD⟩, hm, ha⟩
theorem OwnM.lt {w : World} {b n : Nat} {f : FM} (h : OwnM w b n f) : b < w.heap.size := by
  obtain ⟨D, ho, _⟩ := h; exact ho.lt
theorem OwnM.made (w : World) : OwnM (w.alloc (.map #[] 0)) w.heap.size 0 (fun _ => zeroH) :=
  ⟨.map [], World.ownsMap_made w Tryd.prog 3 elH, isMap_empty, fun _ => rfl⟩
theorem key_r {r : Int} (hr : -1 ≤ r ∧ r ≤ 1000) : keyOf Tryd.prog 3 (.int .i64 r) = some (.int .i64 r) := keyOf_int_mk Tryd.underlying3 (WalkArith.wf_i64 (by omega))
theorem wp_lookH (w : World) {ops : Array Oper} {rest : List Oper} {o : Oper} {a : Act} {Q : Exit → Act → World → Prop}
    (hg : o.guard = none) (m x : Operand) (hop : o.op = Op.lookup 98 m x false) (b n : Nat) (f : FM) (hm : a.eval m = .map (some b)) (hown : OwnM w b n f) (r : Int) (hx : a.eval x = .int .i64 r) (hr : -1 ≤ r ∧ r ≤ 1000)
    (hK : wpList Tryd.prog ops Q rest (a.put o.dst (.agg (cH (f r)))) w) : wpList Tryd.prog ops Q (o :: rest) a w := by
  refine wpList_plain hg fun K' hK' => ?_
  obtain ⟨D, ho, hD, ha⟩ := hown
  obtain ⟨v, ps, hrun, hv⟩ := ho.lookup keyI Tryd.underlying98 (zeroHV w) (elH_cH zeroH) (key_r hr)
  rw [ha r] at hv
  obtain rfl := elH_inv hv
  unfold Oper.wp
  simp [execOp, hop, hm, hx, hrun, Result.andThen]
  exact hK' _ _ hK
theorem wp_putH (w : World) {ops : Array Oper} {rest : List Oper} {o : Oper} {a : Act} {Q : Exit → Act → World → Prop}
    (hg : o.guard = none) (m x v : Operand) (hop : o.op = Op.mapUpdate 98 m x v) (b n : Nat) (f : FM) (hm : a.eval m = .map (some b)) (hown : OwnM w b n f) (hn : n < maxLen) (r : Int) (hx : a.eval x = .int .i64 r) (hr : -1 ≤ r ∧ r ≤ 1000) (h : HM) (hv : a.eval v = .agg (cH h))
    (hK : ∀ w', OwnM w' b (n + 1) (putM f r h) → w.grownBy w' (some b) → wpList Tryd.prog ops Q rest (a.put o.dst undef) w') : wpList Tryd.prog ops Q (o :: rest) a w := by
  refine wpList_plain hg fun K' hK' => ?_
  obtain ⟨D, ho, hD, ha⟩ := hown
  obtain ⟨w', hrun, r1, r2⟩ := ho.update keyI Tryd.underlying98 hn (key_r hr) (elH_cH h)
  unfold Oper.wp
  simp [execOp, hop, hm, hx, hv, hrun, Result.andThen]
  refine hK' _ _ (hK w' ⟨_, r1, hD.put _ _, fun z => ?_⟩ r2)
  unfold putM
  by_cases hz : z = r
  · subst hz
    rw [if_pos rfl]
    exact atKey_put_same hD (by trivial) _ _
  · rw [if_neg hz, atKey_put_other (by intro e; cases e; exact hz rfl)]
    exact ha z
theorem wp_clearH (w : World) {ops : Array Oper} {rest : List Oper} {o : Oper} {a : Act} {Q : Exit → Act → World → Prop}
    (hg : o.guard = none) (m : Operand) (hop : o.op = .call { callee := .builtin .clear, args := #[m], argTypes := #[98] }) (b n : Nat) (f : FM) (hm : a.eval m = .map (some b)) (hown : OwnM w b n f)
    (hK : ∀ v w', OwnM w' b 0 (fun _ => zeroH) → w.grownBy w' (some b) → wpList Tryd.prog ops Q rest (a.put o.dst v) w') : wpList Tryd.prog ops Q (o :: rest) a w := by
  refine wpList_plain hg fun K' hK' => ?_
  obtain ⟨D, ⟨es, clock, hb, F, hn, hD⟩, hmp, ha⟩ := hown
  have hrun : (Builtin.clear_ #[98] o.type #[.map (some b)]).run Tryd.prog w = .ok (.tuple #[]) (setBlock w b (.map #[] clock)) := by
    simp [Builtin.clear_, run_underlying Tryd.underlying98, MapKept.run_getObj_map hb, MapKept.run_setObj_map _ hb, Result.andThen, setBlock]
  have h1 : OwnM (setBlock w b (.map #[] clock)) b 0 (fun _ => zeroH) := ⟨.map [], ⟨#[], clock, heap_setBlock_same hb _, ⟨by simp, stamped_empty clock, by simp⟩, Nat.le_refl _, rfl⟩, isMap_empty, fun _ => rfl⟩
  have h2 : w.grownBy (setBlock w b (.map #[] clock)) (some b) := ⟨rfl, rfl, rfl, by simp [setBlock], fun i _ hi => heap_setBlock_other hb _ (fun e => hi (by rw [e]))⟩
  unfold Oper.wp
  simp [execOp, hop, resolve, invoke, builtin, hm, hrun, Result.andThen]
  exact hK' _ _ (hK _ _ h1 h2)

end Go.Proofs.YtmjacoocnkcilaaDoor
