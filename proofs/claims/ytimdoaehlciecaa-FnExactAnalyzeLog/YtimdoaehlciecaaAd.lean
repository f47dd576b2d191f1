/-
  What the analysis of the program tells.
-/
import Derived.Test.YtimdoaehlciecaaAc
import Derived.Laws.Rows
namespace Go.Proofs.Ytimdoaehlciecaa
open Go Go.RowKit
attribute [local go_sem ↓] Go.wp_at_zero Go.wp_at_succ

theorem cD_one (v : DK) : ∀ u ∈ cD v, u.oneCell' = true := by
  intro u hu
  simp only [cD, List.mem_cons, List.not_mem_nil, or_false] at hu
  rcases hu with rfl | rfl <;> rfl
theorem cellsD_one (vs : List DK) : ∀ u ∈ cellsD vs, u.oneCell' = true := by
  intro u hu
  obtain ⟨v, _, hv⟩ := List.mem_flatMap.1 hu
  exact cD_one v u hv
theorem box_newsD {w : World} {g : Nat} {t : TypeId} {vx vf : Int} (hb : Box w g t #[.int .i64 vx, .int .i64 vf]) : ∀ ad, (some ⟨g, 0, none⟩ : Option Addr) = some ad → ∀ j u, (cD (⟨vx, vf⟩ : DK))[j]? = some u → w.cell? (ad.add j) = some u := by
  intro ad e j u hu
  obtain rfl := Option.some.inj e
  rw [addr_add, Nat.zero_add, hb.cell]
  simpa [cD] using hu
theorem cT_one (v : TK) : ∀ u ∈ cT v, u.oneCell' = true := by
  intro u hu
  simp only [cT, List.mem_cons, List.not_mem_nil, or_false] at hu
  rcases hu with rfl | rfl <;> rfl
theorem cellsT_one (vs : List TK) : ∀ u ∈ cellsT vs, u.oneCell' = true := by
  intro u hu
  obtain ⟨v, _, hv⟩ := List.mem_flatMap.1 hu
  exact cT_one v u hv
theorem box_newsT {w : World} {g : Nat} {t : TypeId} {vx vf : Int} (hb : Box w g t #[.int .i64 vx, .int .i64 vf]) : ∀ ad, (some ⟨g, 0, none⟩ : Option Addr) = some ad → ∀ j u, (cT (⟨vx, vf⟩ : TK))[j]? = some u → w.cell? (ad.add j) = some u := by
  intro ad e j u hu
  obtain rfl := Option.some.inj e
  rw [addr_add, Nat.zero_add, hb.cell]
  simpa [cT] using hu
def arrG (o n : Nat) (g : Nat → Int) : Array Value := Array.ofFn fun i : Fin n => Value.int .i64 (g (o + i.val))
theorem run_load_some {P : Program} (w : World) (p : Addr) (ty : TypeId) (cs : Array Value) (d : TypeDesc) (hc : ∀ j v, cs.toList[j]? = some v → w.cell? (p.add j) = some v)
    (hu : P.underlying ty = some d) (hd : (match d with | .struct _ | .array _ _ => true | _ => false) = true) (hi : (P.info? ty).map (·.size) = some cs.size) :
    (loadVar ty p).run P w = .ok (.agg cs) w := by
  have hl : (loadCells p cs.toList.length).run P w = .ok cs.toList.toArray w := run_loadCells_list (P := P) w p cs.toList hc
  cases hq : P.info? ty with
  | none => simp [hq] at hi
  | some i =>
    have hs : i.size = cs.size := by simpa [hq] using hi
    have hagg : (isAgg ty).run P w = .ok true w := by
      unfold isAgg
      rw [Sem.run_bind, run_underlying hu w]
      cases d <;> simp_all
    simp only [Array.length_toList, Array.toArray_toList] at hl
    simp [loadVar, Sem.run_bind, hagg, sizeOf, typeInfo, hq, hs, hl]
theorem wpList_load_some {P : Program} {ops : Array Oper} {rest : List Oper} {o : Oper} {a : Act} {w : World} {Q : Exit → Act → World → Prop} (hgd : o.guard = none) (ty : TypeId) (x : Operand) (ho : o.op = .load ty x)
    (p : Addr) (hx : a.eval x = .pointer (some p)) (cs : Array Value) (d : TypeDesc) (hc : ∀ j v, cs.toList[j]? = some v → w.cell? (p.add j) = some v)
    (hu : P.underlying ty = some d) (hd : (match d with | .struct _ | .array _ _ => true | _ => false) = true) (hi : (P.info? ty).map (·.size) = some cs.size)
    (h : wpList P ops Q rest (a.put o.dst (.agg cs)) w) : wpList P ops Q (o :: rest) a w :=
  wpList_plain hgd fun _ hK => by
    unfold Oper.wp execOp
    simp only [ho, hx, Instr.loadAt, Instr.sureAddr, Sem.run_bind, Sem.run_pure, Result.andThen_ok, run_load_some w p ty cs d hc hu hd hi]
    exact hK _ _ h
theorem arr_cells {w : World} {B : Nat} {g : Nat → Int} (h : AnB w B g) {o n : Nat} (hn : o + n ≤ 69) : ∀ j v, (arrG o n g).toList[j]? = some v → w.cell? ((⟨B, o, none⟩ : Addr).add j) = some v := by
  intro j v hv
  rw [addr_add]
  have hj : j < n := by
    rcases Nat.lt_or_ge j n with h | h
    · exact h
    · rw [List.getElem?_eq_none (by simp [arrG]; omega)] at hv; cases hv
  rw [h.cell (by omega)]
  rw [← hv]
  simp [arrG, hj]
theorem idx8 (g : Nat → Int) (k : Nat) (hk : k < 8) (w : World) : (Instr.index 67 (.agg (arrG 0 8 g)) (.int .i64 k)).run Try.prog w = .ok (.int .i64 (g k)) w := by
  rcases k with _ | _ | _ | _ | _ | _ | _ | _ | k
  all_goals first | omega | kernel_rfl
set_option maxRecDepth 100000 in
theorem idx61 (g : Nat → Int) (k : Nat) (hk : k < 61) (w : World) : (Instr.index 47 (.agg (arrG 8 61 g)) (.int .i64 k)).run Try.prog w = .ok (.int .i64 (g (8 + k))) w := by
  rcases k with _ | _ | _ | _ | _ | _ | _ | _ | _ | _ | _ | _ | _ | _ | _ | _ | _ | _ | _ | _ | _ | _ | _ | _ | _ | _ | _ | _ | _ | _ | _ | _ | _ | _ | _ | _ | _ | _ | _ | _ | _ | _ | _ | _ | _ | _ | _ | _ | _ | _ | _ | _ | _ | _ | _ | _ | _ | _ | _ | _ | _ | k
  all_goals first | omega | kernel_rfl

end Go.Proofs.Ytimdoaehlciecaa
