/-
  slices.Delete of one row.
-/
import Derived.Test.YtiobobocjokgiaaIn
import Derived.Lib.SliceRun
import Derived.Deep.RegionLaw
import Derived.Laws.AppendOwn
namespace Go.Proofs.Ytiobobocjokgiaa
open Go Go.RowKit
attribute [local go_sem ↓] Go.wp_at_zero Go.wp_at_succ

set_option linter.unusedVariables false
set_option linter.unusedSimpArgs false
theorem zeroR_run (w : World) : (zeroValue 40).run Try.prog w = .ok (.agg #[.int .i64 0, .int .i64 0, .int .i64 0, .string ⟨#[]⟩, .int .i64 0, .int .i64 0, .string ⟨#[]⟩]) w := by
  obtain ⟨i0, hi, hz0, hz1, hz2⟩ := info_parts infoR
  simp [zeroValue, typeInfo, hi, hz0]
theorem run_clear_row (w : World) (ty : TypeId) (b o c : Nat) (cur : Array Value) (t : TypeId) (hg : w.heap[b]? = some (.cells cur t (0, 0))) (hfit : o + 7 ≤ cur.size) :
    (Builtin.clear_ #[24] ty #[.slice (some ⟨b, o, none⟩) 1 c]).run Try.prog w = .ok (.tuple #[]) (w.setRow b (cur.toList.take o ++ ([.int .i64 0, .int .i64 0, .int .i64 0, .string ⟨#[]⟩, .int .i64 0, .int .i64 0, .string ⟨#[]⟩] : List Value) ++ cur.toList.drop (o + 7)).toArray) := by
  have hst := run_storeCells_at Try.prog b o t ([.int .i64 0, .int .i64 0, .int .i64 0, .string ⟨#[]⟩, .int .i64 0, .int .i64 0, .string ⟨#[]⟩] : List Value) 0 cur w hg (by simpa using hfit) (by intro v hv; simp only [List.mem_cons, List.not_mem_nil, or_false] at hv; rcases hv with h | h | h | h | h | h | h <;> subst h <;> rfl)
  simp only [Nat.add_zero] at hst
  have hzc : (Builtin.zeroCells (Value.agg #[.int .i64 0, .int .i64 0, .int .i64 0, .string ⟨#[]⟩, .int .i64 0, .int .i64 0, .string ⟨#[]⟩]).cells 1).toList = ([.int .i64 0, .int .i64 0, .int .i64 0, .string ⟨#[]⟩, .int .i64 0, .int .i64 0, .string ⟨#[]⟩] : List Value) := by first | rfl | kernel_rfl
  simp [Builtin.clear_, run_underlying (P := Try.prog) Try.underlying24, zeroR_run, hzc, hst]
theorem step_app_run {Pg : Program} {ops : Array Oper} {o : Oper} {a : Act} {w : World} {K : Act → World → Prop} {Q : Exit → Act → World → Prop} {E : Prop}
    (hg : o.guard = none) (d x : Operand) (dT sT : TypeId) (hop : o.op = Op.call { callee := Callee.builtin Builtin.append, args := #[d, x], argTypes := #[dT, sT] })
    (v u : Value) (hd : a.eval d = v) (hx : a.eval x = u) {v' : Value} {w' : World} (hr : (Builtin.append_ #[dT, sT] o.type #[v, u]).run Pg w = .ok v' w') (hK : K (a.put o.dst v') w') :
    if Region.wanted o (yielded ops a.tmps) = true then Oper.wp Pg o a w K Q else E := by
  have hw : Region.wanted o (yielded ops a.tmps) = true := by simp [Region.wanted, hg]
  rw [if_pos hw]
  unfold Oper.wp
  simp [execOp, hop, resolve, invoke, builtin, hd, hx, hr, Result.andThen]
  exact hK
set_option maxRecDepth 100000 in
set_option maxHeartbeats 4000000 in
theorem c_del (base g cap m i : Nat) (L : List RW) (w : World) (hown : w.ownsRow base 40 7 (.slice (some ⟨g, 0, none⟩) (m + 1) cap) (m + 1) (cellsR L)) (hi : i < m) (hn : m ≤ 4096) :
    Calls Try.prog 39 #[.slice (some ⟨g, 0, none⟩) (m + 1) cap, .int .i64 i, .int .i64 ((i : Int) + 1)] w fun e w' => (e = .returned (.slice (some ⟨g, 0, none⟩) m cap) ∧ w'.ownsRow base 40 7 (.slice (some ⟨g, 0, none⟩) m cap) m (cellsR (L.take i ++ L.drop (i + 1)))) ∧ w.grownBy w' (some g) := by
  have hLl : L.length = m + 1 := by have := hown.1; rw [cellsR_len] at this; omega
  obtain ⟨i0, hi0, hz0, hz1, hz2⟩ := info_parts infoR
  obtain ⟨cur, hg, hcap, hcs, htk, hbg, hmc⟩ : ∃ cur, w.heap[g]? = some (.cells cur 40 (0, 0)) ∧ cap ≤ maxLen ∧ cur.size = cap * 7 ∧ cur.toList.take ((m + 1) * 7) = cellsR L ∧ base ≤ g ∧ m + 1 ≤ cap := by
    rcases hown.2 with ⟨h, h0⟩ | ⟨g', cap', cur, h, hb, hg, h1, h2, h3, h4⟩
    · cases h
    · simp only [Value.slice.injEq, Option.some.injEq, Addr.mk.injEq] at h
      obtain ⟨⟨rfl, _⟩, _, rfl⟩ := h
      exact ⟨cur, hg, h2, h3, h4, hb, h1⟩
  have hsrc := srcOwn hown (i + 1)
  have hlen : ((cellsR L).drop ((i + 1) * 7)).length = (m - i) * 7 := by rw [List.length_drop, cellsR_len, hLl]; omega
  have him : i ≤ m := by omega
  obtain ⟨c1, hc1⟩ : ∃ c1 : Array Value, c1 = (cur.toList.take (i * 7) ++ (cellsR L).drop ((i + 1) * 7) ++ cur.toList.drop (i * 7 + ((cellsR L).drop ((i + 1) * 7)).length)).toArray := ⟨_, rfl⟩
  have hcl1 : cur.toList.length = cap * 7 := by simp [hcs]
  have hc1s : c1.size = cap * 7 := by rw [hc1]; simp only [List.size_toArray, List.length_append, List.length_take, List.length_drop, hlen, hcl1]; omega
  have ht1 : c1.toList.take (m * 7) = cellsR (L.take i ++ L.drop (i + 1)) := by
    have e1 : cur.toList.take (i * 7) = (cellsR L).take (i * 7) := by rw [← htk, List.take_take]; congr 1; omega
    rw [hc1]
    simp only [List.toList_toArray]
    rw [List.take_append_of_le_length (by simp only [List.length_append, List.length_take, hlen, hcl1]; omega), List.take_of_length_le (by simp only [List.length_append, List.length_take, hlen, hcl1]; omega), e1, cellsR_append, cellsR_take L i (by omega), cellsR_drop L (i + 1) (by omega)]
  obtain ⟨W1, hW1⟩ : ∃ W1, W1 = w.drew.setRow g c1 := ⟨_, rfl⟩
  have hg1 : W1.heap[g]? = some (.cells c1 40 (0, 0)) := by rw [hW1]; exact setRow_heap w.drew g cur _ 40 _ hg
  have hap : ∀ ty c', (Builtin.append_ #[24, 24] ty #[.slice (some ⟨g, 0, none⟩) i cap, .slice (some ⟨g, (i + 1) * 7, none⟩) (m - i) c']).run Try.prog w.drew = .ok (.slice (some ⟨g, 0, none⟩) m cap) W1 := fun ty c' => by
    have h := run_append_room (P := Try.prog) w.drew 24 ty 40 i0 Try.underlying24 hi0 g i cap cur hg ⟨g, (i + 1) * 7, none⟩ (m - i) c' ((cellsR L).drop ((i + 1) * 7)) (by rw [hlen, hz1]) hsrc (fun v hv => oneR L v (List.mem_of_mem_drop hv)) (by omega) (by rw [hz1, hlen, hcs]; omega)
    rw [hz1] at h
    rw [hW1, hc1]
    rw [show i + (m - i) = m by omega] at h
    exact h
  obtain ⟨c2, hc2⟩ : ∃ c2 : Array Value, c2 = (c1.toList.take (m * 7) ++ ([.int .i64 0, .int .i64 0, .int .i64 0, .string ⟨#[]⟩, .int .i64 0, .int .i64 0, .string ⟨#[]⟩] : List Value) ++ c1.toList.drop (m * 7 + 7)).toArray := ⟨_, rfl⟩
  have hcc : ∀ ty c', (Builtin.clear_ #[24] ty #[.slice (some ⟨g, m * 7, none⟩) 1 c']).run Try.prog W1 = .ok (.tuple #[]) (W1.setRow g c2) := fun ty c' => by
    rw [hc2]
    exact run_clear_row W1 ty g (m * 7) c' c1 40 hg1 (by rw [hc1s]; omega)
  have hc2s : c2.size = cap * 7 := by rw [hc2]; have hl1 : c1.toList.length = cap * 7 := by simp [hc1s]
                                      simp only [List.size_toArray, List.length_append, List.length_take, List.length_drop, hl1, List.length_cons, List.length_nil]; omega
  have ht2 : c2.toList.take (m * 7) = cellsR (L.take i ++ L.drop (i + 1)) := by
    have hl1 : c1.toList.length = cap * 7 := by simp [hc1s]
    rw [hc2, ← ht1]
    simp only [List.toList_toArray]
    rw [List.append_assoc, List.take_append_of_le_length (by rw [List.length_take, hl1]; omega), List.take_of_length_le (by rw [List.length_take, hl1]; omega)]
  have HF : Hid ((W1.setRow g c2).ownsRow base 40 7 (.slice (some ⟨g, 0, none⟩) m cap) m (cellsR (L.take i ++ L.drop (i + 1)))) := by
    refine ⟨by rw [cellsR_len]; simp; omega, .inr ⟨g, cap, c2, rfl, hbg, setRow_heap W1 g c1 _ 40 _ hg1, by omega, hcap, hc2s, ht2⟩⟩
  have HG : Hid (w.grownBy (W1.setRow g c2) (some g)) := by
    have a1 := grown_setRow w.drew g c1
    have a2 := grown_setRow W1 g c2
    rw [hW1] at a2 ⊢
    exact (World.grownBy.trans ⟨a1.os, a1.tape, a1.output, a1.size, a1.block⟩ a2)
  have hz2' : ¬ ((i : Int) = (i : Int) + 1) := by omega
  have hb1 : (0 : Int) ≤ (i : Int) + 1 := by omega
  have hb3 : (i : Int) ≤ (i : Int) + 1 := by omega
  have hb4 : (i : Int) + 1 ≤ (m : Int) + 1 := by omega
  have hb5 : (m : Int) + 1 ≤ (cap : Int) := by omega
  have hb6 : (i : Int) ≤ (cap : Int) := by omega
  have hb7 : (m : Int) ≤ (m : Int) + 1 := by omega
  have htn : ((i : Int) + 1).toNat = i + 1 := by omega
  have htm : ((m : Int) + 1).toNat = m + 1 := by omega
  have hq1 : ¬ (cap = m) := by omega
  have hq2 : ¬ (cap = i + 1) := by omega
  have hq3 : m + 1 - (i + 1) = m - i := by omega
  clear hc1 hc2 ht1 ht2 hc2s hc1s hg1 hg hlen hsrc htk hcs hown hcl1 hW1
  go_enter Try.func39, Try.ntmps39
  go_wp2_with fail
  go_region_law (refine step_app_run rfl (.tmp 22) (.tmp 25) 24 24 rfl (.slice (some ⟨g, 0, none⟩) i cap) (.slice (some ⟨g, (i + 1) * 7, none⟩) (m - i) (cap - (i + 1))) (by simp [Act.eval, Act.put]) (by simp [Act.eval, Act.put]) (hap _ _) ?_)
  clear hap
  go_wp2
  go_ret
  exact ⟨⟨rfl, HF.out⟩, HG.out⟩
set_option maxRecDepth 100000 in
set_option maxHeartbeats 4000000 in
theorem c_dellast (base g cap m i : Nat) (L : List RW) (w : World) (hown : w.ownsRow base 40 7 (.slice (some ⟨g, 0, none⟩) (m + 1) cap) (m + 1) (cellsR L)) (hi : i = m) (hn : m ≤ 4096) (hx : ¬ (cap = m + 1)) :
    Calls Try.prog 39 #[.slice (some ⟨g, 0, none⟩) (m + 1) cap, .int .i64 i, .int .i64 ((i : Int) + 1)] w fun e w' => (e = .returned (.slice (some ⟨g, 0, none⟩) m cap) ∧ w'.ownsRow base 40 7 (.slice (some ⟨g, 0, none⟩) m cap) m (cellsR (L.take i ++ L.drop (i + 1)))) ∧ w.grownBy w' (some g) := by
  have hLl : L.length = m + 1 := by have := hown.1; rw [cellsR_len] at this; omega
  obtain ⟨i0, hi0, hz0, hz1, hz2⟩ := info_parts infoR
  obtain ⟨cur, hg, hcap, hcs, htk, hbg, hmc⟩ : ∃ cur, w.heap[g]? = some (.cells cur 40 (0, 0)) ∧ cap ≤ maxLen ∧ cur.size = cap * 7 ∧ cur.toList.take ((m + 1) * 7) = cellsR L ∧ base ≤ g ∧ m + 1 ≤ cap := by
    rcases hown.2 with ⟨h, h0⟩ | ⟨g', cap', cur, h, hb, hg, h1, h2, h3, h4⟩
    · cases h
    · simp only [Value.slice.injEq, Option.some.injEq, Addr.mk.injEq] at h
      obtain ⟨⟨rfl, _⟩, _, rfl⟩ := h
      exact ⟨cur, hg, h2, h3, h4, hb, h1⟩
  have hsrc := srcOwn hown (i + 1)
  have hlen : ((cellsR L).drop ((i + 1) * 7)).length = (m - i) * 7 := by rw [List.length_drop, cellsR_len, hLl]; omega
  have him : i ≤ m := by omega
  obtain ⟨c1, hc1⟩ : ∃ c1 : Array Value, c1 = (cur.toList.take (i * 7) ++ (cellsR L).drop ((i + 1) * 7) ++ cur.toList.drop (i * 7 + ((cellsR L).drop ((i + 1) * 7)).length)).toArray := ⟨_, rfl⟩
  have hcl1 : cur.toList.length = cap * 7 := by simp [hcs]
  have hc1s : c1.size = cap * 7 := by rw [hc1]; simp only [List.size_toArray, List.length_append, List.length_take, List.length_drop, hlen, hcl1]; omega
  have ht1 : c1.toList.take (m * 7) = cellsR (L.take i ++ L.drop (i + 1)) := by
    have e1 : cur.toList.take (i * 7) = (cellsR L).take (i * 7) := by rw [← htk, List.take_take]; congr 1; omega
    rw [hc1]
    simp only [List.toList_toArray]
    rw [List.take_append_of_le_length (by simp only [List.length_append, List.length_take, hlen, hcl1]; omega), List.take_of_length_le (by simp only [List.length_append, List.length_take, hlen, hcl1]; omega), e1, cellsR_append, cellsR_take L i (by omega), cellsR_drop L (i + 1) (by omega)]
  obtain ⟨W1, hW1⟩ : ∃ W1, W1 = w.drew.setRow g c1 := ⟨_, rfl⟩
  have hg1 : W1.heap[g]? = some (.cells c1 40 (0, 0)) := by rw [hW1]; exact setRow_heap w.drew g cur _ 40 _ hg
  have hap : ∀ ty ad c', (Builtin.append_ #[24, 24] ty #[.slice (some ⟨g, 0, none⟩) i cap, .slice (some ad) 0 c']).run Try.prog w.drew = .ok (.slice (some ⟨g, 0, none⟩) m cap) W1 := fun ty ad c' => by
    have h := run_append_room (P := Try.prog) w.drew 24 ty 40 i0 Try.underlying24 hi0 g i cap cur hg ad 0 c' ((cellsR L).drop ((i + 1) * 7)) (by rw [hlen, hz1]; omega) (fun j u hj => by have h0 : ((cellsR L).drop ((i + 1) * 7)) = [] := List.eq_nil_of_length_eq_zero (by rw [hlen]; omega); rw [h0] at hj; cases hj) (fun v hv => oneR L v (List.mem_of_mem_drop hv)) (by omega) (by rw [hz1, hlen, hcs]; omega)
    rw [hz1] at h
    rw [hW1, hc1]
    rw [show i + 0 = m by omega] at h
    exact h
  obtain ⟨c2, hc2⟩ : ∃ c2 : Array Value, c2 = (c1.toList.take (m * 7) ++ ([.int .i64 0, .int .i64 0, .int .i64 0, .string ⟨#[]⟩, .int .i64 0, .int .i64 0, .string ⟨#[]⟩] : List Value) ++ c1.toList.drop (m * 7 + 7)).toArray := ⟨_, rfl⟩
  have hcc : ∀ ty c', (Builtin.clear_ #[24] ty #[.slice (some ⟨g, m * 7, none⟩) 1 c']).run Try.prog W1 = .ok (.tuple #[]) (W1.setRow g c2) := fun ty c' => by
    rw [hc2]
    exact run_clear_row W1 ty g (m * 7) c' c1 40 hg1 (by rw [hc1s]; omega)
  have hc2s : c2.size = cap * 7 := by rw [hc2]; have hl1 : c1.toList.length = cap * 7 := by simp [hc1s]
                                      simp only [List.size_toArray, List.length_append, List.length_take, List.length_drop, hl1, List.length_cons, List.length_nil]; omega
  have ht2 : c2.toList.take (m * 7) = cellsR (L.take i ++ L.drop (i + 1)) := by
    have hl1 : c1.toList.length = cap * 7 := by simp [hc1s]
    rw [hc2, ← ht1]
    simp only [List.toList_toArray]
    rw [List.append_assoc, List.take_append_of_le_length (by rw [List.length_take, hl1]; omega), List.take_of_length_le (by rw [List.length_take, hl1]; omega)]
  have HF : Hid ((W1.setRow g c2).ownsRow base 40 7 (.slice (some ⟨g, 0, none⟩) m cap) m (cellsR (L.take i ++ L.drop (i + 1)))) := by
    refine ⟨by rw [cellsR_len]; simp; omega, .inr ⟨g, cap, c2, rfl, hbg, setRow_heap W1 g c1 _ 40 _ hg1, by omega, hcap, hc2s, ht2⟩⟩
  have HG : Hid (w.grownBy (W1.setRow g c2) (some g)) := by
    have a1 := grown_setRow w.drew g c1
    have a2 := grown_setRow W1 g c2
    rw [hW1] at a2 ⊢
    exact (World.grownBy.trans ⟨a1.os, a1.tape, a1.output, a1.size, a1.block⟩ a2)
  have hz2' : ¬ ((i : Int) = (i : Int) + 1) := by omega
  have hb1 : (0 : Int) ≤ (i : Int) + 1 := by omega
  have hb3 : (i : Int) ≤ (i : Int) + 1 := by omega
  have hb4 : (i : Int) + 1 ≤ (m : Int) + 1 := by omega
  have hb5 : (m : Int) + 1 ≤ (cap : Int) := by omega
  have hb6 : (i : Int) ≤ (cap : Int) := by omega
  have hb7 : (m : Int) ≤ (m : Int) + 1 := by omega
  have htn : ((i : Int) + 1).toNat = i + 1 := by omega
  have htm : ((m : Int) + 1).toNat = m + 1 := by omega
  have hq1 : ¬ (cap = m) := by omega
  have hq2 : m + 1 - (m + 1) = 0 := by omega
  subst hi
  clear hc1 hc2 ht1 ht2 hc2s hc1s hg1 hg hlen hsrc htk hcs hown hcl1 hW1
  go_enter Try.func39, Try.ntmps39
  go_wp2_with fail
  go_region_law (refine step_app_run rfl (.tmp 22) (.tmp 25) 24 24 rfl (.slice (some ⟨g, 0, none⟩) i cap) (.slice (some ⟨g, (i + 1) * 7, none⟩) 0 (cap - (i + 1))) (by simp [Act.eval, Act.put]) (by simp [Act.eval, Act.put]) (hap _ _ _) ?_)
  clear hap
  go_wp2
  go_ret
  exact ⟨⟨rfl, HF.out⟩, HG.out⟩
set_option maxRecDepth 100000 in
set_option maxHeartbeats 4000000 in
theorem c_delfull (base g cap m i : Nat) (L : List RW) (w : World) (hown : w.ownsRow base 40 7 (.slice (some ⟨g, 0, none⟩) (m + 1) cap) (m + 1) (cellsR L)) (hi : i = m) (hn : m ≤ 4096) (hx : cap = m + 1) :
    Calls Try.prog 39 #[.slice (some ⟨g, 0, none⟩) (m + 1) cap, .int .i64 i, .int .i64 ((i : Int) + 1)] w fun e w' => (e = .returned (.slice (some ⟨g, 0, none⟩) m cap) ∧ w'.ownsRow base 40 7 (.slice (some ⟨g, 0, none⟩) m cap) m (cellsR (L.take i ++ L.drop (i + 1)))) ∧ w.grownBy w' (some g) := by
  have hLl : L.length = m + 1 := by have := hown.1; rw [cellsR_len] at this; omega
  obtain ⟨i0, hi0, hz0, hz1, hz2⟩ := info_parts infoR
  obtain ⟨cur, hg, hcap, hcs, htk, hbg, hmc⟩ : ∃ cur, w.heap[g]? = some (.cells cur 40 (0, 0)) ∧ cap ≤ maxLen ∧ cur.size = cap * 7 ∧ cur.toList.take ((m + 1) * 7) = cellsR L ∧ base ≤ g ∧ m + 1 ≤ cap := by
    rcases hown.2 with ⟨h, h0⟩ | ⟨g', cap', cur, h, hb, hg, h1, h2, h3, h4⟩
    · cases h
    · simp only [Value.slice.injEq, Option.some.injEq, Addr.mk.injEq] at h
      obtain ⟨⟨rfl, _⟩, _, rfl⟩ := h
      exact ⟨cur, hg, h2, h3, h4, hb, h1⟩
  have hsrc := srcOwn hown (i + 1)
  have hlen : ((cellsR L).drop ((i + 1) * 7)).length = (m - i) * 7 := by rw [List.length_drop, cellsR_len, hLl]; omega
  have him : i ≤ m := by omega
  obtain ⟨c1, hc1⟩ : ∃ c1 : Array Value, c1 = (cur.toList.take (i * 7) ++ (cellsR L).drop ((i + 1) * 7) ++ cur.toList.drop (i * 7 + ((cellsR L).drop ((i + 1) * 7)).length)).toArray := ⟨_, rfl⟩
  have hcl1 : cur.toList.length = cap * 7 := by simp [hcs]
  have hc1s : c1.size = cap * 7 := by rw [hc1]; simp only [List.size_toArray, List.length_append, List.length_take, List.length_drop, hlen, hcl1]; omega
  have ht1 : c1.toList.take (m * 7) = cellsR (L.take i ++ L.drop (i + 1)) := by
    have e1 : cur.toList.take (i * 7) = (cellsR L).take (i * 7) := by rw [← htk, List.take_take]; congr 1; omega
    rw [hc1]
    simp only [List.toList_toArray]
    rw [List.take_append_of_le_length (by simp only [List.length_append, List.length_take, hlen, hcl1]; omega), List.take_of_length_le (by simp only [List.length_append, List.length_take, hlen, hcl1]; omega), e1, cellsR_append, cellsR_take L i (by omega), cellsR_drop L (i + 1) (by omega)]
  obtain ⟨W1, hW1⟩ : ∃ W1, W1 = w.drew.setRow g c1 := ⟨_, rfl⟩
  have hg1 : W1.heap[g]? = some (.cells c1 40 (0, 0)) := by rw [hW1]; exact setRow_heap w.drew g cur _ 40 _ hg
  have hap : ∀ ty ad c', (Builtin.append_ #[24, 24] ty #[.slice (some ⟨g, 0, none⟩) i cap, .slice (some ad) 0 c']).run Try.prog w.drew = .ok (.slice (some ⟨g, 0, none⟩) m cap) W1 := fun ty ad c' => by
    have h := run_append_room (P := Try.prog) w.drew 24 ty 40 i0 Try.underlying24 hi0 g i cap cur hg ad 0 c' ((cellsR L).drop ((i + 1) * 7)) (by rw [hlen, hz1]; omega) (fun j u hj => by have h0 : ((cellsR L).drop ((i + 1) * 7)) = [] := List.eq_nil_of_length_eq_zero (by rw [hlen]; omega); rw [h0] at hj; cases hj) (fun v hv => oneR L v (List.mem_of_mem_drop hv)) (by omega) (by rw [hz1, hlen, hcs]; omega)
    rw [hz1] at h
    rw [hW1, hc1]
    rw [show i + 0 = m by omega] at h
    exact h
  obtain ⟨c2, hc2⟩ : ∃ c2 : Array Value, c2 = (c1.toList.take (m * 7) ++ ([.int .i64 0, .int .i64 0, .int .i64 0, .string ⟨#[]⟩, .int .i64 0, .int .i64 0, .string ⟨#[]⟩] : List Value) ++ c1.toList.drop (m * 7 + 7)).toArray := ⟨_, rfl⟩
  have hcc : ∀ ty c', (Builtin.clear_ #[24] ty #[.slice (some ⟨g, m * 7, none⟩) 1 c']).run Try.prog W1 = .ok (.tuple #[]) (W1.setRow g c2) := fun ty c' => by
    rw [hc2]
    exact run_clear_row W1 ty g (m * 7) c' c1 40 hg1 (by rw [hc1s]; omega)
  have hc2s : c2.size = cap * 7 := by rw [hc2]; have hl1 : c1.toList.length = cap * 7 := by simp [hc1s]
                                      simp only [List.size_toArray, List.length_append, List.length_take, List.length_drop, hl1, List.length_cons, List.length_nil]; omega
  have ht2 : c2.toList.take (m * 7) = cellsR (L.take i ++ L.drop (i + 1)) := by
    have hl1 : c1.toList.length = cap * 7 := by simp [hc1s]
    rw [hc2, ← ht1]
    simp only [List.toList_toArray]
    rw [List.append_assoc, List.take_append_of_le_length (by rw [List.length_take, hl1]; omega), List.take_of_length_le (by rw [List.length_take, hl1]; omega)]
  have HF : Hid ((W1.setRow g c2).ownsRow base 40 7 (.slice (some ⟨g, 0, none⟩) m cap) m (cellsR (L.take i ++ L.drop (i + 1)))) := by
    refine ⟨by rw [cellsR_len]; simp; omega, .inr ⟨g, cap, c2, rfl, hbg, setRow_heap W1 g c1 _ 40 _ hg1, by omega, hcap, hc2s, ht2⟩⟩
  have HG : Hid (w.grownBy (W1.setRow g c2) (some g)) := by
    have a1 := grown_setRow w.drew g c1
    have a2 := grown_setRow W1 g c2
    rw [hW1] at a2 ⊢
    exact (World.grownBy.trans ⟨a1.os, a1.tape, a1.output, a1.size, a1.block⟩ a2)
  have hz2' : ¬ ((i : Int) = (i : Int) + 1) := by omega
  have hb1 : (0 : Int) ≤ (i : Int) + 1 := by omega
  have hb3 : (i : Int) ≤ (i : Int) + 1 := by omega
  have hb4 : (i : Int) + 1 ≤ (m : Int) + 1 := by omega
  have hb5 : (m : Int) + 1 ≤ (cap : Int) := by omega
  have hb6 : (i : Int) ≤ (cap : Int) := by omega
  have hb7 : (m : Int) ≤ (m : Int) + 1 := by omega
  have htn : ((i : Int) + 1).toNat = i + 1 := by omega
  have htm : ((m : Int) + 1).toNat = m + 1 := by omega
  have hq1 : ¬ (cap = m) := by omega
  have hq2 : m + 1 - (m + 1) = 0 := by omega
  subst hi; subst hx
  clear hc1 hc2 ht1 ht2 hc2s hc1s hg1 hg hlen hsrc htk hcs hown hcl1 hW1
  go_enter Try.func39, Try.ntmps39
  go_wp2_with fail
  go_region_law (refine step_app_run rfl (.tmp 22) (.tmp 25) 24 24 rfl (.slice (some ⟨g, 0, none⟩) i (i + 1)) (.slice (some ⟨g, 0, none⟩) 0 0) (by simp [Act.eval, Act.put]) (by simp [Act.eval, Act.put]) (hap _ _ _) ?_)
  clear hap
  go_wp2
  go_ret
  exact ⟨⟨rfl, HF.out⟩, HG.out⟩
theorem c_delR (base g cap m i : Nat) (L : List RW) (w : World) (hown : w.ownsRow base 40 7 (.slice (some ⟨g, 0, none⟩) (m + 1) cap) (m + 1) (cellsR L)) (hi : i ≤ m) (hn : m ≤ 4096) :
    Calls Try.prog 39 #[.slice (some ⟨g, 0, none⟩) (m + 1) cap, .int .i64 i, .int .i64 ((i : Int) + 1)] w fun e w' => (e = .returned (.slice (some ⟨g, 0, none⟩) m cap) ∧ w'.ownsRow base 40 7 (.slice (some ⟨g, 0, none⟩) m cap) m (cellsR (L.take i ++ L.drop (i + 1)))) ∧ w.grownBy w' (some g) := by
  rcases Nat.lt_or_ge i m with h | h
  · exact c_del base g cap m i L w hown h hn
  · by_cases hx : cap = m + 1
    · exact c_delfull base g cap m i L w hown (by omega) hn hx
    · exact c_dellast base g cap m i L w hown (by omega) hn hx

end Go.Proofs.Ytiobobocjokgiaa
