/-
  slices.Insert at rows.
-/
import Derived.Test.YtiobobocjokgiaaRa
import Derived.Lib.Overlaps
import Derived.Lib.AppendZerosOnto
import Derived.Laws.CopyRow
import Derived.Laws.NewBlocks
import Derived.Lib.SliceRun
import Derived.Deep.RegionLaw
namespace Go.Proofs.Ytiobobocjokgiaa
open Go Go.RowKit
attribute [local go_sem ↓] Go.wp_at_zero Go.wp_at_succ

set_option linter.unusedVariables false
set_option linter.unusedSimpArgs false
theorem run_copy_rowN {P : Program} (w : World) (dT sT ty elem : TypeId) (s : Nat) (g o dLen dCap : Nat) (a : Addr) (sLen sCap : Nat) (cur : Array Value) (t : TypeId) (cs : List Value)
    (hu : P.underlying dT = some (.slice elem)) (hs : (P.info? elem).map (·.size) = some s)
    (hg : w.heap[g]? = some (.cells cur t (0, 0))) (hn : cs.length = Nat.min sLen dLen * s)
    (hsrc : ∀ j v, cs[j]? = some v → w.cell? (a.add j) = some v) (hfit : o + cs.length ≤ cur.size) (h1 : ∀ v ∈ cs, v.oneCell' = true) :
    (Builtin.copy_ #[dT, sT] ty #[.slice (some ⟨g, o, none⟩) dLen dCap, .slice (some a) sLen sCap]).run P w =
      .ok (goInt (Nat.min sLen dLen)) (w.setRow g (cur.toList.take o ++ cs ++ cur.toList.drop (o + cs.length)).toArray) := by
  have hl := run_loadCells_list (P := P) w a cs hsrc
  have hst := run_storeCells_at P g o t cs 0 cur w hg (by simpa using hfit) h1
  cases hq : P.info? elem with
  | none => simp [hq] at hs
  | some i =>
    have hi : i.size = s := by simpa [hq] using hs
    simp [Builtin.copy_, run_underlying hu, Builtin.lenOf, Builtin.firstCells, sizeOf, typeInfo, hq, hi, ← hn, hl, hst]
theorem oneR (L : List RW) : ∀ u ∈ cellsR L, u.oneCell' = true := by
  intro u hu
  obtain ⟨r, _, hr⟩ := List.mem_flatMap.1 hu
  simp only [cR, List.mem_cons, List.not_mem_nil, or_false] at hr
  rcases hr with h | h | h | h | h | h | h <;> subst h <;> rfl
theorem cellsR_append (us vs : List RW) : cellsR (us ++ vs) = cellsR us ++ cellsR vs := by unfold cellsR; rw [List.flatMap_append]
theorem cellsR_one (x : RW) : cellsR [x] = cR x := by simp [cellsR]
theorem cellsR_take (L : List RW) (i : Nat) (h : i ≤ L.length) : (cellsR L).take (i * 7) = cellsR (L.take i) := by
  have e : cellsR L = cellsR (L.take i) ++ cellsR (L.drop i) := by rw [← cellsR_append, List.take_append_drop]
  rw [e, List.take_append_of_le_length (by rw [cellsR_len]; simp; omega), List.take_of_length_le (by rw [cellsR_len]; simp; omega)]
theorem cellsR_drop (L : List RW) (i : Nat) (h : i ≤ L.length) : (cellsR L).drop (i * 7) = cellsR (L.drop i) := by
  have e : cellsR L = cellsR (L.take i) ++ cellsR (L.drop i) := by rw [← cellsR_append, List.take_append_drop]
  rw [e, List.drop_append_of_le_length (by rw [cellsR_len]; simp; omega), List.drop_eq_nil_of_le (by rw [cellsR_len]; simp; omega)]
  rfl
theorem shiftL (l C X : List Value) (a b : Nat) (hC : l.take b = C) (hab : a ≤ b) (hX : X.length = 7) (hl : b + 7 ≤ l.length) :
    ((l.take (a + 7) ++ C.drop a ++ l.drop (b + 7)).take a ++ X ++ (l.take (a + 7) ++ C.drop a ++ l.drop (b + 7)).drop (a + 7)).take (b + 7) = C.take a ++ X ++ C.drop a := by
  have hCl : C.length = b := by rw [← hC]; simp; omega
  have e1 : (l.take (a + 7) ++ C.drop a ++ l.drop (b + 7)).take a = C.take a := by
    rw [List.append_assoc, List.take_append_of_le_length (by simp; omega), List.take_take, ← hC, List.take_take]
    congr 1; omega
  have e2 : (l.take (a + 7) ++ C.drop a ++ l.drop (b + 7)).drop (a + 7) = C.drop a ++ l.drop (b + 7) := by
    rw [List.append_assoc, List.drop_append_of_le_length (by simp; omega), List.drop_eq_nil_of_le (by simp; omega)]
    rfl
  rw [e1, e2, ← List.append_assoc, List.take_append_of_le_length (by simp; omega), List.take_of_length_le (by simp; omega)]
theorem growL (l C X : List Value) (a b : Nat) (hC : l.take a = C.take a) (hCl : C.length = b) (hab : a ≤ b) (hX : X.length = 7) (hl : b + 7 ≤ l.length) :
    ((l.take a ++ X ++ l.drop (a + 7)).take (a + 7) ++ C.drop a ++ (l.take a ++ X ++ l.drop (a + 7)).drop (a + 7 + (C.drop a).length)).take (b + 7) = C.take a ++ X ++ C.drop a := by
  have e1 : (l.take a ++ X ++ l.drop (a + 7)).take (a + 7) = C.take a ++ X := by
    rw [hC, List.take_append_of_le_length (by simp; omega), List.take_of_length_le (by simp; omega)]
  rw [e1, List.take_append_of_le_length (by simp; omega), List.take_of_length_le (by simp; omega)]
theorem srcOwn {w : World} {base g n cap : Nat} {L : List RW} (h : w.ownsRow base 40 7 (.slice (some ⟨g, 0, none⟩) n cap) n (cellsR L)) (i : Nat) : ∀ j v, ((cellsR L).drop (i * 7))[j]? = some v → w.cell? ((⟨g, i * 7, none⟩ : Addr).add j) = some v := by
  intro j v hj
  rw [List.getElem?_drop] at hj
  have hlt := (List.getElem?_eq_some_iff.1 hj).1
  have := h.cellAt (i * 7 + j) (by have := h.1; omega)
  rw [addr_add, this, hj]
theorem boxSrc {w : World} {vb : Nat} {x : RW} (h : w.heap[vb]? = some (.cells (cR x).toArray 40 (0, 0))) : ∀ j v, (cR x)[j]? = some v → w.cell? ((⟨vb, 0, none⟩ : Addr).add j) = some v := by
  intro j v hj
  rw [addr_add, Nat.zero_add]
  simp [World.cell?, h, hj]
theorem wpList_copy_run {P : Program} (w : World) {ops : Array Oper} {rest : List Oper} {o : Oper} {a : Act} {Q : Exit → Act → World → Prop} (hgd : o.guard = none) (d s : Operand) (t t' : TypeId)
    (ho : o.op = .call { callee := .builtin .copy, args := #[d, s], argTypes := #[t, t'] }) (v u : Value) (hd : a.eval d = v) (hs : a.eval s = u) {v' : Value} {w' : World}
    (hr : (Builtin.copy_ #[t, t'] o.type #[v, u]).run P w = .ok v' w') (h : wpList P ops Q rest (a.put o.dst v') w') : wpList P ops Q (o :: rest) a w := by
  refine wpList_plain hgd fun _ hK => ?_
  unfold Oper.wp execOp
  simp only [ho, resolve, invoke, builtin, Sem.run_bind, Sem.run_pure, Result.andThen_ok, List.map_toArray, List.map_cons, List.map_nil, hd, hs, hr]
  exact hK _ _ h
theorem step_copy_run {P : Program} {ops : Array Oper} {o : Oper} {a : Act} {w : World} {K : Act → World → Prop} {Q : Exit → Act → World → Prop} {E : Prop}
    (hg : o.guard = none) (d x : Operand) (dT sT : TypeId) (hop : o.op = Op.call { callee := Callee.builtin Builtin.copy, args := #[d, x], argTypes := #[dT, sT] })
    (v u : Value) (hd : a.eval d = v) (hx : a.eval x = u) {v' : Value} {w' : World} (hr : (Builtin.copy_ #[dT, sT] o.type #[v, u]).run P w = .ok v' w') (hK : K (a.put o.dst v') w') :
    if Region.wanted o (yielded ops a.tmps) = true then Oper.wp P o a w K Q else E := by
  have hw : Region.wanted o (yielded ops a.tmps) = true := by simp [Region.wanted, hg]
  rw [if_pos hw]
  unfold Oper.wp
  simp [execOp, hop, resolve, invoke, builtin, hd, hx, hr, Result.andThen]
  exact hK
theorem szR7 : (Try.prog.info? 40).map (·.size) = some 7 := by kernel_rfl
theorem shape_of {w : World} {g : Nat} {c : Array Value} {t : TypeId} {fr : Nat × Nat} (h : w.heap[g]? = some (.cells c t fr)) : w.shape? g = some (t, c.size) := by simp [World.shape?, h]
set_option maxRecDepth 100000 in
set_option maxHeartbeats 4000000 in
theorem c_insE (base : Nat) (v : Value) (n vb : Nat) (L : List RW) (x : RW) (w : World) (hown : w.ownsRow base 40 7 v n (cellsR L)) (hv : w.heap[vb]? = some (.cells (cR x).toArray 40 (0, 0))) (hn : n ≤ 4096) (hb : base ≤ w.heap.size) :
    Calls Try.prog 40 #[v, .int .i64 n, .slice (some ⟨vb, 0, none⟩) 1 1] w fun e w' => (∃ a' c', e = .returned (.slice a' (n + 1) c') ∧ w'.ownsRow base 40 7 (.slice a' (n + 1) c') (n + 1) (cellsR (L ++ [x])) ∧ (∀ g, ob a' = some g → v.ownBlock = some g ∨ g = w.heap.size)) ∧ w.grownBy w' v.ownBlock := by
  obtain ⟨i0, hi, hz0, hz1, hz2⟩ := info_parts infoR
  have HO : Hid (w.ownsRow base 40 7 v n (cellsR L)) := hown
  have hV := boxSrc hv
  obtain ⟨a, c, rfl, _⟩ := own_slc hown
  have hnl : n ≤ c := by
    rcases hown.2 with ⟨h, h0⟩ | ⟨g, cap, cur, h, _, _, h1, _⟩
    · omega
    · simp only [Value.slice.injEq] at h; omega
  clear hv hown
  have HL : Hid (∀ (a2 : Option Addr) (c2 : Nat) (w5 : World), w5.ownsRow base 40 7 (.slice a2 (n + 1) c2) (n + 1) (cellsR L ++ cR x) → w5.ownsRow base 40 7 (.slice a2 (n + 1) c2) (n + 1) (cellsR (L ++ [x]))) := fun a2 c2 w5 h => by rw [cellsR_append, cellsR_one]; exact h
  by_cases hcn : c = n
  · subst hcn
    go_enter Try.func40, Try.ntmps40
    go_wp2_with (at_builtin; refine app_any _ rfl (.tmp 23) (.tmp 24) 24 rfl base 40 i0 (.agg #[.int .i64 0, .int .i64 0, .int .i64 0, .string ⟨#[]⟩, .int .i64 0, .int .i64 0, .string ⟨#[]⟩]) 7 72 Try.underlying24 hi hz0 hz1 hz2 rfl (by omega) (.slice a c c) c (cellsR L) rfl HO.out (some ⟨vb, 0, none⟩) 1 1 (cR x) rfl (fun ex => by cases ex) rfl (fun ad ex => by cases ex; exact hV) (fun u hu => oneR [x] u (by rw [cellsR_one]; exact hu)) (by unfold maxLen; omega) (by omega) hb ?_; intro a2 c2 w5 ho5 hg5 hx5)
    go_ret
    exact ⟨⟨a2, c2, rfl, HL.out _ _ _ ho5, hx5⟩, hg5⟩
  · go_enter Try.func40, Try.ntmps40
    go_wp2_with (at_builtin; refine app_any _ rfl (.tmp 23) (.tmp 24) 24 rfl base 40 i0 (.agg #[.int .i64 0, .int .i64 0, .int .i64 0, .string ⟨#[]⟩, .int .i64 0, .int .i64 0, .string ⟨#[]⟩]) 7 72 Try.underlying24 hi hz0 hz1 hz2 rfl (by omega) (.slice a n c) n (cellsR L) rfl HO.out (some ⟨vb, 0, none⟩) 1 1 (cR x) rfl (fun ex => by cases ex) rfl (fun ad ex => by cases ex; exact hV) (fun u hu => oneR [x] u (by rw [cellsR_one]; exact hu)) (by unfold maxLen; omega) (by omega) hb ?_; intro a2 c2 w5 ho5 hg5 hx5)
    go_ret
    exact ⟨⟨a2, c2, rfl, HL.out _ _ _ ho5, hx5⟩, hg5⟩
theorem cell_same {w w' : World} {g o : Nat} (h : w'.heap[g]? = w.heap[g]?) : w'.cell? ⟨g, o, none⟩ = w.cell? ⟨g, o, none⟩ := by simp [World.cell?, h]
theorem heap_setRow (w : World) (g g' : Nat) (c : Array Value) (h : g' ≠ g) : (w.setRow g c).heap[g']? = w.heap[g']? := by
  unfold World.setRow
  simp only [Array.getElem?_modify]
  rw [if_neg (Ne.symm h)]
theorem grown_setRow (w : World) (g : Nat) (c : Array Value) : w.grownBy (w.setRow g c) (some g) := by
  refine ⟨rfl, rfl, rfl, by unfold World.setRow; simp, fun k hk hne => heap_setRow w g k c (fun e => hne (by rw [e]))⟩
set_option maxRecDepth 100000 in
set_option maxHeartbeats 4000000 in
theorem c_insS (base g cap n i vb : Nat) (L : List RW) (x : RW) (w : World) (hown : w.ownsRow base 40 7 (.slice (some ⟨g, 0, none⟩) n cap) n (cellsR L)) (hv : w.heap[vb]? = some (.cells (cR x).toArray 40 (0, 0))) (hne : vb ≠ g) (hi : i < n) (hn : n ≤ 4096) (hroom : n + 1 ≤ cap) :
    Calls Try.prog 40 #[.slice (some ⟨g, 0, none⟩) n cap, .int .i64 i, .slice (some ⟨vb, 0, none⟩) 1 1] w fun e w' => (∃ a' c', e = .returned (.slice a' (n + 1) c') ∧ w'.ownsRow base 40 7 (.slice a' (n + 1) c') (n + 1) (cellsR (L.take i ++ x :: L.drop i)) ∧ (∀ q, ob a' = some q → q = g ∨ q = w.heap.size)) ∧ w.grownBy w' (some g) := by
  have hLl : L.length = n := by have := hown.1; rw [cellsR_len] at this; omega
  obtain ⟨cur, hg, hcap, hcs, htk, hbg⟩ : ∃ cur, w.heap[g]? = some (.cells cur 40 (0, 0)) ∧ cap ≤ maxLen ∧ cur.size = cap * 7 ∧ cur.toList.take (n * 7) = cellsR L ∧ base ≤ g := by
    rcases hown.2 with ⟨h, h0⟩ | ⟨g', cap', cur, h, hb, hg, h1, h2, h3, h4⟩
    · cases h
    · simp only [Value.slice.injEq, Option.some.injEq, Addr.mk.injEq] at h
      obtain ⟨⟨rfl, _⟩, _, rfl⟩ := h
      exact ⟨cur, hg, h2, h3, h4, hb⟩
  have hsrc := srcOwn hown i
  have hlen : ((cellsR L).drop (i * 7)).length = (n - i) * 7 := by rw [List.length_drop, cellsR_len, hLl]; omega
  obtain ⟨c1, hc1⟩ : ∃ c1 : Array Value, c1 = (cur.toList.take ((i + 1) * 7) ++ (cellsR L).drop (i * 7) ++ cur.toList.drop ((i + 1) * 7 + ((cellsR L).drop (i * 7)).length)).toArray := ⟨_, rfl⟩
  have hcp1 : ∀ ty dc sc, (Builtin.copy_ #[24, 24] ty #[.slice (some ⟨g, (i + 1) * 7, none⟩) (n - i) dc, .slice (some ⟨g, i * 7, none⟩) (n + 1 - i) sc]).run Try.prog w.drew = .ok (goInt (Nat.min (n + 1 - i) (n - i))) (w.drew.setRow g c1) := fun ty dc sc => by
    rw [hc1]
    exact run_copy_rowN (P := Try.prog) w.drew 24 24 ty 40 7 g ((i + 1) * 7) (n - i) dc ⟨g, i * 7, none⟩ (n + 1 - i) sc cur 40 _ Try.underlying24 szR7 hg (by rw [hlen]; simp only [Nat.min_def]; split <;> omega) hsrc (by rw [hlen, hcs]; omega) (fun v hv => oneR L v (List.mem_of_mem_drop hv))
  obtain ⟨W1, hW1⟩ : ∃ W1, W1 = w.drew.setRow g c1 := ⟨_, rfl⟩
  have hg1 : W1.heap[g]? = some (.cells c1 40 (0, 0)) := by rw [hW1]; exact setRow_heap w.drew g cur _ 40 _ hg
  have hv1 : W1.heap[vb]? = some (.cells (cR x).toArray 40 (0, 0)) := by rw [hW1, heap_setRow _ _ _ _ hne]; exact hv
  have hc1s : c1.size = cap * 7 := by rw [hc1]; simp [hlen, hcs]; omega
  obtain ⟨c2, hc2⟩ : ∃ c2 : Array Value, c2 = (c1.toList.take (i * 7) ++ cR x ++ c1.toList.drop (i * 7 + (cR x).length)).toArray := ⟨_, rfl⟩
  have hcp2 : ∀ ty dc, (Builtin.copy_ #[24, 24] ty #[.slice (some ⟨g, i * 7, none⟩) (n + 1 - i) dc, .slice (some ⟨vb, 0, none⟩) 1 1]).run Try.prog W1 = .ok (goInt (Nat.min 1 (n + 1 - i))) (W1.setRow g c2) := fun ty dc => by
    rw [hc2]
    exact run_copy_rowN (P := Try.prog) W1 24 24 ty 40 7 g (i * 7) (n + 1 - i) dc ⟨vb, 0, none⟩ 1 1 c1 40 (cR x) Try.underlying24 szR7 hg1 (by simp only [Nat.min_def]; split <;> first | rfl | omega) (boxSrc hv1) (by rw [hc1s]; simp only [cR, List.length_cons, List.length_nil]; omega) (fun u hu => oneR [x] u (by rw [cellsR_one]; exact hu))
  have hfin : c2.toList.take ((n + 1) * 7) = cellsR (L.take i ++ x :: L.drop i) := by
    have := shiftL cur.toList (cellsR L) (cR x) (i * 7) (n * 7) htk (by omega) rfl (by simp [hcs]; omega)
    rw [hc2, hc1]
    simp only [List.toList_toArray, hlen]
    rw [show (i + 1) * 7 + (n - i) * 7 = n * 7 + 7 by omega, show (i + 1) * 7 = i * 7 + 7 by omega, show (cR x).length = 7 from rfl, show (n + 1) * 7 = n * 7 + 7 by omega, this, cellsR_append, cellsR_take L i (by omega), cellsR_drop L i (by omega), List.append_assoc]
    rfl
  have hc2s : c2.size = cap * 7 := by rw [hc2]; simp [hc1s, cR]; omega
  have HF : Hid ((W1.setRow g c2).ownsRow base 40 7 (.slice (some ⟨g, 0, none⟩) (n + 1) cap) (n + 1) (cellsR (L.take i ++ x :: L.drop i))) := by
    refine ⟨by rw [cellsR_len]; simp; omega, .inr ⟨g, cap, c2, rfl, hbg, setRow_heap W1 g c1 _ 40 _ hg1, hroom, hcap, hc2s, hfin⟩⟩
  have HG : Hid (w.grownBy (W1.setRow g c2) (some g)) := by
    have a1 := grown_setRow w.drew g c1
    have a2 := grown_setRow W1 g c2
    rw [hW1] at a2 ⊢
    exact (World.grownBy.trans ⟨a1.os, a1.tape, a1.output, a1.size, a1.block⟩ a2)
  have hov : ∀ lb cb, (callFunc 52 #[.slice (some ⟨vb, 0, none⟩) 1 1, .slice (some ⟨g, (i + 1) * 7, none⟩) lb cb]).run Try.prog w = .ok (.value (.bool false)) w := fun lb cb => by
    rw [run_callFunc_extern Try.func52 (by kernel_rfl) (by kernel_rfl) (by kernel_rfl) (e := Extern.SlicesOverlaps.overlaps #[24, 24] #[4]) (by kernel_rfl),
      Lib.run_overlaps_apart w 24 4 40 Try.underlying24 7 (fun W => by obtain ⟨i0, hq0, _, hq1, _⟩ := info_parts infoR; simp [sizeOf, typeInfo, hq0, hq1]) ⟨vb, 0, none⟩ ⟨g, (i + 1) * 7, none⟩ 1 1 lb cb hne 40 40 _ _ (shape_of hv) (shape_of hg) (by rw [hcs]; omega) (by simp [World.frozen?, hv]) (by simp [World.frozen?, hv])]
    rfl
  rw [← hW1] at hcp1
  have hz2 : ¬ ((i : Int) = (n : Int)) := by omega
  have hz3 : ¬ ((cap : Int) < (n : Int) + 1) := by omega
  have hb1 : (0 : Int) ≤ (i : Int) + 1 := by omega
  have hb3 : (i : Int) ≤ (n : Int) := by omega
  have hb5 : (n : Int) + 1 ≤ (cap : Int) := by omega
  have htn : ((i : Int) + 1).toNat = i + 1 := by omega
  have hb2 : ¬ (cap = i + 1) := by omega
  have hb4 : ¬ (cap = i) := by omega
  have hb6 : (i : Int) ≤ (n : Int) + 1 := by omega
  clear hW1 hc1 hc2 hfin hc2s hc1s hg1 hv1 hg hv hlen hsrc htk hcs hown
  go_enter Try.func40, Try.ntmps40
  go_wp2_with (simp only [hov])
  clear hov
  go_region
  clear hcp1
  go_wp2
  go_ret
  exact ⟨⟨_, cap, rfl, HF.out, fun q e => .inl (Option.some.inj e).symm⟩, HG.out⟩
set_option maxRecDepth 100000 in
set_option maxHeartbeats 4000000 in
theorem c_insG (base g cap n i vb : Nat) (L : List RW) (x : RW) (w : World) (hown : w.ownsRow base 40 7 (.slice (some ⟨g, 0, none⟩) n cap) n (cellsR L)) (hv : w.heap[vb]? = some (.cells (cR x).toArray 40 (0, 0))) (hi : i < n) (hn : n ≤ 4096) (hroom : cap < n + 1) (hb : base ≤ w.heap.size) :
    Calls Try.prog 40 #[.slice (some ⟨g, 0, none⟩) n cap, .int .i64 i, .slice (some ⟨vb, 0, none⟩) 1 1] w fun e w' => (∃ a' c', e = .returned (.slice a' (n + 1) c') ∧ w'.ownsRow base 40 7 (.slice a' (n + 1) c') (n + 1) (cellsR (L.take i ++ x :: L.drop i)) ∧ (∀ q, ob a' = some q → q = g ∨ q = w.heap.size)) ∧ w.grownBy w' (some g) := by
  have hLl : L.length = n := by have := hown.1; rw [cellsR_len] at this; omega
  obtain ⟨i0, hi0, hz0, hzs, hzb⟩ := info_parts infoR
  obtain ⟨cur, hg, hcap, hcs, htk, hnc⟩ : ∃ cur, w.heap[g]? = some (.cells cur 40 (0, 0)) ∧ cap ≤ maxLen ∧ cur.size = cap * 7 ∧ cur.toList.take (n * 7) = cellsR L ∧ n ≤ cap := by
    rcases hown.2 with ⟨h, h0⟩ | ⟨g', cap', cur, h, hb, hg, h1, h2, h3, h4⟩
    · cases h
    · simp only [Value.slice.injEq, Option.some.injEq, Addr.mk.injEq] at h
      obtain ⟨⟨rfl, _⟩, _, rfl⟩ := h
      exact ⟨cur, hg, h2, h3, h4, h1⟩
  have hgw : g < w.heap.size := (Array.getElem?_eq_some_iff.1 hg).1
  have hvw : vb < w.heap.size := (Array.getElem?_eq_some_iff.1 hv).1
  have hsrc := srcOwn hown i
  have hlen : ((cellsR L).drop (i * 7)).length = (n - i) * 7 := by rw [List.length_drop, cellsR_len, hLl]; omega
  have hold : (Builtin.firstCells i0.size i (.slice (some ⟨g, 0, none⟩) i cap)).run Try.prog w.drew = .ok (((cellsR L).take (i * 7)).toArray) w.drew := by
    rw [hzs]
    exact run_firstCells_some w.drew 7 i ⟨g, 0, none⟩ i cap ((cellsR L).take (i * 7)) (by rw [List.length_take, cellsR_len, hLl]; omega) (fun j v hj => by
      rw [List.getElem?_take] at hj
      split at hj
      · rename_i hlt
        have := srcOwn hown 0 j v (by simpa using hj)
        simpa using this
      · cases hj)
  have hik : i + (n + 1 - i) = n + 1 := by omega
  have hkk : (n : Int) + 1 - (i : Int) = ((n + 1 - i : Nat) : Int) := by omega
  have hrz : ∀ ty, (Builtin.append_ #[24, 3] ty #[.slice (some ⟨g, 0, none⟩) i cap, .int .i64 ((n : Int) + 1 - (i : Int))]).run Try.prog w =
      .ok (.slice (some ⟨w.heap.size, 0, none⟩) (n + 1) (grownCap w (n + 1) cap 40)) (w.drew.alloc (.cells (((cellsR L).take (i * 7)).toArray ++ Builtin.zeroCells (Value.agg #[.int .i64 0, .int .i64 0, .int .i64 0, .string ⟨#[]⟩, .int .i64 0, .int .i64 0, .string ⟨#[]⟩]).cells (n + 1 - i) ++ Builtin.zeroCells (Value.agg #[.int .i64 0, .int .i64 0, .int .i64 0, .string ⟨#[]⟩, .int .i64 0, .int .i64 0, .string ⟨#[]⟩]).cells (grownCap w (n + 1) cap 40 - (n + 1))) 40)) := fun ty => by
    have h := Lib.run_append_grow_zeros (P := Try.prog) w 24 3 ty 40 i0 _ .i64 .i64 Try.underlying24 Try.underlying3 hi0 hz0 (some ⟨g, 0, none⟩) i cap ((cellsR L).take (i * 7)) hold (n + 1 - i) (by omega) (by omega) (by omega) (by omega) (by rw [hzb]; omega) (by rw [hzb, hik]; exact growslice_fits hroom (by omega))
    rw [hik] at h
    rw [hkk]
    exact h
  obtain ⟨G, hG⟩ : ∃ G, G = grownCap w (n + 1) cap 40 := ⟨_, rfl⟩
  have hGn : n + 1 ≤ G := by rw [hG]; exact grownCap_ge w _ _ _
  have hGm : G ≤ maxLen := by rw [hG]; exact grownCap_le_maxLen w (n + 1) cap 40 (by unfold maxLen; omega)
  rw [← hG] at hrz
  obtain ⟨ROW, hROW⟩ : ∃ ROW : Array Value, ROW = ((cellsR L).take (i * 7)).toArray ++ Builtin.zeroCells (Value.agg #[.int .i64 0, .int .i64 0, .int .i64 0, .string ⟨#[]⟩, .int .i64 0, .int .i64 0, .string ⟨#[]⟩]).cells (n + 1 - i) ++ Builtin.zeroCells (Value.agg #[.int .i64 0, .int .i64 0, .int .i64 0, .string ⟨#[]⟩, .int .i64 0, .int .i64 0, .string ⟨#[]⟩]).cells (G - (n + 1)) := ⟨_, rfl⟩
  have hRs : ROW.size = G * 7 := by
    rw [hROW]
    simp [Builtin.zeroCells, Value.cells, cellsR_len, hLl]
    omega
  have hRt : ROW.toList.take (i * 7) = (cellsR L).take (i * 7) := by
    rw [hROW]
    simp only [Array.toList_append, List.append_assoc]
    rw [List.take_append_of_le_length (by simp [cellsR_len, hLl]; omega), List.take_of_length_le (by simp only [List.length_take]; omega)]
  rw [← hROW] at hrz
  obtain ⟨W1, hW1⟩ : ∃ W1, w.drew.alloc (.cells ROW 40) = W1 := ⟨_, rfl⟩
  rw [hW1] at hrz
  have hn1 : W1.heap[w.heap.size]? = some (.cells ROW 40 (0, 0)) := by rw [← hW1]; show (w.heap.push _)[w.heap.size]? = _; simp
  have ho1 : ∀ k, k < w.heap.size → W1.heap[k]? = w.heap[k]? := fun k hk => by rw [← hW1]; show (w.heap.push _)[k]? = _; rw [Array.getElem?_push_lt hk]; simp [hk]
  have hs1 : W1.heap.size = w.heap.size + 1 := by rw [← hW1]; simp
  have hv1 : W1.heap[vb]? = some (.cells (cR x).toArray 40 (0, 0)) := by rw [ho1 vb hvw]; exact hv
  obtain ⟨c1, hc1⟩ : ∃ c1 : Array Value, c1 = (ROW.toList.take (i * 7) ++ cR x ++ ROW.toList.drop (i * 7 + (cR x).length)).toArray := ⟨_, rfl⟩
  obtain ⟨W2, hW2⟩ : ∃ W2, W1.setRow w.heap.size c1 = W2 := ⟨_, rfl⟩
  have hcpA : ∀ ty dc, (Builtin.copy_ #[24, 24] ty #[.slice (some ⟨w.heap.size, i * 7, none⟩) (n + 1 - i) dc, .slice (some ⟨vb, 0, none⟩) 1 1]).run Try.prog W1 = .ok (goInt (Nat.min 1 (n + 1 - i))) W2 := fun ty dc => by
    rw [← hW2, hc1]
    exact run_copy_rowN (P := Try.prog) W1 24 24 ty 40 7 w.heap.size (i * 7) (n + 1 - i) dc ⟨vb, 0, none⟩ 1 1 ROW 40 (cR x) Try.underlying24 szR7 hn1 (by simp only [Nat.min_def]; split <;> first | rfl | omega) (boxSrc hv1) (by rw [hRs]; simp only [cR, List.length_cons, List.length_nil]; omega) (fun u hu => oneR [x] u (by rw [cellsR_one]; exact hu))
  have hc1s : c1.size = G * 7 := by rw [hc1]; simp [hRs, cR]; omega
  have hn2 : W2.heap[w.heap.size]? = some (.cells c1 40 (0, 0)) := by rw [← hW2]; exact setRow_heap W1 w.heap.size ROW _ 40 _ hn1
  have ho2 : ∀ k, k < w.heap.size → W2.heap[k]? = w.heap[k]? := fun k hk => by rw [← hW2, heap_setRow _ _ _ _ (by omega)]; exact ho1 k hk
  obtain ⟨c2, hc2⟩ : ∃ c2 : Array Value, c2 = (c1.toList.take ((i + 1) * 7) ++ (cellsR L).drop (i * 7) ++ c1.toList.drop ((i + 1) * 7 + ((cellsR L).drop (i * 7)).length)).toArray := ⟨_, rfl⟩
  obtain ⟨W3, hW3⟩ : ∃ W3, W2.drew.setRow w.heap.size c2 = W3 := ⟨_, rfl⟩
  have hcpB : ∀ ty dc sc, (Builtin.copy_ #[24, 24] ty #[.slice (some ⟨w.heap.size, (i + 1) * 7, none⟩) (n - i) dc, .slice (some ⟨g, i * 7, none⟩) (n - i) sc]).run Try.prog W2.drew = .ok (goInt (Nat.min (n - i) (n - i))) W3 := fun ty dc sc => by
    rw [← hW3, hc2]
    exact run_copy_rowN (P := Try.prog) W2.drew 24 24 ty 40 7 w.heap.size ((i + 1) * 7) (n - i) dc ⟨g, i * 7, none⟩ (n - i) sc c1 40 _ Try.underlying24 szR7 hn2 (by rw [hlen]; simp only [Nat.min_def]; split <;> omega) (fun j v hj => by
      have := hsrc j v hj
      rw [addr_add] at this ⊢
      rw [cell_same (w := w) (w' := W2.drew) (ho2 g hgw)]
      exact this) (by rw [hlen, hc1s]; omega) (fun v hv => oneR L v (List.mem_of_mem_drop hv))
  have hfin : c2.toList.take ((n + 1) * 7) = cellsR (L.take i ++ x :: L.drop i) := by
    have := growL ROW.toList (cellsR L) (cR x) (i * 7) (n * 7) hRt (by rw [cellsR_len, hLl]) (by omega) rfl (by simp [hRs]; omega)
    rw [hc2, hc1]
    simp only [List.toList_toArray]
    rw [show (i + 1) * 7 = i * 7 + 7 by omega, show (cR x).length = 7 from rfl, show (n + 1) * 7 = n * 7 + 7 by omega, this, cellsR_append, cellsR_take L i (by omega), cellsR_drop L i (by omega), List.append_assoc]
    rfl
  have hc2s : c2.size = G * 7 := by rw [hc2]; simp [hc1s, hlen]; omega
  have HF : Hid (W3.ownsRow base 40 7 (.slice (some ⟨w.heap.size, 0, none⟩) (n + 1) G) (n + 1) (cellsR (L.take i ++ x :: L.drop i))) := by
    refine ⟨by rw [cellsR_len]; simp; omega, .inr ⟨w.heap.size, G, c2, rfl, hb, ?_, hGn, hGm, hc2s, hfin⟩⟩
    rw [← hW3]
    exact setRow_heap W2.drew w.heap.size c1 _ 40 _ hn2
  have HG : Hid (w.grownBy W3 (some g)) := by
    refine ⟨?_, ?_, ?_, ?_, fun k hk _ => ?_⟩
    · rw [← hW3, ← hW2, ← hW1]; rfl
    · rw [← hW3, ← hW2, ← hW1]; rfl
    · rw [← hW3, ← hW2, ← hW1]; rfl
    · rw [← hW3, ← hW2, ← hW1]; simp [World.setRow]
    · rw [← hW3, heap_setRow _ _ _ _ (by omega)]; exact ho2 k hk
  have hz2 : ¬ ((i : Int) = (n : Int)) := by omega
  have hz3 : (cap : Int) < (n : Int) + 1 := by omega
  have hb1 : (0 : Int) ≤ (i : Int) + 1 := by omega
  have hb3 : (i : Int) ≤ (n : Int) := by omega
  have hb5 : (i : Int) ≤ (cap : Int) := by omega
  have htn : ((i : Int) + 1).toNat = i + 1 := by omega
  have hGi : ¬ (G = i) := by omega
  have hGim : ¬ (G = i + 1) := by omega
  have hb4 : ¬ (cap = i) := by omega
  have hb6 : (i : Int) ≤ (n : Int) + 1 := by omega
  clear hW1 hW2 hW3 hc1 hc2 hfin hc2s hc1s hn1 hn2 ho1 ho2 hs1 hv1 hg hv hlen hsrc htk hcs hown hROW hRs hRt hG hold hkk hik hi0 hz0 hzs hzb hGn hGm hgw hvw hcap hnc
  go_enter Try.func40, Try.ntmps40
  go_wp2_with (at_builtin; refine Lib.wpList_append_run _ rfl _ _ _ _ rfl _ _ rfl rfl _ _ (hrz _) ?_)
  clear hrz
  go_region
  clear hcpB hcpA
  go_wp2
  go_ret
  exact ⟨⟨_, G, rfl, HF.out, fun q e => .inr (Option.some.inj e).symm⟩, HG.out⟩
theorem c_ins (base g cap n i vb : Nat) (L : List RW) (x : RW) (w : World) (hown : w.ownsRow base 40 7 (.slice (some ⟨g, 0, none⟩) n cap) n (cellsR L)) (hv : w.heap[vb]? = some (.cells (cR x).toArray 40 (0, 0))) (hne : vb ≠ g) (hi : i ≤ n) (hn : n ≤ 4096) (hb : base ≤ w.heap.size) :
    Calls Try.prog 40 #[.slice (some ⟨g, 0, none⟩) n cap, .int .i64 i, .slice (some ⟨vb, 0, none⟩) 1 1] w fun e w' => (∃ a' c', e = .returned (.slice a' (n + 1) c') ∧ w'.ownsRow base 40 7 (.slice a' (n + 1) c') (n + 1) (cellsR (L.take i ++ x :: L.drop i)) ∧ (∀ q, ob a' = some q → q = g ∨ q = w.heap.size)) ∧ w.grownBy w' (some g) := by
  have hLl : L.length = n := by have := hown.1; rw [cellsR_len] at this; omega
  rcases Nat.lt_or_ge i n with h | h
  · rcases Nat.lt_or_ge cap (n + 1) with h' | h'
    · exact c_insG base g cap n i vb L x w hown hv h hn h' hb
    · exact c_insS base g cap n i vb L x w hown hv hne h hn h'
  · obtain rfl : i = n := by omega
    refine (c_insE base _ i vb L x w hown hv hn hb).mono ?_
    rintro e w' ⟨⟨a', c', rfl, ho, hq⟩, hgr⟩
    refine ⟨⟨a', c', rfl, ?_, fun q e => (hq q e).imp (fun k => (Option.some.inj k).symm) id⟩, hgr⟩
    rw [List.take_of_length_le (by omega), List.drop_eq_nil_of_le (by omega)]
    exact ho

end Go.Proofs.Ytiobobocjokgiaa
