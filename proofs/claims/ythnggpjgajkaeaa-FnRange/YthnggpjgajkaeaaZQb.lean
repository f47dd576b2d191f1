/-
  A tree while it is built.
-/
import Derived.Test.YthnggpjgajkaeaaZQa
import Derived.Lib.Overlaps
import Derived.Lib.AppendZerosOnto
import Derived.Laws.CopyRow
import Derived.Laws.NewBlocks
import Derived.Lib.SliceRun
import Derived.Deep.RegionLaw
import Derived.Laws.AppendOwn
import Derived.Test.YthnggpjgajkaeaaNc
namespace Go.Proofs.Ythnggpjgajkaeaa
open Go Go.RowKit
attribute [local go_sem ↓] Go.wp_at_zero Go.wp_at_succ

set_option linter.unusedVariables false
set_option linter.unusedSimpArgs false
theorem run_copy_rowN {P : Program} (w : World) (dT sT ty elem : TypeId) (s : Nat) (g o dLen dCap : Nat) (a : Addr) (sLen sCap : Nat) (cur : Array Value) (t : TypeId) (cs : List Value)
    (hu : P.underlying dT = some (.slice elem)) (hs : (P.info? elem).map (·.size) = some s)
    (hg : w.heap[g]? = some (.cells cur t (0, 0))) (hn : cs.length = Nat.min sLen dLen * s)
    (hsrc : ∀ j v, cs[j]? = some v → w.cell? (a.add j) = some v) (hfit : o + cs.length ≤ cur.size) (h1 : ∀ v ∈ cs, v.oneCell' = true) :
    (Builtin.copy_ #[dT, sT] ty #[.slice (some ⟨g, o, none⟩) dLen dCap, .slice (some a) sLen sCap]).run P w =
      .ok (goInt (Nat.min sLen dLen)) (w.setRow g (cur.toList.take o ++ cs ++ cur.toList.drop (o + cs.length)).toArray) := by
  have hl := run_loadCells_list (P := P) w a cs hsrc
  have hst := run_storeCells_at P g o t cs 0 cur w hg (by simpa using hfit) h1
  cases hq : P.info? elem with
  | none => simp [hq] at hs
  | some i =>
    have hi : i.size = s := by simpa [hq] using hs
    simp [Builtin.copy_, run_underlying hu, Builtin.lenOf, Builtin.firstCells, sizeOf, typeInfo, hq, hi, ← hn, hl, hst]
def cellsZ (L : List ByteArray) : List Value := L.map Value.string
def cZ (x : ByteArray) : List Value := [.string x]
theorem oneZ (L : List ByteArray) : ∀ u ∈ cellsZ L, u.oneCell' = true := map_one _ (fun _ => rfl) _
theorem cellsZ_len (L : List ByteArray) : (cellsZ L).length = L.length := List.length_map _
theorem cellsZ_append (us vs : List ByteArray) : cellsZ (us ++ vs) = cellsZ us ++ cellsZ vs := List.map_append
theorem cellsZ_one (x : ByteArray) : cellsZ [x] = cZ x := rfl
theorem cellsZ_take (L : List ByteArray) (i : Nat) (_ : i ≤ L.length) : (cellsZ L).take i = cellsZ (L.take i) := by unfold cellsZ; rw [List.map_take]
theorem cellsZ_drop (L : List ByteArray) (i : Nat) (_ : i ≤ L.length) : (cellsZ L).drop i = cellsZ (L.drop i) := by unfold cellsZ; rw [List.map_drop]
theorem shiftL (l C X : List Value) (a b : Nat) (hC : l.take b = C) (hab : a ≤ b) (hX : X.length = 1) (hl : b + 1 ≤ l.length) :
    ((l.take (a + 1) ++ C.drop a ++ l.drop (b + 1)).take a ++ X ++ (l.take (a + 1) ++ C.drop a ++ l.drop (b + 1)).drop (a + 1)).take (b + 1) = C.take a ++ X ++ C.drop a := by
  have hCl : C.length = b := by rw [← hC]; simp; omega
  have e1 : (l.take (a + 1) ++ C.drop a ++ l.drop (b + 1)).take a = C.take a := by
    rw [List.append_assoc, List.take_append_of_le_length (by simp; omega), List.take_take, ← hC, List.take_take]
    congr 1; omega
  have e2 : (l.take (a + 1) ++ C.drop a ++ l.drop (b + 1)).drop (a + 1) = C.drop a ++ l.drop (b + 1) := by
    rw [List.append_assoc, List.drop_append_of_le_length (by simp; omega), List.drop_eq_nil_of_le (by simp; omega)]
    rfl
  rw [e1, e2, ← List.append_assoc, List.take_append_of_le_length (by simp; omega), List.take_of_length_le (by simp; omega)]
theorem growL (l C X : List Value) (a b : Nat) (hC : l.take a = C.take a) (hCl : C.length = b) (hab : a ≤ b) (hX : X.length = 1) (hl : b + 1 ≤ l.length) :
    ((l.take a ++ X ++ l.drop (a + 1)).take (a + 1) ++ C.drop a ++ (l.take a ++ X ++ l.drop (a + 1)).drop (a + 1 + (C.drop a).length)).take (b + 1) = C.take a ++ X ++ C.drop a := by
  have e1 : (l.take a ++ X ++ l.drop (a + 1)).take (a + 1) = C.take a ++ X := by
    rw [hC, List.take_append_of_le_length (by simp; omega), List.take_of_length_le (by simp; omega)]
  rw [e1, List.take_append_of_le_length (by simp; omega), List.take_of_length_le (by simp; omega)]
theorem srcOwn {w : World} {base g n cap : Nat} {L : List ByteArray} (h : w.ownsRow base 9 1 (.slice (some ⟨g, 0, none⟩) n cap) n (cellsZ L)) (i : Nat) : ∀ j v, ((cellsZ L).drop i)[j]? = some v → w.cell? ((⟨g, i, none⟩ : Addr).add j) = some v := by
  intro j v hj
  rw [List.getElem?_drop] at hj
  have hlt := (List.getElem?_eq_some_iff.1 hj).1
  have := h.cellAt (i + j) (by have := h.1; omega)
  rw [addr_add, this, hj]
theorem boxSrc {w : World} {vb : Nat} {x : ByteArray} (h : w.heap[vb]? = some (.cells (cZ x).toArray 9 (0, 0))) : ∀ j v, (cZ x)[j]? = some v → w.cell? ((⟨vb, 0, none⟩ : Addr).add j) = some v := by
  intro j v hj
  rw [addr_add, Nat.zero_add]
  simp [World.cell?, h, hj]
theorem wpList_copy_run {P : Program} (w : World) {ops : Array Oper} {rest : List Oper} {o : Oper} {a : Act} {Q : Exit → Act → World → Prop} (hgd : o.guard = none) (d s : Operand) (t t' : TypeId)
    (ho : o.op = .call { callee := .builtin .copy, args := #[d, s], argTypes := #[t, t'] }) (v u : Value) (hd : a.eval d = v) (hs : a.eval s = u) {v' : Value} {w' : World}
    (hr : (Builtin.copy_ #[t, t'] o.type #[v, u]).run P w = .ok v' w') (h : wpList P ops Q rest (a.put o.dst v') w') : wpList P ops Q (o :: rest) a w := by
  refine wpList_plain hgd fun _ hK => ?_
  unfold Oper.wp execOp
  simp only [ho, resolve, invoke, builtin, Sem.run_bind, Sem.run_pure, Result.andThen_ok, List.map_toArray, List.map_cons, List.map_nil, hd, hs, hr]
  exact hK _ _ h
theorem step_copy_run {P : Program} {ops : Array Oper} {o : Oper} {a : Act} {w : World} {K : Act → World → Prop} {Q : Exit → Act → World → Prop} {E : Prop}
    (hg : o.guard = none) (d x : Operand) (dT sT : TypeId) (hop : o.op = Op.call { callee := Callee.builtin Builtin.copy, args := #[d, x], argTypes := #[dT, sT] })
    (v u : Value) (hd : a.eval d = v) (hx : a.eval x = u) {v' : Value} {w' : World} (hr : (Builtin.copy_ #[dT, sT] o.type #[v, u]).run P w = .ok v' w') (hK : K (a.put o.dst v') w') :
    if Region.wanted o (yielded ops a.tmps) = true then Oper.wp P o a w K Q else E := by
  have hw : Region.wanted o (yielded ops a.tmps) = true := by simp [Region.wanted, hg]
  rw [if_pos hw]
  unfold Oper.wp
  simp [execOp, hop, resolve, invoke, builtin, hd, hx, hr, Result.andThen]
  exact hK
theorem szZ : (Try.prog.info? 9).map (·.size) = some 1 := by kernel_rfl
theorem shape_of {w : World} {g : Nat} {c : Array Value} {t : TypeId} {fr : Nat × Nat} (h : w.heap[g]? = some (.cells c t fr)) : w.shape? g = some (t, c.size) := by simp [World.shape?, h]
set_option maxRecDepth 100000 in
set_option maxHeartbeats 4000000 in
theorem c_insE (base : Nat) (v : Value) (n vb : Nat) (L : List ByteArray) (x : ByteArray) (w : World) (hown : w.ownsRow base 9 1 v n (cellsZ L)) (hv : w.heap[vb]? = some (.cells (cZ x).toArray 9 (0, 0))) (hn : n ≤ 4096) (hb : base ≤ w.heap.size) :
    Calls Try.prog 43 #[v, .int .i64 n, .slice (some ⟨vb, 0, none⟩) 1 1] w fun e w' => (∃ a' c', e = .returned (.slice a' (n + 1) c') ∧ w'.ownsRow base 9 1 (.slice a' (n + 1) c') (n + 1) (cellsZ (L ++ [x])) ∧ (∀ g, ob a' = some g → v.ownBlock = some g ∨ g = w.heap.size)) ∧ w.grownBy w' v.ownBlock := by
  obtain ⟨i0, hi, hz0, hz1, hz2⟩ := info_parts infoS
  have HO : Hid (w.ownsRow base 9 1 v n (cellsZ L)) := hown
  have hV := boxSrc hv
  obtain ⟨a, c, rfl, _⟩ := own_slc hown
  have hnl : n ≤ c := by
    rcases hown.2 with ⟨h, h0⟩ | ⟨g, cap, cur, h, _, _, h1, _⟩
    · omega
    · simp only [Value.slice.injEq] at h; omega
  clear hv hown
  have HL : Hid (∀ (a2 : Option Addr) (c2 : Nat) (w5 : World), w5.ownsRow base 9 1 (.slice a2 (n + 1) c2) (n + 1) (cellsZ L ++ cZ x) → w5.ownsRow base 9 1 (.slice a2 (n + 1) c2) (n + 1) (cellsZ (L ++ [x]))) := fun a2 c2 w5 h => by rw [cellsZ_append, cellsZ_one]; exact h
  by_cases hcn : c = n
  · subst hcn
    go_enter Try.func43, Try.ntmps43
    go_wp2_with (at_builtin; refine app_any _ rfl (.tmp 23) (.tmp 24) 23 rfl base 9 i0 (.string ⟨#[]⟩) 1 16 Try.underlying23 hi hz0 hz1 hz2 rfl (by omega) (.slice a c c) c (cellsZ L) rfl HO.out (some ⟨vb, 0, none⟩) 1 1 (cZ x) rfl (fun ex => by cases ex) rfl (fun ad ex => by cases ex; exact hV) (fun u hu => oneZ [x] u (by rw [cellsZ_one]; exact hu)) (by unfold maxLen; omega) (by omega) hb ?_; intro a2 c2 w5 ho5 hg5 hx5)
    go_ret
    exact ⟨⟨a2, c2, rfl, HL.out _ _ _ ho5, hx5⟩, hg5⟩
  · go_enter Try.func43, Try.ntmps43
    go_wp2_with (at_builtin; refine app_any _ rfl (.tmp 23) (.tmp 24) 23 rfl base 9 i0 (.string ⟨#[]⟩) 1 16 Try.underlying23 hi hz0 hz1 hz2 rfl (by omega) (.slice a n c) n (cellsZ L) rfl HO.out (some ⟨vb, 0, none⟩) 1 1 (cZ x) rfl (fun ex => by cases ex) rfl (fun ad ex => by cases ex; exact hV) (fun u hu => oneZ [x] u (by rw [cellsZ_one]; exact hu)) (by unfold maxLen; omega) (by omega) hb ?_; intro a2 c2 w5 ho5 hg5 hx5)
    go_ret
    exact ⟨⟨a2, c2, rfl, HL.out _ _ _ ho5, hx5⟩, hg5⟩
theorem heap_setRow (w : World) (g g' : Nat) (c : Array Value) (h : g' ≠ g) : (w.setRow g c).heap[g']? = w.heap[g']? := by
  unfold World.setRow
  simp only [Array.getElem?_modify]
  rw [if_neg (Ne.symm h)]
theorem grown_setRow (w : World) (g : Nat) (c : Array Value) : w.grownBy (w.setRow g c) (some g) := by
  refine ⟨rfl, rfl, rfl, by unfold World.setRow; simp, fun k hk hne => heap_setRow w g k c (fun e => hne (by rw [e]))⟩
set_option maxRecDepth 100000 in
set_option maxHeartbeats 4000000 in
theorem c_insS (base g cap n i vb : Nat) (L : List ByteArray) (x : ByteArray) (w : World) (hown : w.ownsRow base 9 1 (.slice (some ⟨g, 0, none⟩) n cap) n (cellsZ L)) (hv : w.heap[vb]? = some (.cells (cZ x).toArray 9 (0, 0))) (hne : vb ≠ g) (hi : i < n) (hn : n ≤ 4096) (hroom : n + 1 ≤ cap) :
    Calls Try.prog 43 #[.slice (some ⟨g, 0, none⟩) n cap, .int .i64 i, .slice (some ⟨vb, 0, none⟩) 1 1] w fun e w' => (∃ a' c', e = .returned (.slice a' (n + 1) c') ∧ w'.ownsRow base 9 1 (.slice a' (n + 1) c') (n + 1) (cellsZ (L.take i ++ x :: L.drop i)) ∧ (∀ q, ob a' = some q → q = g ∨ q = w.heap.size)) ∧ w.grownBy w' (some g) := by
  have hLl : L.length = n := by have := hown.1; rw [cellsZ_len] at this; omega
  obtain ⟨cur, hg, hcap, hcs, htk, hbg⟩ : ∃ cur, w.heap[g]? = some (.cells cur 9 (0, 0)) ∧ cap ≤ maxLen ∧ cur.size = cap ∧ cur.toList.take n = cellsZ L ∧ base ≤ g := by
    rcases hown.2 with ⟨h, h0⟩ | ⟨g', cap', cur, h, hb, hg, h1, h2, h3, h4⟩
    · cases h
    · simp only [Value.slice.injEq, Option.some.injEq, Addr.mk.injEq] at h
      obtain ⟨⟨rfl, _⟩, _, rfl⟩ := h
      exact ⟨cur, hg, h2, by simpa using h3, by simpa using h4, hb⟩
  have hsrc := srcOwn hown i
  have hlen : ((cellsZ L).drop i).length = (n - i) := by rw [List.length_drop, cellsZ_len, hLl]
  obtain ⟨c1, hc1⟩ : ∃ c1 : Array Value, c1 = (cur.toList.take (i + 1) ++ (cellsZ L).drop i ++ cur.toList.drop ((i + 1) + ((cellsZ L).drop i).length)).toArray := ⟨_, rfl⟩
  have hcp1 : ∀ ty dc sc, (Builtin.copy_ #[23, 23] ty #[.slice (some ⟨g, (i + 1), none⟩) (n - i) dc, .slice (some ⟨g, i, none⟩) (n + 1 - i) sc]).run Try.prog w.drew = .ok (goInt (Nat.min (n + 1 - i) (n - i))) (w.drew.setRow g c1) := fun ty dc sc => by
    rw [hc1]
    exact run_copy_rowN (P := Try.prog) w.drew 23 23 ty 9 1 g (i + 1) (n - i) dc ⟨g, i, none⟩ (n + 1 - i) sc cur 9 _ Try.underlying23 szZ hg (by rw [hlen]; simp only [Nat.min_def]; split <;> omega) hsrc (by rw [hlen, hcs]; omega) (fun v hv => oneZ L v (List.mem_of_mem_drop hv))
  obtain ⟨W1, hW1⟩ : ∃ W1, W1 = w.drew.setRow g c1 := ⟨_, rfl⟩
  have hg1 : W1.heap[g]? = some (.cells c1 9 (0, 0)) := by rw [hW1]; exact setRow_heap w.drew g cur _ 9 _ hg
  have hv1 : W1.heap[vb]? = some (.cells (cZ x).toArray 9 (0, 0)) := by rw [hW1, heap_setRow _ _ _ _ hne]; exact hv
  have hc1s : c1.size = cap := by rw [hc1]; simp [hlen, hcs]; omega
  obtain ⟨c2, hc2⟩ : ∃ c2 : Array Value, c2 = (c1.toList.take i ++ cZ x ++ c1.toList.drop (i + (cZ x).length)).toArray := ⟨_, rfl⟩
  have hcp2 : ∀ ty dc, (Builtin.copy_ #[23, 23] ty #[.slice (some ⟨g, i, none⟩) (n + 1 - i) dc, .slice (some ⟨vb, 0, none⟩) 1 1]).run Try.prog W1 = .ok (goInt (Nat.min 1 (n + 1 - i))) (W1.setRow g c2) := fun ty dc => by
    rw [hc2]
    exact run_copy_rowN (P := Try.prog) W1 23 23 ty 9 1 g i (n + 1 - i) dc ⟨vb, 0, none⟩ 1 1 c1 9 (cZ x) Try.underlying23 szZ hg1 (by simp only [Nat.min_def]; split <;> first | rfl | omega) (boxSrc hv1) (by rw [hc1s]; simp only [cZ, List.length_cons, List.length_nil]; omega) (fun u hu => oneZ [x] u (by rw [cellsZ_one]; exact hu))
  have hfin : c2.toList.take (n + 1) = cellsZ (L.take i ++ x :: L.drop i) := by
    have := shiftL cur.toList (cellsZ L) (cZ x) i n htk (by omega) rfl (by simp [hcs]; omega)
    rw [hc2, hc1]
    simp only [List.toList_toArray, hlen]
    rw [show (i + 1) + (n - i) = n + 1 by omega, show (i + 1) = i + 1 by omega, show (cZ x).length = 1 from rfl, show (n + 1) = n + 1 by omega, this, cellsZ_append, cellsZ_take L i (by omega), cellsZ_drop L i (by omega), List.append_assoc]
    rfl
  have hc2s : c2.size = cap := by rw [hc2]; simp [hc1s, cZ]; omega
  have HF : Hid ((W1.setRow g c2).ownsRow base 9 1 (.slice (some ⟨g, 0, none⟩) (n + 1) cap) (n + 1) (cellsZ (L.take i ++ x :: L.drop i))) := by
    refine ⟨by rw [cellsZ_len]; simp; omega, .inr ⟨g, cap, c2, rfl, hbg, setRow_heap W1 g c1 _ 9 _ hg1, hroom, hcap, by simpa using hc2s, by simpa using hfin⟩⟩
  have HG : Hid (w.grownBy (W1.setRow g c2) (some g)) := by
    have a1 := grown_setRow w.drew g c1
    have a2 := grown_setRow W1 g c2
    rw [hW1] at a2 ⊢
    exact (World.grownBy.trans ⟨a1.os, a1.tape, a1.output, a1.size, a1.block⟩ a2)
  have hov : ∀ lb cb, (callFunc 70 #[.slice (some ⟨vb, 0, none⟩) 1 1, .slice (some ⟨g, (i + 1), none⟩) lb cb]).run Try.prog w = .ok (.value (.bool false)) w := fun lb cb => by
    rw [run_callFunc_extern Try.func70 (by kernel_rfl) (by kernel_rfl) (by kernel_rfl) (e := Extern.SlicesOverlaps.overlaps #[23, 23] #[4]) (by kernel_rfl),
      Lib.run_overlaps_apart w 23 4 9 Try.underlying23 1 (fun W => by obtain ⟨i0, hq0, _, hq1, _⟩ := info_parts infoS; simp [sizeOf, typeInfo, hq0, hq1]) ⟨vb, 0, none⟩ ⟨g, (i + 1), none⟩ 1 1 lb cb hne 9 9 _ _ (shape_of hv) (shape_of hg) (by rw [hcs]; omega) (by simp [World.frozen?, hv]) (by simp [World.frozen?, hv])]
    rfl
  rw [← hW1] at hcp1
  have hz2 : ¬ ((i : Int) = (n : Int)) := by omega
  have hz3 : ¬ ((cap : Int) < (n : Int) + 1) := by omega
  have hb1 : (0 : Int) ≤ (i : Int) + 1 := by omega
  have hb3 : (i : Int) ≤ (n : Int) := by omega
  have hb5 : (n : Int) + 1 ≤ (cap : Int) := by omega
  have htn : ((i : Int) + 1).toNat = i + 1 := by omega
  have hb2 : ¬ (cap = i + 1) := by omega
  have hb4 : ¬ (cap = i) := by omega
  have hb6 : (i : Int) ≤ (n : Int) + 1 := by omega
  clear hW1 hc1 hc2 hfin hc2s hc1s hg1 hv1 hg hv hlen hsrc htk hcs hown
  go_enter Try.func43, Try.ntmps43
  go_wp2_with (simp only [hov])
  clear hov
  go_region
  clear hcp1
  go_wp2
  go_ret
  exact ⟨⟨_, cap, rfl, HF.out, fun q e => .inl (Option.some.inj e).symm⟩, HG.out⟩
set_option maxRecDepth 100000 in
set_option maxHeartbeats 4000000 in
theorem c_insG (base g cap n i vb : Nat) (L : List ByteArray) (x : ByteArray) (w : World) (hown : w.ownsRow base 9 1 (.slice (some ⟨g, 0, none⟩) n cap) n (cellsZ L)) (hv : w.heap[vb]? = some (.cells (cZ x).toArray 9 (0, 0))) (hi : i < n) (hn : n ≤ 4096) (hroom : cap < n + 1) (hb : base ≤ w.heap.size) :
    Calls Try.prog 43 #[.slice (some ⟨g, 0, none⟩) n cap, .int .i64 i, .slice (some ⟨vb, 0, none⟩) 1 1] w fun e w' => (∃ a' c', e = .returned (.slice a' (n + 1) c') ∧ w'.ownsRow base 9 1 (.slice a' (n + 1) c') (n + 1) (cellsZ (L.take i ++ x :: L.drop i)) ∧ (∀ q, ob a' = some q → q = g ∨ q = w.heap.size)) ∧ w.grownBy w' (some g) := by
  have hLl : L.length = n := by have := hown.1; rw [cellsZ_len] at this; omega
  obtain ⟨i0, hi0, hz0, hzs, hzb⟩ := info_parts infoS
  obtain ⟨cur, hg, hcap, hcs, htk, hnc⟩ : ∃ cur, w.heap[g]? = some (.cells cur 9 (0, 0)) ∧ cap ≤ maxLen ∧ cur.size = cap ∧ cur.toList.take n = cellsZ L ∧ n ≤ cap := by
    rcases hown.2 with ⟨h, h0⟩ | ⟨g', cap', cur, h, hb, hg, h1, h2, h3, h4⟩
    · cases h
    · simp only [Value.slice.injEq, Option.some.injEq, Addr.mk.injEq] at h
      obtain ⟨⟨rfl, _⟩, _, rfl⟩ := h
      exact ⟨cur, hg, h2, by simpa using h3, by simpa using h4, h1⟩
  have hgw : g < w.heap.size := (Array.getElem?_eq_some_iff.1 hg).1
  have hvw : vb < w.heap.size := (Array.getElem?_eq_some_iff.1 hv).1
  have hsrc := srcOwn hown i
  have hlen : ((cellsZ L).drop i).length = (n - i) := by rw [List.length_drop, cellsZ_len, hLl]
  have hold : (Builtin.firstCells i0.size i (.slice (some ⟨g, 0, none⟩) i cap)).run Try.prog w.drew = .ok (((cellsZ L).take i).toArray) w.drew := by
    rw [hzs]
    exact run_firstCells_some w.drew 1 i ⟨g, 0, none⟩ i cap ((cellsZ L).take i) (by rw [List.length_take, cellsZ_len, hLl]; omega) (fun j v hj => by
      rw [List.getElem?_take] at hj
      split at hj
      · rename_i hlt
        have := srcOwn hown 0 j v (by simpa using hj)
        simpa using this
      · cases hj)
  have hik : i + (n + 1 - i) = n + 1 := by omega
  have hkk : (n : Int) + 1 - (i : Int) = ((n + 1 - i : Nat) : Int) := by omega
  have hrz : ∀ ty, (Builtin.append_ #[23, 3] ty #[.slice (some ⟨g, 0, none⟩) i cap, .int .i64 ((n : Int) + 1 - (i : Int))]).run Try.prog w =
      .ok (.slice (some ⟨w.heap.size, 0, none⟩) (n + 1) (grownCap w (n + 1) cap 9)) (w.drew.alloc (.cells (((cellsZ L).take i).toArray ++ Builtin.zeroCells (Value.string ⟨#[]⟩).cells (n + 1 - i) ++ Builtin.zeroCells (Value.string ⟨#[]⟩).cells (grownCap w (n + 1) cap 9 - (n + 1))) 9)) := fun ty => by
    have h := Lib.run_append_grow_zeros (P := Try.prog) w 23 3 ty 9 i0 _ .i64 .i64 Try.underlying23 Try.underlying3 hi0 hz0 (some ⟨g, 0, none⟩) i cap ((cellsZ L).take i) hold (n + 1 - i) (by omega) (by omega) (by omega) (by omega) (by rw [hzb]; omega) (by rw [hzb, hik]; exact growslice_fits hroom (by omega))
    rw [hik] at h
    rw [hkk]
    exact h
  obtain ⟨G, hG⟩ : ∃ G, G = grownCap w (n + 1) cap 9 := ⟨_, rfl⟩
  have hGn : n + 1 ≤ G := by rw [hG]; exact grownCap_ge w _ _ _
  have hGm : G ≤ maxLen := by rw [hG]; exact grownCap_le_maxLen w (n + 1) cap 9 (by unfold maxLen; omega)
  rw [← hG] at hrz
  obtain ⟨ROW, hROW⟩ : ∃ ROW : Array Value, ROW = ((cellsZ L).take i).toArray ++ Builtin.zeroCells (Value.string ⟨#[]⟩).cells (n + 1 - i) ++ Builtin.zeroCells (Value.string ⟨#[]⟩).cells (G - (n + 1)) := ⟨_, rfl⟩
  have hRs : ROW.size = G := by
    rw [hROW]
    simp [Builtin.zeroCells, Value.cells, cellsZ_len, hLl]
    omega
  have hRt : ROW.toList.take i = (cellsZ L).take i := by
    rw [hROW]
    simp only [Array.toList_append, List.append_assoc]
    rw [List.take_append_of_le_length (by simp [cellsZ_len, hLl]; omega), List.take_of_length_le (by simp only [List.length_take]; omega)]
  rw [← hROW] at hrz
  obtain ⟨W1, hW1⟩ : ∃ W1, w.drew.alloc (.cells ROW 9) = W1 := ⟨_, rfl⟩
  rw [hW1] at hrz
  have hn1 : W1.heap[w.heap.size]? = some (.cells ROW 9 (0, 0)) := by rw [← hW1]; show (w.heap.push _)[w.heap.size]? = _; simp
  have ho1 : ∀ k, k < w.heap.size → W1.heap[k]? = w.heap[k]? := fun k hk => by rw [← hW1]; show (w.heap.push _)[k]? = _; rw [Array.getElem?_push_lt hk]; simp [hk]
  have hs1 : W1.heap.size = w.heap.size + 1 := by rw [← hW1]; simp
  have hv1 : W1.heap[vb]? = some (.cells (cZ x).toArray 9 (0, 0)) := by rw [ho1 vb hvw]; exact hv
  obtain ⟨c1, hc1⟩ : ∃ c1 : Array Value, c1 = (ROW.toList.take i ++ cZ x ++ ROW.toList.drop (i + (cZ x).length)).toArray := ⟨_, rfl⟩
  obtain ⟨W2, hW2⟩ : ∃ W2, W1.setRow w.heap.size c1 = W2 := ⟨_, rfl⟩
  have hcpA : ∀ ty dc, (Builtin.copy_ #[23, 23] ty #[.slice (some ⟨w.heap.size, i, none⟩) (n + 1 - i) dc, .slice (some ⟨vb, 0, none⟩) 1 1]).run Try.prog W1 = .ok (goInt (Nat.min 1 (n + 1 - i))) W2 := fun ty dc => by
    rw [← hW2, hc1]
    exact run_copy_rowN (P := Try.prog) W1 23 23 ty 9 1 w.heap.size i (n + 1 - i) dc ⟨vb, 0, none⟩ 1 1 ROW 9 (cZ x) Try.underlying23 szZ hn1 (by simp only [Nat.min_def]; split <;> first | rfl | omega) (boxSrc hv1) (by rw [hRs]; simp only [cZ, List.length_cons, List.length_nil]; omega) (fun u hu => oneZ [x] u (by rw [cellsZ_one]; exact hu))
  have hc1s : c1.size = G := by rw [hc1]; simp [hRs, cZ]; omega
  have hn2 : W2.heap[w.heap.size]? = some (.cells c1 9 (0, 0)) := by rw [← hW2]; exact setRow_heap W1 w.heap.size ROW _ 9 _ hn1
  have ho2 : ∀ k, k < w.heap.size → W2.heap[k]? = w.heap[k]? := fun k hk => by rw [← hW2, heap_setRow _ _ _ _ (by omega)]; exact ho1 k hk
  obtain ⟨c2, hc2⟩ : ∃ c2 : Array Value, c2 = (c1.toList.take (i + 1) ++ (cellsZ L).drop i ++ c1.toList.drop ((i + 1) + ((cellsZ L).drop i).length)).toArray := ⟨_, rfl⟩
  obtain ⟨W3, hW3⟩ : ∃ W3, W2.drew.setRow w.heap.size c2 = W3 := ⟨_, rfl⟩
  have hcpB : ∀ ty dc sc, (Builtin.copy_ #[23, 23] ty #[.slice (some ⟨w.heap.size, (i + 1), none⟩) (n - i) dc, .slice (some ⟨g, i, none⟩) (n - i) sc]).run Try.prog W2.drew = .ok (goInt (Nat.min (n - i) (n - i))) W3 := fun ty dc sc => by
    rw [← hW3, hc2]
    exact run_copy_rowN (P := Try.prog) W2.drew 23 23 ty 9 1 w.heap.size (i + 1) (n - i) dc ⟨g, i, none⟩ (n - i) sc c1 9 _ Try.underlying23 szZ hn2 (by rw [hlen]; simp only [Nat.min_def]; split <;> omega) (fun j v hj => by
      have := hsrc j v hj
      rw [addr_add] at this ⊢
      rw [cell_same (w := w) (w' := W2.drew) (ho2 g hgw)]
      exact this) (by rw [hlen, hc1s]; omega) (fun v hv => oneZ L v (List.mem_of_mem_drop hv))
  have hfin : c2.toList.take (n + 1) = cellsZ (L.take i ++ x :: L.drop i) := by
    have := growL ROW.toList (cellsZ L) (cZ x) i n hRt (by rw [cellsZ_len, hLl]) (by omega) rfl (by simp [hRs]; omega)
    rw [hc2, hc1]
    simp only [List.toList_toArray]
    rw [show (i + 1) = i + 1 by omega, show (cZ x).length = 1 from rfl, show (n + 1) = n + 1 by omega, this, cellsZ_append, cellsZ_take L i (by omega), cellsZ_drop L i (by omega), List.append_assoc]
    rfl
  have hc2s : c2.size = G := by rw [hc2]; simp [hc1s, hlen]; omega
  have HF : Hid (W3.ownsRow base 9 1 (.slice (some ⟨w.heap.size, 0, none⟩) (n + 1) G) (n + 1) (cellsZ (L.take i ++ x :: L.drop i))) := by
    refine ⟨by rw [cellsZ_len]; simp; omega, .inr ⟨w.heap.size, G, c2, rfl, hb, ?_, hGn, hGm, by simpa using hc2s, by simpa using hfin⟩⟩
    rw [← hW3]
    exact setRow_heap W2.drew w.heap.size c1 _ 9 _ hn2
  have HG : Hid (w.grownBy W3 (some g)) := by
    refine ⟨?_, ?_, ?_, ?_, fun k hk _ => ?_⟩
    · rw [← hW3, ← hW2, ← hW1]; rfl
    · rw [← hW3, ← hW2, ← hW1]; rfl
    · rw [← hW3, ← hW2, ← hW1]; rfl
    · rw [← hW3, ← hW2, ← hW1]; simp [World.setRow]
    · rw [← hW3, heap_setRow _ _ _ _ (by omega)]; exact ho2 k hk
  have hz2 : ¬ ((i : Int) = (n : Int)) := by omega
  have hz3 : (cap : Int) < (n : Int) + 1 := by omega
  have hb1 : (0 : Int) ≤ (i : Int) + 1 := by omega
  have hb3 : (i : Int) ≤ (n : Int) := by omega
  have hb5 : (i : Int) ≤ (cap : Int) := by omega
  have htn : ((i : Int) + 1).toNat = i + 1 := by omega
  have hGi : ¬ (G = i) := by omega
  have hGim : ¬ (G = i + 1) := by omega
  have hb4 : ¬ (cap = i) := by omega
  have hb6 : (i : Int) ≤ (n : Int) + 1 := by omega
  clear hW1 hW2 hW3 hc1 hc2 hfin hc2s hc1s hn1 hn2 ho1 ho2 hs1 hv1 hg hv hlen hsrc htk hcs hown hROW hRs hRt hG hold hkk hik hi0 hz0 hzs hzb hGn hGm hgw hvw hcap hnc
  go_enter Try.func43, Try.ntmps43
  go_wp2_with (at_builtin; refine Lib.wpList_append_run _ rfl _ _ _ _ rfl _ _ rfl rfl _ _ (hrz _) ?_)
  clear hrz
  go_region
  clear hcpB hcpA
  go_wp2
  go_ret
  exact ⟨⟨_, G, rfl, HF.out, fun q e => .inr (Option.some.inj e).symm⟩, HG.out⟩
theorem c_ins (base g cap n i vb : Nat) (L : List ByteArray) (x : ByteArray) (w : World) (hown : w.ownsRow base 9 1 (.slice (some ⟨g, 0, none⟩) n cap) n (cellsZ L)) (hv : w.heap[vb]? = some (.cells (cZ x).toArray 9 (0, 0))) (hne : vb ≠ g) (hi : i ≤ n) (hn : n ≤ 4096) (hb : base ≤ w.heap.size) :
    Calls Try.prog 43 #[.slice (some ⟨g, 0, none⟩) n cap, .int .i64 i, .slice (some ⟨vb, 0, none⟩) 1 1] w fun e w' => (∃ a' c', e = .returned (.slice a' (n + 1) c') ∧ w'.ownsRow base 9 1 (.slice a' (n + 1) c') (n + 1) (cellsZ (L.take i ++ x :: L.drop i)) ∧ (∀ q, ob a' = some q → q = g ∨ q = w.heap.size)) ∧ w.grownBy w' (some g) := by
  have hLl : L.length = n := by have := hown.1; rw [cellsZ_len] at this; omega
  rcases Nat.lt_or_ge i n with h | h
  · rcases Nat.lt_or_ge cap (n + 1) with h' | h'
    · exact c_insG base g cap n i vb L x w hown hv h hn h' hb
    · exact c_insS base g cap n i vb L x w hown hv hne h hn h'
  · obtain rfl : i = n := by omega
    refine (c_insE base _ i vb L x w hown hv hn hb).mono ?_
    rintro e w' ⟨⟨a', c', rfl, ho, hq⟩, hgr⟩
    refine ⟨⟨a', c', rfl, ?_, fun q e => (hq q e).imp (fun k => (Option.some.inj k).symm) id⟩, hgr⟩
    rw [List.take_of_length_le (by omega), List.drop_eq_nil_of_le (by omega)]
    exact ho

end Go.Proofs.Ythnggpjgajkaeaa
namespace Go.Proofs.Ythnggpjgajkaeaa
open Go Go.RowKit
attribute [local go_sem ↓] Go.wp_at_zero Go.wp_at_succ

set_option linter.unusedVariables false
set_option linter.unusedSimpArgs false
theorem zeroZ_run (w : World) : (zeroValue 9).run Try.prog w = .ok (.string ⟨#[]⟩) w := by
  obtain ⟨i0, hi, hz0, hz1, hz2⟩ := info_parts infoS
  simp [zeroValue, typeInfo, hi, hz0]
theorem run_clear_row (w : World) (ty : TypeId) (b o c : Nat) (cur : Array Value) (t : TypeId) (hg : w.heap[b]? = some (.cells cur t (0, 0))) (hfit : o + 1 ≤ cur.size) :
    (Builtin.clear_ #[23] ty #[.slice (some ⟨b, o, none⟩) 1 c]).run Try.prog w = .ok (.tuple #[]) (w.setRow b (cur.toList.take o ++ ([.string ⟨#[]⟩] : List Value) ++ cur.toList.drop (o + 1)).toArray) := by
  have hst := run_storeCells_at Try.prog b o t ([.string ⟨#[]⟩] : List Value) 0 cur w hg (by simpa using hfit) (by intro v hv; simp only [List.mem_cons, List.not_mem_nil, or_false] at hv; subst hv; rfl)
  simp only [Nat.add_zero] at hst
  have hzc : (Builtin.zeroCells (Value.string ⟨#[]⟩).cells 1).toList = ([.string ⟨#[]⟩] : List Value) := by first | rfl | kernel_rfl
  simp [Builtin.clear_, run_underlying (P := Try.prog) Try.underlying23, zeroZ_run, hzc, hst]
theorem step_app_run {Pg : Program} {ops : Array Oper} {o : Oper} {a : Act} {w : World} {K : Act → World → Prop} {Q : Exit → Act → World → Prop} {E : Prop}
    (hg : o.guard = none) (d x : Operand) (dT sT : TypeId) (hop : o.op = Op.call { callee := Callee.builtin Builtin.append, args := #[d, x], argTypes := #[dT, sT] })
    (v u : Value) (hd : a.eval d = v) (hx : a.eval x = u) {v' : Value} {w' : World} (hr : (Builtin.append_ #[dT, sT] o.type #[v, u]).run Pg w = .ok v' w') (hK : K (a.put o.dst v') w') :
    if Region.wanted o (yielded ops a.tmps) = true then Oper.wp Pg o a w K Q else E := by
  have hw : Region.wanted o (yielded ops a.tmps) = true := by simp [Region.wanted, hg]
  rw [if_pos hw]
  unfold Oper.wp
  simp [execOp, hop, resolve, invoke, builtin, hd, hx, hr, Result.andThen]
  exact hK
set_option maxRecDepth 100000 in
set_option maxHeartbeats 4000000 in
theorem c_del (base g cap m i : Nat) (L : List ByteArray) (w : World) (hown : w.ownsRow base 9 1 (.slice (some ⟨g, 0, none⟩) (m + 1) cap) (m + 1) (cellsZ L)) (hi : i < m) (hn : m ≤ 4096) :
    Calls Try.prog 46 #[.slice (some ⟨g, 0, none⟩) (m + 1) cap, .int .i64 i, .int .i64 ((i : Int) + 1)] w fun e w' => (e = .returned (.slice (some ⟨g, 0, none⟩) m cap) ∧ w'.ownsRow base 9 1 (.slice (some ⟨g, 0, none⟩) m cap) m (cellsZ (L.take i ++ L.drop (i + 1)))) ∧ w.grownBy w' (some g) := by
  have hLl : L.length = m + 1 := by have := hown.1; rw [cellsZ_len] at this; omega
  obtain ⟨i0, hi0, hz0, hz1, hz2⟩ := info_parts infoS
  obtain ⟨cur, hg, hcap, hcs, htk, hbg, hmc⟩ : ∃ cur, w.heap[g]? = some (.cells cur 9 (0, 0)) ∧ cap ≤ maxLen ∧ cur.size = cap ∧ cur.toList.take (m + 1) = cellsZ L ∧ base ≤ g ∧ m + 1 ≤ cap := by
    rcases hown.2 with ⟨h, h0⟩ | ⟨g', cap', cur, h, hb, hg, h1, h2, h3, h4⟩
    · cases h
    · simp only [Value.slice.injEq, Option.some.injEq, Addr.mk.injEq] at h
      obtain ⟨⟨rfl, _⟩, _, rfl⟩ := h
      exact ⟨cur, hg, h2, by simpa using h3, by simpa using h4, hb, h1⟩
  have hsrc := srcOwn hown (i + 1)
  have hlen : ((cellsZ L).drop (i + 1)).length = (m - i) := by rw [List.length_drop, cellsZ_len, hLl]; omega
  have him : i ≤ m := by omega
  obtain ⟨c1, hc1⟩ : ∃ c1 : Array Value, c1 = (cur.toList.take i ++ (cellsZ L).drop (i + 1) ++ cur.toList.drop (i + ((cellsZ L).drop (i + 1)).length)).toArray := ⟨_, rfl⟩
  have hcl1 : cur.toList.length = cap := by simp [hcs]
  have hc1s : c1.size = cap := by rw [hc1]; simp only [List.size_toArray, List.length_append, List.length_take, List.length_drop, hlen, hcl1]; omega
  have ht1 : c1.toList.take m = cellsZ (L.take i ++ L.drop (i + 1)) := by
    have e1 : cur.toList.take i = (cellsZ L).take i := by rw [← htk, List.take_take]; congr 1; omega
    rw [hc1]
    simp only [List.toList_toArray]
    rw [List.take_append_of_le_length (by simp only [List.length_append, List.length_take, hlen, hcl1]; omega), List.take_of_length_le (by simp only [List.length_append, List.length_take, hlen, hcl1]; omega), e1, cellsZ_append, cellsZ_take L i (by omega), cellsZ_drop L (i + 1) (by omega)]
  obtain ⟨W1, hW1⟩ : ∃ W1, W1 = w.drew.setRow g c1 := ⟨_, rfl⟩
  have hg1 : W1.heap[g]? = some (.cells c1 9 (0, 0)) := by rw [hW1]; exact setRow_heap w.drew g cur _ 9 _ hg
  have hap : ∀ ty c', (Builtin.append_ #[23, 23] ty #[.slice (some ⟨g, 0, none⟩) i cap, .slice (some ⟨g, (i + 1), none⟩) (m - i) c']).run Try.prog w.drew = .ok (.slice (some ⟨g, 0, none⟩) m cap) W1 := fun ty c' => by
    have h := run_append_room (P := Try.prog) w.drew 23 ty 9 i0 Try.underlying23 hi0 g i cap cur hg ⟨g, (i + 1), none⟩ (m - i) c' ((cellsZ L).drop (i + 1)) (by rw [hlen, hz1, Nat.mul_one]) hsrc (fun v hv => oneZ L v (List.mem_of_mem_drop hv)) (by omega) (by rw [hz1, hlen, hcs]; omega)
    rw [hz1] at h
    simp only [Nat.mul_one] at h
    rw [hW1, hc1]
    rw [show i + (m - i) = m by omega] at h
    exact h
  obtain ⟨c2, hc2⟩ : ∃ c2 : Array Value, c2 = (c1.toList.take m ++ ([.string ⟨#[]⟩] : List Value) ++ c1.toList.drop (m + 1)).toArray := ⟨_, rfl⟩
  have hcc : ∀ ty c', (Builtin.clear_ #[23] ty #[.slice (some ⟨g, m, none⟩) 1 c']).run Try.prog W1 = .ok (.tuple #[]) (W1.setRow g c2) := fun ty c' => by
    rw [hc2]
    exact run_clear_row W1 ty g m c' c1 9 hg1 (by rw [hc1s]; omega)
  have hc2s : c2.size = cap := by
    rw [hc2]
    have hl1 : c1.toList.length = cap := by simp [hc1s]
    simp only [List.size_toArray, List.length_append, List.length_take, List.length_drop, hl1, List.length_cons, List.length_nil]; omega
  have ht2 : c2.toList.take m = cellsZ (L.take i ++ L.drop (i + 1)) := by
    have hl1 : c1.toList.length = cap := by simp [hc1s]
    rw [hc2, ← ht1]
    simp only [List.toList_toArray]
    rw [List.append_assoc, List.take_append_of_le_length (by rw [List.length_take, hl1]; omega), List.take_of_length_le (by rw [List.length_take, hl1]; omega)]
  have HF : Hid ((W1.setRow g c2).ownsRow base 9 1 (.slice (some ⟨g, 0, none⟩) m cap) m (cellsZ (L.take i ++ L.drop (i + 1)))) := by
    refine ⟨by rw [cellsZ_len]; simp; omega, .inr ⟨g, cap, c2, rfl, hbg, setRow_heap W1 g c1 _ 9 _ hg1, by omega, hcap, by simpa using hc2s, by simpa using ht2⟩⟩
  have HG : Hid (w.grownBy (W1.setRow g c2) (some g)) := by
    have a1 := grown_setRow w.drew g c1
    have a2 := grown_setRow W1 g c2
    rw [hW1] at a2 ⊢
    exact (World.grownBy.trans ⟨a1.os, a1.tape, a1.output, a1.size, a1.block⟩ a2)
  have hz2' : ¬ ((i : Int) = (i : Int) + 1) := by omega
  have hb1 : (0 : Int) ≤ (i : Int) + 1 := by omega
  have hb3 : (i : Int) ≤ (i : Int) + 1 := by omega
  have hb4 : (i : Int) + 1 ≤ (m : Int) + 1 := by omega
  have hb5 : (m : Int) + 1 ≤ (cap : Int) := by omega
  have hb6 : (i : Int) ≤ (cap : Int) := by omega
  have hb7 : (m : Int) ≤ (m : Int) + 1 := by omega
  have htn : ((i : Int) + 1).toNat = i + 1 := by omega
  have htm : ((m : Int) + 1).toNat = m + 1 := by omega
  have hq1 : ¬ (cap = m) := by omega
  have hq2 : ¬ (cap = i + 1) := by omega
  have hq3 : m + 1 - (i + 1) = m - i := by omega
  clear hc1 hc2 ht1 ht2 hc2s hc1s hg1 hg hlen hsrc htk hcs hown hcl1 hW1
  go_enter Try.func46, Try.ntmps46
  go_wp2_with fail
  go_region_law (refine step_app_run rfl (.tmp 22) (.tmp 25) 23 23 rfl (.slice (some ⟨g, 0, none⟩) i cap) (.slice (some ⟨g, (i + 1), none⟩) (m - i) (cap - (i + 1))) (by simp [Act.eval, Act.put]) (by simp [Act.eval, Act.put]) (hap _ _) ?_)
  clear hap
  go_wp2
  go_ret
  exact ⟨⟨rfl, HF.out⟩, HG.out⟩
set_option maxRecDepth 100000 in
set_option maxHeartbeats 4000000 in
theorem c_dellast (base g cap m i : Nat) (L : List ByteArray) (w : World) (hown : w.ownsRow base 9 1 (.slice (some ⟨g, 0, none⟩) (m + 1) cap) (m + 1) (cellsZ L)) (hi : i = m) (hn : m ≤ 4096) (hx : ¬ (cap = m + 1)) :
    Calls Try.prog 46 #[.slice (some ⟨g, 0, none⟩) (m + 1) cap, .int .i64 i, .int .i64 ((i : Int) + 1)] w fun e w' => (e = .returned (.slice (some ⟨g, 0, none⟩) m cap) ∧ w'.ownsRow base 9 1 (.slice (some ⟨g, 0, none⟩) m cap) m (cellsZ (L.take i ++ L.drop (i + 1)))) ∧ w.grownBy w' (some g) := by
  have hLl : L.length = m + 1 := by have := hown.1; rw [cellsZ_len] at this; omega
  obtain ⟨i0, hi0, hz0, hz1, hz2⟩ := info_parts infoS
  obtain ⟨cur, hg, hcap, hcs, htk, hbg, hmc⟩ : ∃ cur, w.heap[g]? = some (.cells cur 9 (0, 0)) ∧ cap ≤ maxLen ∧ cur.size = cap ∧ cur.toList.take (m + 1) = cellsZ L ∧ base ≤ g ∧ m + 1 ≤ cap := by
    rcases hown.2 with ⟨h, h0⟩ | ⟨g', cap', cur, h, hb, hg, h1, h2, h3, h4⟩
    · cases h
    · simp only [Value.slice.injEq, Option.some.injEq, Addr.mk.injEq] at h
      obtain ⟨⟨rfl, _⟩, _, rfl⟩ := h
      exact ⟨cur, hg, h2, by simpa using h3, by simpa using h4, hb, h1⟩
  have hsrc := srcOwn hown (i + 1)
  have hlen : ((cellsZ L).drop (i + 1)).length = (m - i) := by rw [List.length_drop, cellsZ_len, hLl]; omega
  have him : i ≤ m := by omega
  obtain ⟨c1, hc1⟩ : ∃ c1 : Array Value, c1 = (cur.toList.take i ++ (cellsZ L).drop (i + 1) ++ cur.toList.drop (i + ((cellsZ L).drop (i + 1)).length)).toArray := ⟨_, rfl⟩
  have hcl1 : cur.toList.length = cap := by simp [hcs]
  have hc1s : c1.size = cap := by rw [hc1]; simp only [List.size_toArray, List.length_append, List.length_take, List.length_drop, hlen, hcl1]; omega
  have ht1 : c1.toList.take m = cellsZ (L.take i ++ L.drop (i + 1)) := by
    have e1 : cur.toList.take i = (cellsZ L).take i := by rw [← htk, List.take_take]; congr 1; omega
    rw [hc1]
    simp only [List.toList_toArray]
    rw [List.take_append_of_le_length (by simp only [List.length_append, List.length_take, hlen, hcl1]; omega), List.take_of_length_le (by simp only [List.length_append, List.length_take, hlen, hcl1]; omega), e1, cellsZ_append, cellsZ_take L i (by omega), cellsZ_drop L (i + 1) (by omega)]
  obtain ⟨W1, hW1⟩ : ∃ W1, W1 = w.drew.setRow g c1 := ⟨_, rfl⟩
  have hg1 : W1.heap[g]? = some (.cells c1 9 (0, 0)) := by rw [hW1]; exact setRow_heap w.drew g cur _ 9 _ hg
  have hap : ∀ ty ad c', (Builtin.append_ #[23, 23] ty #[.slice (some ⟨g, 0, none⟩) i cap, .slice (some ad) 0 c']).run Try.prog w.drew = .ok (.slice (some ⟨g, 0, none⟩) m cap) W1 := fun ty ad c' => by
    have h := run_append_room (P := Try.prog) w.drew 23 ty 9 i0 Try.underlying23 hi0 g i cap cur hg ad 0 c' ((cellsZ L).drop (i + 1)) (by rw [hlen, hz1]; omega) (fun j u hj => by have h0 : ((cellsZ L).drop (i + 1)) = [] := List.eq_nil_of_length_eq_zero (by rw [hlen]; omega); rw [h0] at hj; cases hj) (fun v hv => oneZ L v (List.mem_of_mem_drop hv)) (by omega) (by rw [hz1, hlen, hcs]; omega)
    rw [hz1] at h
    simp only [Nat.mul_one] at h
    rw [hW1, hc1]
    rw [show i + 0 = m by omega] at h
    exact h
  obtain ⟨c2, hc2⟩ : ∃ c2 : Array Value, c2 = (c1.toList.take m ++ ([.string ⟨#[]⟩] : List Value) ++ c1.toList.drop (m + 1)).toArray := ⟨_, rfl⟩
  have hcc : ∀ ty c', (Builtin.clear_ #[23] ty #[.slice (some ⟨g, m, none⟩) 1 c']).run Try.prog W1 = .ok (.tuple #[]) (W1.setRow g c2) := fun ty c' => by
    rw [hc2]
    exact run_clear_row W1 ty g m c' c1 9 hg1 (by rw [hc1s]; omega)
  have hc2s : c2.size = cap := by
    rw [hc2]
    have hl1 : c1.toList.length = cap := by simp [hc1s]
    simp only [List.size_toArray, List.length_append, List.length_take, List.length_drop, hl1, List.length_cons, List.length_nil]; omega
  have ht2 : c2.toList.take m = cellsZ (L.take i ++ L.drop (i + 1)) := by
    have hl1 : c1.toList.length = cap := by simp [hc1s]
    rw [hc2, ← ht1]
    simp only [List.toList_toArray]
    rw [List.append_assoc, List.take_append_of_le_length (by rw [List.length_take, hl1]; omega), List.take_of_length_le (by rw [List.length_take, hl1]; omega)]
  have HF : Hid ((W1.setRow g c2).ownsRow base 9 1 (.slice (some ⟨g, 0, none⟩) m cap) m (cellsZ (L.take i ++ L.drop (i + 1)))) := by
    refine ⟨by rw [cellsZ_len]; simp; omega, .inr ⟨g, cap, c2, rfl, hbg, setRow_heap W1 g c1 _ 9 _ hg1, by omega, hcap, by simpa using hc2s, by simpa using ht2⟩⟩
  have HG : Hid (w.grownBy (W1.setRow g c2) (some g)) := by
    have a1 := grown_setRow w.drew g c1
    have a2 := grown_setRow W1 g c2
    rw [hW1] at a2 ⊢
    exact (World.grownBy.trans ⟨a1.os, a1.tape, a1.output, a1.size, a1.block⟩ a2)
  have hz2' : ¬ ((i : Int) = (i : Int) + 1) := by omega
  have hb1 : (0 : Int) ≤ (i : Int) + 1 := by omega
  have hb3 : (i : Int) ≤ (i : Int) + 1 := by omega
  have hb4 : (i : Int) + 1 ≤ (m : Int) + 1 := by omega
  have hb5 : (m : Int) + 1 ≤ (cap : Int) := by omega
  have hb6 : (i : Int) ≤ (cap : Int) := by omega
  have hb7 : (m : Int) ≤ (m : Int) + 1 := by omega
  have htn : ((i : Int) + 1).toNat = i + 1 := by omega
  have htm : ((m : Int) + 1).toNat = m + 1 := by omega
  have hq1 : ¬ (cap = m) := by omega
  have hq2 : m + 1 - (m + 1) = 0 := by omega
  subst hi
  clear hc1 hc2 ht1 ht2 hc2s hc1s hg1 hg hlen hsrc htk hcs hown hcl1 hW1
  go_enter Try.func46, Try.ntmps46
  go_wp2_with fail
  go_region_law (refine step_app_run rfl (.tmp 22) (.tmp 25) 23 23 rfl (.slice (some ⟨g, 0, none⟩) i cap) (.slice (some ⟨g, (i + 1), none⟩) 0 (cap - (i + 1))) (by simp [Act.eval, Act.put]) (by simp [Act.eval, Act.put]) (hap _ _ _) ?_)
  clear hap
  go_wp2
  go_ret
  exact ⟨⟨rfl, HF.out⟩, HG.out⟩
set_option maxRecDepth 100000 in
set_option maxHeartbeats 4000000 in
theorem c_delfull (base g cap m i : Nat) (L : List ByteArray) (w : World) (hown : w.ownsRow base 9 1 (.slice (some ⟨g, 0, none⟩) (m + 1) cap) (m + 1) (cellsZ L)) (hi : i = m) (hn : m ≤ 4096) (hx : cap = m + 1) :
    Calls Try.prog 46 #[.slice (some ⟨g, 0, none⟩) (m + 1) cap, .int .i64 i, .int .i64 ((i : Int) + 1)] w fun e w' => (e = .returned (.slice (some ⟨g, 0, none⟩) m cap) ∧ w'.ownsRow base 9 1 (.slice (some ⟨g, 0, none⟩) m cap) m (cellsZ (L.take i ++ L.drop (i + 1)))) ∧ w.grownBy w' (some g) := by
  have hLl : L.length = m + 1 := by have := hown.1; rw [cellsZ_len] at this; omega
  obtain ⟨i0, hi0, hz0, hz1, hz2⟩ := info_parts infoS
  obtain ⟨cur, hg, hcap, hcs, htk, hbg, hmc⟩ : ∃ cur, w.heap[g]? = some (.cells cur 9 (0, 0)) ∧ cap ≤ maxLen ∧ cur.size = cap ∧ cur.toList.take (m + 1) = cellsZ L ∧ base ≤ g ∧ m + 1 ≤ cap := by
    rcases hown.2 with ⟨h, h0⟩ | ⟨g', cap', cur, h, hb, hg, h1, h2, h3, h4⟩
    · cases h
    · simp only [Value.slice.injEq, Option.some.injEq, Addr.mk.injEq] at h
      obtain ⟨⟨rfl, _⟩, _, rfl⟩ := h
      exact ⟨cur, hg, h2, by simpa using h3, by simpa using h4, hb, h1⟩
  have hsrc := srcOwn hown (i + 1)
  have hlen : ((cellsZ L).drop (i + 1)).length = (m - i) := by rw [List.length_drop, cellsZ_len, hLl]; omega
  have him : i ≤ m := by omega
  obtain ⟨c1, hc1⟩ : ∃ c1 : Array Value, c1 = (cur.toList.take i ++ (cellsZ L).drop (i + 1) ++ cur.toList.drop (i + ((cellsZ L).drop (i + 1)).length)).toArray := ⟨_, rfl⟩
  have hcl1 : cur.toList.length = cap := by simp [hcs]
  have hc1s : c1.size = cap := by rw [hc1]; simp only [List.size_toArray, List.length_append, List.length_take, List.length_drop, hlen, hcl1]; omega
  have ht1 : c1.toList.take m = cellsZ (L.take i ++ L.drop (i + 1)) := by
    have e1 : cur.toList.take i = (cellsZ L).take i := by rw [← htk, List.take_take]; congr 1; omega
    rw [hc1]
    simp only [List.toList_toArray]
    rw [List.take_append_of_le_length (by simp only [List.length_append, List.length_take, hlen, hcl1]; omega), List.take_of_length_le (by simp only [List.length_append, List.length_take, hlen, hcl1]; omega), e1, cellsZ_append, cellsZ_take L i (by omega), cellsZ_drop L (i + 1) (by omega)]
  obtain ⟨W1, hW1⟩ : ∃ W1, W1 = w.drew.setRow g c1 := ⟨_, rfl⟩
  have hg1 : W1.heap[g]? = some (.cells c1 9 (0, 0)) := by rw [hW1]; exact setRow_heap w.drew g cur _ 9 _ hg
  have hap : ∀ ty ad c', (Builtin.append_ #[23, 23] ty #[.slice (some ⟨g, 0, none⟩) i cap, .slice (some ad) 0 c']).run Try.prog w.drew = .ok (.slice (some ⟨g, 0, none⟩) m cap) W1 := fun ty ad c' => by
    have h := run_append_room (P := Try.prog) w.drew 23 ty 9 i0 Try.underlying23 hi0 g i cap cur hg ad 0 c' ((cellsZ L).drop (i + 1)) (by rw [hlen, hz1]; omega) (fun j u hj => by have h0 : ((cellsZ L).drop (i + 1)) = [] := List.eq_nil_of_length_eq_zero (by rw [hlen]; omega); rw [h0] at hj; cases hj) (fun v hv => oneZ L v (List.mem_of_mem_drop hv)) (by omega) (by rw [hz1, hlen, hcs]; omega)
    rw [hz1] at h
    simp only [Nat.mul_one] at h
    rw [hW1, hc1]
    rw [show i + 0 = m by omega] at h
    exact h
  obtain ⟨c2, hc2⟩ : ∃ c2 : Array Value, c2 = (c1.toList.take m ++ ([.string ⟨#[]⟩] : List Value) ++ c1.toList.drop (m + 1)).toArray := ⟨_, rfl⟩
  have hcc : ∀ ty c', (Builtin.clear_ #[23] ty #[.slice (some ⟨g, m, none⟩) 1 c']).run Try.prog W1 = .ok (.tuple #[]) (W1.setRow g c2) := fun ty c' => by
    rw [hc2]
    exact run_clear_row W1 ty g m c' c1 9 hg1 (by rw [hc1s]; omega)
  have hc2s : c2.size = cap := by
    rw [hc2]
    have hl1 : c1.toList.length = cap := by simp [hc1s]
    simp only [List.size_toArray, List.length_append, List.length_take, List.length_drop, hl1, List.length_cons, List.length_nil]; omega
  have ht2 : c2.toList.take m = cellsZ (L.take i ++ L.drop (i + 1)) := by
    have hl1 : c1.toList.length = cap := by simp [hc1s]
    rw [hc2, ← ht1]
    simp only [List.toList_toArray]
    rw [List.append_assoc, List.take_append_of_le_length (by rw [List.length_take, hl1]; omega), List.take_of_length_le (by rw [List.length_take, hl1]; omega)]
  have HF : Hid ((W1.setRow g c2).ownsRow base 9 1 (.slice (some ⟨g, 0, none⟩) m cap) m (cellsZ (L.take i ++ L.drop (i + 1)))) := by
    refine ⟨by rw [cellsZ_len]; simp; omega, .inr ⟨g, cap, c2, rfl, hbg, setRow_heap W1 g c1 _ 9 _ hg1, by omega, hcap, by simpa using hc2s, by simpa using ht2⟩⟩
  have HG : Hid (w.grownBy (W1.setRow g c2) (some g)) := by
    have a1 := grown_setRow w.drew g c1
    have a2 := grown_setRow W1 g c2
    rw [hW1] at a2 ⊢
    exact (World.grownBy.trans ⟨a1.os, a1.tape, a1.output, a1.size, a1.block⟩ a2)
  have hz2' : ¬ ((i : Int) = (i : Int) + 1) := by omega
  have hb1 : (0 : Int) ≤ (i : Int) + 1 := by omega
  have hb3 : (i : Int) ≤ (i : Int) + 1 := by omega
  have hb4 : (i : Int) + 1 ≤ (m : Int) + 1 := by omega
  have hb5 : (m : Int) + 1 ≤ (cap : Int) := by omega
  have hb6 : (i : Int) ≤ (cap : Int) := by omega
  have hb7 : (m : Int) ≤ (m : Int) + 1 := by omega
  have htn : ((i : Int) + 1).toNat = i + 1 := by omega
  have htm : ((m : Int) + 1).toNat = m + 1 := by omega
  have hq1 : ¬ (cap = m) := by omega
  have hq2 : m + 1 - (m + 1) = 0 := by omega
  subst hi; subst hx
  clear hc1 hc2 ht1 ht2 hc2s hc1s hg1 hg hlen hsrc htk hcs hown hcl1 hW1
  go_enter Try.func46, Try.ntmps46
  go_wp2_with fail
  go_region_law (refine step_app_run rfl (.tmp 22) (.tmp 25) 23 23 rfl (.slice (some ⟨g, 0, none⟩) i (i + 1)) (.slice (some ⟨g, 0, none⟩) 0 0) (by simp [Act.eval, Act.put]) (by simp [Act.eval, Act.put]) (hap _ _ _) ?_)
  clear hap
  go_wp2
  go_ret
  exact ⟨⟨rfl, HF.out⟩, HG.out⟩
theorem c_delR (base g cap m i : Nat) (L : List ByteArray) (w : World) (hown : w.ownsRow base 9 1 (.slice (some ⟨g, 0, none⟩) (m + 1) cap) (m + 1) (cellsZ L)) (hi : i ≤ m) (hn : m ≤ 4096) :
    Calls Try.prog 46 #[.slice (some ⟨g, 0, none⟩) (m + 1) cap, .int .i64 i, .int .i64 ((i : Int) + 1)] w fun e w' => (e = .returned (.slice (some ⟨g, 0, none⟩) m cap) ∧ w'.ownsRow base 9 1 (.slice (some ⟨g, 0, none⟩) m cap) m (cellsZ (L.take i ++ L.drop (i + 1)))) ∧ w.grownBy w' (some g) := by
  rcases Nat.lt_or_ge i m with h | h
  · exact c_del base g cap m i L w hown h hn
  · by_cases hx : cap = m + 1
    · exact c_delfull base g cap m i L w hown (by omega) hn hx
    · exact c_dellast base g cap m i L w hown (by omega) hn hx

end Go.Proofs.Ythnggpjgajkaeaa
namespace Go.Proofs.Ythnggpjgajkaeaa
open Go Go.RowKit
attribute [local go_sem ↓] Go.wp_at_zero Go.wp_at_succ

/-- What an insertion comes to: the code, and the keys if there is none. -/
def InsIs (L : List ND) (ro : Int) (key : ByteArray) (c : Int) (K' : Option (List ByteArray)) : Prop :=
  (AskC L ro key c ∧ c ≠ 0 ∧ K' = none) ∨ (AskC L ro key 0 ∧ ∃ ks f d, TGood L ro ks f d ∧ ((inK key (allT ks f) = true ∧ c = 9 ∧ K' = none) ∨ (inK key (allT ks f) = false ∧ (allT ks f).length = 60 ∧ c = 7 ∧ K' = none) ∨ (inK key (allT ks f) = false ∧ (allT ks f).length ≠ 60 ∧ c = 0 ∧ K' = some ((allT ks f).take (posK key (allT ks f)) ++ key :: (allT ks f).drop (posK key (allT ks f))))))
theorem InsIs.uniq {L : List ND} {ro : Int} {key : ByteArray} {c c' : Int} {K K' : Option (List ByteArray)} (h : InsIs L ro key c K) (h' : InsIs L ro key c' K') : c' = c ∧ K' = K := by
  rcases h with ⟨a, h0, rfl⟩ | ⟨a, ks, f, d, g, h⟩ <;> rcases h' with ⟨a', h0', rfl⟩ | ⟨a', ks', f', d', g', h'⟩
  · exact ⟨a.uniq a', rfl⟩
  · exact absurd (a'.uniq a) h0
  · exact absurd (a.uniq a') h0'
  · rw [g.keysUniq g'] at h'
    rcases h with ⟨h1, rfl, rfl⟩ | ⟨h1, h2, rfl, rfl⟩ | ⟨h1, h2, rfl, rfl⟩ <;> rcases h' with ⟨k1, rfl, rfl⟩ | ⟨k1, k2, rfl, rfl⟩ | ⟨k1, k2, rfl, rfl⟩
    all_goals first
      | exact ⟨rfl, rfl⟩
      | (rw [h1] at k1; exact absurd k1 (by decide))
      | exact absurd h2 k2
      | exact absurd k2 h2
/-- What a deletion comes to. -/
def DelIs (L : List ND) (ro : Int) (key : ByteArray) (c : Int) (K' : Option (List ByteArray)) : Prop :=
  (AskC L ro key c ∧ c ≠ 0 ∧ K' = none) ∨ (AskC L ro key 0 ∧ ∃ ks f d, TGood L ro ks f d ∧ ((inK key (allT ks f) = false ∧ c = 5 ∧ K' = none) ∨ (inK key (allT ks f) = true ∧ c = 0 ∧ K' = some ((allT ks f).take (posK key (allT ks f)) ++ (allT ks f).drop (posK key (allT ks f) + 1)))))
theorem DelIs.uniq {L : List ND} {ro : Int} {key : ByteArray} {c c' : Int} {K K' : Option (List ByteArray)} (h : DelIs L ro key c K) (h' : DelIs L ro key c' K') : c' = c ∧ K' = K := by
  rcases h with ⟨a, h0, rfl⟩ | ⟨a, ks, f, d, g, h⟩ <;> rcases h' with ⟨a', h0', rfl⟩ | ⟨a', ks', f', d', g', h'⟩
  · exact ⟨a.uniq a', rfl⟩
  · exact absurd (a'.uniq a) h0
  · exact absurd (a.uniq a') h0'
  · rw [g.keysUniq g'] at h'
    rcases h with ⟨h1, rfl, rfl⟩ | ⟨h1, rfl, rfl⟩ <;> rcases h' with ⟨k1, rfl, rfl⟩ | ⟨k1, rfl, rfl⟩
    all_goals first
      | exact ⟨rfl, rfl⟩
      | (rw [h1] at k1; exact absurd k1 (by decide))
def TreeSays : Option (List ByteArray) → List (Bool × List ByteArray × List Int) → Prop
  | none, s => s = []
  | some K, s => TreeIs K s
/-- A tree of the call's own and a code. -/
def AnsTC (w : World) (I : Int → Option (List ByteArray) → Prop) (e : Ending) (w' : World) : Prop := ∃ na nc vs bs c K', e = .returned (.tuple #[.agg #[.int .i64 ((vs.length - 1 : Nat) : Int), .slice na vs.length nc], .int .i64 c]) ∧ OwnTr w' w.heap.size na nc bs vs ∧ I c K' ∧ TreeSays K' (vs.map saysN)
theorem retTC {fn : Func} {q r : Nat} {R : Ending → World → Prop} {w' : World} {g : Nat} {a : Act} {v0 v1 v2 : Value} (hres : fn.results = #[.cell q 27, .tmp r]) (h0 : a.tmps.getD q undef = .pointer (some ⟨g, 0, none⟩)) (h1 : a.tmps.getD r undef = v2) (hd : a.defers = []) (hb : Box w' g 27 #[v0, v1]) (hR : R (.returned (.tuple #[.agg #[v0, v1], v2])) w') : bodyPost Try.prog fn R .ret a w' := by
  have b0 : w'.cell? ⟨g, 0, none⟩ = some v0 := hb.cell 0
  have b1 : w'.cell? ⟨g, 1, none⟩ = some v1 := hb.cell 1
  refine bodyPost_ret (v := .tuple #[.agg #[v0, v1], v2]) ?_ hd hR
  have h0' : a.tmps[q]?.getD undef = .pointer (some ⟨g, 0, none⟩) := by simpa using h0
  have h1' : a.tmps[r]?.getD undef = v2 := by simpa using h1
  have hl : (loadVar 27 ⟨g, 0, none⟩).run Try.prog w' = .ok (.agg #[v0, v1]) w' := by simp [go_sem, b0, b1]
  simp only [results, hres]
  simp [h0', h1', asAddr, hl]
theorem OwnTr.nil {w : World} {B : Nat} (h : B ≤ w.heap.size) : OwnTr w B none 0 (fun _ => B) [] := ⟨World.ownsRow_nil _ _ _ _, ⟨fun i h => absurd h (by simp), fun i h => absurd h (by simp)⟩, Nat.le_refl _, h, by simp⟩
theorem OwnTr.set {w : World} {B g i nc : Nat} {na : Option Addr} {t : TypeId} {c : Array Value} {v : Value} {bs : Nat → Nat} {vs : List TNode} (h : OwnTr w B na nc bs vs) (hb : Box w g t c) (h9 : t ≠ 9 := by decide) (h3 : t ≠ 3 := by decide) (h72 : (72 : TypeId) ≠ t := by decide) : OwnTr (w.setCell ⟨g, i, none⟩ v) B na nc bs vs :=
  ⟨own_setT h.own hb h72, h.lists.typed (Keep93.set hb h9 h3), h.lo, by have := h.hi; simpa using this, h.few⟩
theorem OwnTr.low {w : World} {B B' nc : Nat} {na : Option Addr} {bs : Nat → Nat} {vs : List TNode} (h : OwnTr w B na nc bs vs) (hb : B' ≤ B) : OwnTr w B' na nc bs vs := ⟨own_low h.own hb, h.lists, Nat.le_trans hb h.lo, h.hi, h.few⟩
theorem c_insK (base : Nat) (a : Option Addr) (n cap i vb : Nat) (L : List ByteArray) (x : ByteArray) (w : World) (hown : w.ownsRow base 9 1 (.slice a n cap) n (cellsZ L)) (hv : w.heap[vb]? = some (.cells (cZ x).toArray 9 (0, 0))) (hne : ob a ≠ some vb) (hi : i ≤ n) (hn : n ≤ 4096) (hb : base ≤ w.heap.size) :
    Calls Try.prog 43 #[.slice a n cap, .int .i64 i, .slice (some ⟨vb, 0, none⟩) 1 1] w fun e w' => (∃ a' c', e = .returned (.slice a' (n + 1) c') ∧ w'.ownsRow base 9 1 (.slice a' (n + 1) c') (n + 1) (cellsZ (L.take i ++ x :: L.drop i))) ∧ w.grownBy w' (ob a) := by
  have hLl : L.length = n := by have := hown.1; rw [cellsZ_len] at this; omega
  rcases own_form hown with ⟨e, rfl⟩ | ⟨g, cap', e, _, _⟩
  · simp only [Value.slice.injEq] at e
    obtain ⟨rfl, _, rfl⟩ := e
    obtain rfl : i = 0 := by omega
    refine (c_insE base _ 0 vb L x w hown hv hn hb).mono ?_
    rintro e w' ⟨⟨a', c', rfl, ho, hq⟩, hgr⟩
    refine ⟨⟨a', c', rfl, ?_⟩, by rw [ob_slice] at hgr; exact hgr⟩
    rw [List.eq_nil_of_length_eq_zero hLl] at ho ⊢
    exact ho
  · simp only [Value.slice.injEq] at e
    obtain ⟨rfl, _, rfl⟩ := e
    refine (c_ins base g cap n i vb L x w hown hv (fun e => hne (by rw [e]; rfl)) hi hn hb).mono ?_
    rintro e w' ⟨⟨a', c', rfl, ho, hq⟩, hgr⟩
    exact ⟨⟨a', c', rfl, ho⟩, hgr⟩
set_option maxRecDepth 100000 in
set_option maxHeartbeats 8000000 in
theorem c_implTI (ro : Int) (la : Option Addr) (ln lc : Nat) (vs : List TNode) (key : ByteArray) (w : World) (hr : RdN w la ln vs) (hn : ln ≤ 1048576) (hf : ∀ i, i < ln → FitN (vs.getD i zeroN)) (hnil : ∀ i, i < ln → (vs.getD i zeroN).ka = none → (vs.getD i zeroN).kc = 0) (hkey : key.size ≤ 1048576) :
    Calls Try.prog 15 #[.agg #[.int .i64 ro, .slice la ln lc], .string key] w fun e w' => AnsTC w (InsIs (vs.map saysN) ro key) e w' ∧ Below w.heap.size w w' := by
  obtain ⟨V0, hV0⟩ : ∃ Q, w.alloc (.cells #[.int .i64 ro, .slice la ln lc] 27) = Q := ⟨_, rfl⟩
  have bV0 : Below w.heap.size w V0 := by rw [← hV0]; exact (Below.refl _ _).alloc (Nat.le_refl _) _
  have XV0 : Box V0 w.heap.size 27 #[.int .i64 ro, .slice la ln lc] := by rw [← hV0]; exact Box.new _ _ _
  have S0 : V0.heap.size = w.heap.size + 1 := by rw [← hV0]; simp
  obtain ⟨V, hV⟩ : ∃ Q, V0.alloc (.cells #[.int .i64 0, .slice none 0 0] 27) = Q := ⟨_, rfl⟩
  have bV1 : Below V0.heap.size V0 V := by rw [← hV]; exact (Below.refl _ _).alloc (Nat.le_refl _) _
  have XV : Hid (Box V (w.heap.size + 1) 27 #[.int .i64 0, .slice none 0 0]) := by unfold Hid; rw [← hV, ← S0]; exact Box.new _ _ _
  have YV : Hid (Box V w.heap.size 27 #[.int .i64 ro, .slice la ln lc]) := XV0.belowS bV1
  have BV : Hid (Below w.heap.size w V) := bV0.trans (bV1.mono bV0.size)
  have x0 : V.cell? ⟨w.heap.size, 0, none⟩ = some (.int .i64 ro) := YV.out.cell 0
  have x1 : V.cell? ⟨w.heap.size, 1, none⟩ = some (.slice la ln lc) := YV.out.cell 1
  have C := c_askedFor ro la ln lc vs key V (hr.below BV.out) hn hf hnil hkey
  clear hr hf hnil bV0 bV1 XV0 YV
  go_enter Try.func15, Try.ntmps15
  go_wp2_with fail
  refine C.mono ?_
  rintro e w1 ⟨hans, hb1⟩
  have B1 : Hid (Below w.heap.size w w1) := BV.out.trans (hb1.mono BV.out.size)
  have X1 : Hid (Box w1 (w.heap.size + 1) 27 #[.int .i64 0, .slice none 0 0]) := XV.out.belowS hb1
  clear hb1 C hV hV0 x0 x1 XV BV S0
  rcases hans with ⟨c, rfl, hc0, ha⟩ | ⟨p, ks, f, d, A, rfl, ha, hg, hrd⟩
  · have HI : Hid (InsIs (vs.map saysN) ro key c none) := .inl ⟨ha, hc0, rfl⟩
    have hc1 : (c != 0) = true := by simpa using hc0
    have z0 := X1.out.cell 0
    have z1 := X1.out.cell 1
    have t0 := X1.out.thaw 0
    have t1 := X1.out.thaw 1
    clear ha hc0
    go_wp2
    exact retTC (v2 := .int .i64 c) Try.results15 rfl rfl rfl (put2_box X1.out _ _) ⟨⟨none, 0, [], _, c, none, rfl, ((OwnTr.nil B1.out.size).set X1.out).set (X1.out.set 0 _), HI.out, rfl⟩, put2_below B1.out (Nat.le_succ _) _ _⟩
  · have q := hg.size
    have CK := c_allKeys 201 (by omega) f ks A p w1 q.1 hrd q.2.1 q.2.2.1 (by omega)
    obtain ⟨K, hK⟩ : ∃ K, allT ks f = K := ⟨_, rfl⟩
    have HKK : Hid (allT ks f = K) := hK
    have HG : Hid (TGood (vs.map saysN) ro ks f d) := hg
    have HA : Hid (AskC (vs.map saysN) ro key 0) := ha
    have HR : Hid (Rise K) := hK ▸ hg.keys.rise
    have h60 : K.length ≤ 60 := hK ▸ hg.keys.1
    obtain ⟨N, hN⟩ : ∃ N, K.length = N := ⟨_, rfl⟩
    have HN : Hid (K.length = N) := hN
    rw [hK, hN] at CK
    rw [hN] at h60
    clear hg hrd q ha hK hN
    go_wp2_with fail
    refine CK.mono ?_
    rintro e w2 ⟨⟨a2, c2, rfl, ho2⟩, hb2⟩
    have B2 : Hid (Below w.heap.size w w2) := B1.out.trans (hb2.mono B1.out.size)
    have X2 : Hid (Box w2 (w.heap.size + 1) 27 #[.int .i64 0, .slice none 0 0]) := X1.out.belowS hb2
    have O2 : Hid (w2.ownsRow w1.heap.size 9 1 (.slice a2 N c2) N (cellsZ K)) := ho2
    have CB := c_bs a2 N c2 K key w2 (RdV.own ho2) (by omega) HR.out
    have s12 : Hid (w1.heap.size ≤ w2.heap.size) := hb2.size
    have SB0 : Hid (w.heap.size ≤ w1.heap.size) := B1.out.size
    clear ho2 hb2 CK X1 B1
    have z0 := X2.out.cell 0
    have z1 := X2.out.cell 1
    have t0 := X2.out.thaw 0
    have t1 := X2.out.thaw 1
    obtain ⟨P, hP⟩ : ∃ P, posK key K = P := ⟨_, rfl⟩
    have HP : Hid (posK key K = P) := hP
    have hPN : P ≤ N := by rw [← hP, ← HN.out]; exact posK_le key K
    rw [hP] at CB
    cases hin : inK key K
    · rw [hin] at CB
      by_cases h6 : N = 60
      · have HI : Hid (InsIs (vs.map saysN) ro key 7 none) := .inr ⟨HA.out, ks, f, d, HG.out, .inr (.inl ⟨by rw [HKK.out]; exact hin, by rw [HKK.out, HN.out]; exact h6, rfl, rfl⟩)⟩
        clear hin hP h60
        subst h6
        go_wp2_with fail
        refine CB.mono ?_
        rintro e w' ⟨rfl, hq⟩; have hq' := hq.symm; subst hq'; clear hq CB
        go_wp2
        exact retTC (v2 := .int .i64 7) Try.results15 rfl rfl rfl (put2_box X2.out _ _) ⟨⟨none, 0, [], _, 7, none, rfl, ((OwnTr.nil B2.out.size).set X2.out).set (X2.out.set 0 _), HI.out, rfl⟩, put2_below B2.out (Nat.le_succ _) _ _⟩
      · have HI : Hid (InsIs (vs.map saysN) ro key 0 (some (K.take P ++ key :: K.drop P))) := .inr ⟨HA.out, ks, f, d, HG.out, .inr (.inr ⟨by rw [HKK.out]; exact hin, by rw [HKK.out, HN.out]; exact h6, rfl, by rw [HKK.out, HP.out]⟩)⟩
        have h6' : ((N : Int) == 60) = false := by simp; omega
        obtain ⟨V3, hV3⟩ : ∃ V3, w2.alloc (.cells #[.string key] 9) = V3 := ⟨_, rfl⟩
        have b3 : Below w2.heap.size w2 V3 := by rw [← hV3]; exact (Below.refl _ _).alloc (Nat.le_refl _) _
        have XK : Box V3 w2.heap.size 9 (cZ key).toArray := by rw [← hV3]; exact Box.new _ _ _
        have O3 := own_below O2.out b3
        have CI := c_insK w1.heap.size a2 N c2 P w2.heap.size K key V3 O3 XK (fun e => by have := (own_blk O2.out _ e).2; omega) hPN (by omega) (Nat.le_trans s12.out b3.size)
        have B3 : Hid (Below w.heap.size w V3) := B2.out.trans (b3.mono B2.out.size)
        have X3 : Hid (Box V3 (w.heap.size + 1) 27 #[.int .i64 0, .slice none 0 0]) := X2.out.belowS b3
        have HRW : Hid (∀ g, ob a2 = some g → w1.heap.size ≤ g) := fun g e => (own_blk O2.out g e).1
        have HNE : Hid (ob a2 ≠ some (w.heap.size + 1)) := own_neT O3 X3.out
        have SB : Hid (w.heap.size ≤ w1.heap.size) := SB0.out
        clear hin hP b3 XK O3 z0 z1 t0 t1 X2 B2 O2 s12
        go_wp2_with fail
        refine CB.mono ?_
        rintro e w' ⟨rfl, hq⟩; have hq' := hq.symm; subst hq'; clear hq CB
        go_wp2_with fail
        refine CI.mono ?_
        rintro e w4 ⟨⟨a4, c4, rfl, ho4⟩, hg4⟩
        have B4 : Hid (Below w.heap.size w w4) := B3.out.grown hg4 B3.out.size (fun g e => Nat.le_trans SB.out (HRW.out g e))
        have X4 : Hid (Box w4 (w.heap.size + 1) 27 #[.int .i64 0, .slice none 0 0]) := X3.out.grown hg4 HNE.out
        have hcap : N + 1 ≤ c4 ∧ c4 ≤ maxLen := by
          rcases own_form ho4 with ⟨e, h0⟩ | ⟨g, cap', e, _, _⟩
          · omega
          · simp only [Value.slice.injEq] at e
            obtain ⟨rfl, _, rfl⟩ := e
            exact own_cap ho4
        have CT := c_treeOf a4 (N + 1) c4 (K.take P ++ key :: K.drop P) w4 (by omega) hcap.1 (by have := hcap.2; unfold maxLen at this; omega) (RdS.own ho4 (NP.own ho4 (by decide)))
        clear ho4 hg4 hcap CI B3 X3 HRW HNE hV3
        go_wp2_with fail
        refine CT.mono ?_
        rintro e w5 ⟨⟨na, nc, ws, bs, rfl, ht, his⟩, hb5⟩
        have B5 : Hid (Below w.heap.size w w5) := B4.out.trans (hb5.mono B4.out.size)
        have X5 : Hid (Box w5 (w.heap.size + 1) 27 #[.int .i64 0, .slice none 0 0]) := X4.out.belowS hb5
        have HT : Hid (OwnTr w5 w.heap.size na nc bs ws) := ht.low B4.out.size
        have HTI : Hid (TreeIs (K.take P ++ key :: K.drop P) (ws.map saysN)) := his
        have z0 := X5.out.cell 0
        have z1 := X5.out.cell 1
        have t0 := X5.out.thaw 0
        have t1 := X5.out.thaw 1
        clear ht his hb5 CT B4 X4
        go_wp2
        exact retTC (v2 := .int .i64 0) Try.results15 rfl rfl rfl (put2_box X5.out _ _) ⟨⟨na, nc, ws, bs, 0, _, rfl, (HT.out.set X5.out).set (X5.out.set 0 _), HI.out, HTI.out⟩, put2_below B5.out (Nat.le_succ _) _ _⟩
    · have HI : Hid (InsIs (vs.map saysN) ro key 9 none) := .inr ⟨HA.out, ks, f, d, HG.out, .inl ⟨by rw [HKK.out]; exact hin, rfl, rfl⟩⟩
      rw [hin] at CB
      clear hin hP
      go_wp2_with fail
      refine CB.mono ?_
      rintro e w' ⟨rfl, hq⟩; have hq' := hq.symm; subst hq'; clear hq CB
      go_wp2
      exact retTC (v2 := .int .i64 9) Try.results15 rfl rfl rfl (put2_box X2.out _ _) ⟨⟨none, 0, [], _, 9, none, rfl, ((OwnTr.nil B2.out.size).set X2.out).set (X2.out.set 0 _), HI.out, rfl⟩, put2_below B2.out (Nat.le_succ _) _ _⟩

end Go.Proofs.Ythnggpjgajkaeaa
namespace Go.Proofs.Ythnggpjgajkaeaa
open Go Go.RowKit
attribute [local go_sem ↓] Go.wp_at_zero Go.wp_at_succ

set_option maxRecDepth 100000 in
set_option maxHeartbeats 8000000 in
theorem c_implTD (ro : Int) (la : Option Addr) (ln lc : Nat) (vs : List TNode) (key : ByteArray) (w : World) (hr : RdN w la ln vs) (hn : ln ≤ 1048576) (hf : ∀ i, i < ln → FitN (vs.getD i zeroN)) (hnil : ∀ i, i < ln → (vs.getD i zeroN).ka = none → (vs.getD i zeroN).kc = 0) (hkey : key.size ≤ 1048576) :
    Calls Try.prog 19 #[.agg #[.int .i64 ro, .slice la ln lc], .string key] w fun e w' => AnsTC w (DelIs (vs.map saysN) ro key) e w' ∧ Below w.heap.size w w' := by
  obtain ⟨V0, hV0⟩ : ∃ Q, w.alloc (.cells #[.int .i64 ro, .slice la ln lc] 27) = Q := ⟨_, rfl⟩
  have bV0 : Below w.heap.size w V0 := by rw [← hV0]; exact (Below.refl _ _).alloc (Nat.le_refl _) _
  have XV0 : Box V0 w.heap.size 27 #[.int .i64 ro, .slice la ln lc] := by rw [← hV0]; exact Box.new _ _ _
  have S0 : V0.heap.size = w.heap.size + 1 := by rw [← hV0]; simp
  obtain ⟨V, hV⟩ : ∃ Q, V0.alloc (.cells #[.int .i64 0, .slice none 0 0] 27) = Q := ⟨_, rfl⟩
  have bV1 : Below V0.heap.size V0 V := by rw [← hV]; exact (Below.refl _ _).alloc (Nat.le_refl _) _
  have XV : Hid (Box V (w.heap.size + 1) 27 #[.int .i64 0, .slice none 0 0]) := by unfold Hid; rw [← hV, ← S0]; exact Box.new _ _ _
  have YV : Hid (Box V w.heap.size 27 #[.int .i64 ro, .slice la ln lc]) := XV0.belowS bV1
  have BV : Hid (Below w.heap.size w V) := bV0.trans (bV1.mono bV0.size)
  have x0 : V.cell? ⟨w.heap.size, 0, none⟩ = some (.int .i64 ro) := YV.out.cell 0
  have x1 : V.cell? ⟨w.heap.size, 1, none⟩ = some (.slice la ln lc) := YV.out.cell 1
  have C := c_askedFor ro la ln lc vs key V (hr.below BV.out) hn hf hnil hkey
  clear hr hf hnil bV0 bV1 XV0 YV
  go_enter Try.func19, Try.ntmps19
  go_wp2_with fail
  refine C.mono ?_
  rintro e w1 ⟨hans, hb1⟩
  have B1 : Hid (Below w.heap.size w w1) := BV.out.trans (hb1.mono BV.out.size)
  have X1 : Hid (Box w1 (w.heap.size + 1) 27 #[.int .i64 0, .slice none 0 0]) := XV.out.belowS hb1
  clear hb1 C hV hV0 x0 x1 XV BV S0
  rcases hans with ⟨c, rfl, hc0, ha⟩ | ⟨p, ks, f, d, A, rfl, ha, hg, hrd⟩
  · have HI : Hid (DelIs (vs.map saysN) ro key c none) := .inl ⟨ha, hc0, rfl⟩
    have hc1 : (c != 0) = true := by simpa using hc0
    have z0 := X1.out.cell 0
    have z1 := X1.out.cell 1
    have t0 := X1.out.thaw 0
    have t1 := X1.out.thaw 1
    clear ha hc0
    go_wp2
    exact retTC (v2 := .int .i64 c) Try.results19 rfl rfl rfl (put2_box X1.out _ _) ⟨⟨none, 0, [], _, c, none, rfl, ((OwnTr.nil B1.out.size).set X1.out).set (X1.out.set 0 _), HI.out, rfl⟩, put2_below B1.out (Nat.le_succ _) _ _⟩
  · have q := hg.size
    have CK := c_allKeys 201 (by omega) f ks A p w1 q.1 hrd q.2.1 q.2.2.1 (by omega)
    obtain ⟨K, hK⟩ : ∃ K, allT ks f = K := ⟨_, rfl⟩
    have HKK : Hid (allT ks f = K) := hK
    have HG : Hid (TGood (vs.map saysN) ro ks f d) := hg
    have HA : Hid (AskC (vs.map saysN) ro key 0) := ha
    have HR : Hid (Rise K) := hK ▸ hg.keys.rise
    have h60 : K.length ≤ 60 := hK ▸ hg.keys.1
    obtain ⟨N, hN⟩ : ∃ N, K.length = N := ⟨_, rfl⟩
    have HN : Hid (K.length = N) := hN
    rw [hK, hN] at CK
    rw [hN] at h60
    clear hg hrd q ha hK hN
    go_wp2_with fail
    refine CK.mono ?_
    rintro e w2 ⟨⟨a2, c2, rfl, ho2⟩, hb2⟩
    have B2 : Hid (Below w.heap.size w w2) := B1.out.trans (hb2.mono B1.out.size)
    have X2 : Hid (Box w2 (w.heap.size + 1) 27 #[.int .i64 0, .slice none 0 0]) := X1.out.belowS hb2
    have O2 : Hid (w2.ownsRow w1.heap.size 9 1 (.slice a2 N c2) N (cellsZ K)) := ho2
    have CB := c_bs a2 N c2 K key w2 (RdV.own ho2) (by omega) HR.out
    have s12 : Hid (w1.heap.size ≤ w2.heap.size) := hb2.size
    have SB0 : Hid (w.heap.size ≤ w1.heap.size) := B1.out.size
    clear ho2 hb2 CK X1 B1
    have z0 := X2.out.cell 0
    have z1 := X2.out.cell 1
    have t0 := X2.out.thaw 0
    have t1 := X2.out.thaw 1
    obtain ⟨P, hP⟩ : ∃ P, posK key K = P := ⟨_, rfl⟩
    have HP : Hid (posK key K = P) := hP
    have hPN : P ≤ N := by rw [← hP, ← HN.out]; exact posK_le key K
    rw [hP] at CB
    cases hin : inK key K
    · have HI : Hid (DelIs (vs.map saysN) ro key 5 none) := .inr ⟨HA.out, ks, f, d, HG.out, .inl ⟨by rw [HKK.out]; exact hin, rfl, rfl⟩⟩
      rw [hin] at CB
      clear hin hP
      go_wp2_with fail
      refine CB.mono ?_
      rintro e w' ⟨rfl, hq⟩; have hq' := hq.symm; subst hq'; clear hq CB
      go_wp2
      exact retTC (v2 := .int .i64 5) Try.results19 rfl rfl rfl (put2_box X2.out _ _) ⟨⟨none, 0, [], _, 5, none, rfl, ((OwnTr.nil B2.out.size).set X2.out).set (X2.out.set 0 _), HI.out, rfl⟩, put2_below B2.out (Nat.le_succ _) _ _⟩
    · have HI : Hid (DelIs (vs.map saysN) ro key 0 (some (K.take P ++ K.drop (P + 1)))) := .inr ⟨HA.out, ks, f, d, HG.out, .inr ⟨by rw [HKK.out]; exact hin, rfl, by rw [HKK.out, HP.out]⟩⟩
      have hlt : P < N := by
        have h := hin
        unfold inK at h
        rw [Bool.and_eq_true] at h
        have := of_decide_eq_true h.1
        rw [HP.out, HN.out] at this; exact this
      rw [hin] at CB
      rcases own_form O2.out with ⟨e, h0⟩ | ⟨g, cap', e, _, _⟩
      · omega
      simp only [Value.slice.injEq] at e
      obtain ⟨rfl, _, rfl⟩ := e
      obtain ⟨m, rfl⟩ : ∃ m, N = m + 1 := ⟨N - 1, by omega⟩
      have CD := c_delR w1.heap.size g c2 m P K w2 O2.out (by omega) (by omega)
      have HRW : Hid (w1.heap.size ≤ g) := (own_blk O2.out g rfl).1
      have HNE : Hid (some g ≠ some (w.heap.size + 1)) := own_neT O2.out X2.out
      have SB : Hid (w.heap.size ≤ w1.heap.size) := SB0.out
      clear hin hP z0 z1 t0 t1 O2 s12
      go_wp2_with fail
      refine CB.mono ?_
      rintro e w' ⟨rfl, hq⟩; have hq' := hq.symm; subst hq'; clear hq CB
      go_wp2_with fail
      refine CD.mono ?_
      rintro e w4 ⟨⟨rfl, ho4⟩, hg4⟩
      have B4 : Hid (Below w.heap.size w w4) := B2.out.grown hg4 B2.out.size (fun q e => by cases e; exact Nat.le_trans SB.out HRW.out)
      have X4 : Hid (Box w4 (w.heap.size + 1) 27 #[.int .i64 0, .slice none 0 0]) := X2.out.grown hg4 HNE.out
      have hcap := own_cap ho4
      have CT := c_treeOf (some ⟨g, 0, none⟩) m c2 (K.take P ++ K.drop (P + 1)) w4 (by omega) hcap.1 (by have := hcap.2; unfold maxLen at this; omega) (RdS.own ho4 (NP.own ho4 (by decide)))
      clear ho4 hg4 hcap CD B2 X2 HRW HNE
      go_wp2_with fail
      refine CT.mono ?_
      rintro e w5 ⟨⟨na, nc, ws, bs, rfl, ht, his⟩, hb5⟩
      have B5 : Hid (Below w.heap.size w w5) := B4.out.trans (hb5.mono B4.out.size)
      have X5 : Hid (Box w5 (w.heap.size + 1) 27 #[.int .i64 0, .slice none 0 0]) := X4.out.belowS hb5
      have HT : Hid (OwnTr w5 w.heap.size na nc bs ws) := ht.low B4.out.size
      have HTI : Hid (TreeIs (K.take P ++ K.drop (P + 1)) (ws.map saysN)) := his
      have z0 := X5.out.cell 0
      have z1 := X5.out.cell 1
      have t0 := X5.out.thaw 0
      have t1 := X5.out.thaw 1
      clear ht his hb5 CT B4 X4
      go_wp2
      exact retTC (v2 := .int .i64 0) Try.results19 rfl rfl rfl (put2_box X5.out _ _) ⟨⟨na, nc, ws, bs, 0, _, rfl, (HT.out.set X5.out).set (X5.out.set 0 _), HI.out, HTI.out⟩, put2_below B5.out (Nat.le_succ _) _ _⟩

end Go.Proofs.Ythnggpjgajkaeaa
namespace Go.Proofs.Ythnggpjgajkaeaa
open Go Go.RowKit
attribute [local go_sem ↓] Go.wp_at_zero Go.wp_at_succ

theorem parts_at {most : Nat} (hm : 3 ≤ most) : ∀ (f n : Nat), n ≤ f → ∀ j, ((parts most f n).take j).sum < n → (parts most f n)[j]? = some (part most (n - ((parts most f n).take j).sum)) := by
  intro f
  induction f with
  | zero => intro n hn j h; omega
  | succ f ih =>
    intro n hn j h
    obtain ⟨f', e, ef⟩ := parts_step (most := most) (show 0 < n by omega) hn
    obtain rfl : f = f' := by omega
    rw [e] at h ⊢
    have hp := part_pos hm (show 0 < n by omega)
    cases j with
    | zero => simp
    | succ j =>
      rw [List.take_succ_cons, List.sum_cons] at h ⊢
      rw [List.getElem?_cons_succ, ih _ (by omega) j (by omega), Nat.sub_sub]
theorem sum_pos_end : ∀ (P : List Nat) (j : Nat), (∀ d ∈ P, 0 < d) → j ≤ P.length → (P.take j).sum = P.sum → j = P.length
  | [], j, _, hj, _ => by simpa using hj
  | d :: P, 0, hd, _, h => by
    have := hd d (List.mem_cons_self)
    rw [List.take_zero, List.sum_cons] at h
    simp at h; omega
  | d :: P, j + 1, hd, hj, h => by
    rw [List.take_succ_cons, List.sum_cons, List.sum_cons] at h
    have := sum_pos_end P j (fun x hx => hd x (List.mem_cons_of_mem _ hx)) (by simpa using hj) (by omega)
    simp [this]
set_option maxRecDepth 100000 in
set_option maxHeartbeats 2000000 in
theorem c_part (l m : Nat) (w : World) (hl : l ≤ 4096) (hm : 3 ≤ m) (hm5 : m ≤ 5) :
    Calls Try.prog 78 #[.int .i64 l, .int .i64 m] w fun e w' => e = .returned (.int .i64 (part m l)) ∧ w' = w := by
  unfold part
  by_cases h : l = m + 1
  · have h1 : ((l : Int) == (m : Int) + 1) = true := by simp; omega
    have h2 : ((m - 1 : Nat) : Int) = (m : Int) - 1 := by omega
    rw [if_pos h, h2]
    subst h
    go_enter Try.func78, Try.ntmps78
    go_wp2
    go_ret
    exact ⟨rfl, rfl⟩
  · have h1 : ((l : Int) == (m : Int) + 1) = false := by simp; omega
    rw [if_neg h]
    by_cases h3 : m < l
    · have h4 : (m : Int) < (l : Int) := by omega
      rw [Nat.min_eq_left (by omega)]
      go_enter Try.func78, Try.ntmps78
      go_wp2
      go_ret
      exact ⟨rfl, rfl⟩
    · have h4 : ¬ (m : Int) < (l : Int) := by omega
      rw [Nat.min_eq_right (by omega)]
      go_enter Try.func78, Try.ntmps78
      go_wp2
      go_ret
      exact ⟨rfl, rfl⟩

end Go.Proofs.Ythnggpjgajkaeaa
namespace Go.Proofs.Ythnggpjgajkaeaa
open Go Go.RowKit

/-- No list of a node is in the block of a. -/
def Apart (vs : List TNode) (a : Option Addr) : Prop := ∀ v ∈ vs, ∀ g, ob a = some g → ob v.ka ≠ some g ∧ ob v.ia ≠ some g
structure BuSt (w wr : World) (B tb k : Nat) (na : Option Addr) (nc : Nat) (vs : List TNode) (bs : Nat → Nat) (says : List (Bool × List ByteArray × List Int)) : Prop where
  len : vs.length = k
  box : Box wr tb 27 #[.int .i64 0, .slice na k nc]
  row : wr.ownsRow B 72 3 (.slice na k nc) k (cellsN vs)
  lists : OwnB wr bs vs
  lo : B ≤ bs 0
  hi : bs k ≤ wr.heap.size
  is : vs.map saysN = says
  res : Box wr w.heap.size 27 #[.int .i64 0, .slice none 0 0]
  bel : Below w.heap.size w wr
structure LsT (wr : World) (B e : Nat) (a : Option Addr) (n c : Nat) (xs : List Value) (vs : List TNode) : Prop where
  own : wr.ownsRow B e 1 (.slice a n c) n xs
  apart : Apart vs a
theorem OwnB.same {w W : World} {bs : Nat → Nat} {gs : List TNode} (h : OwnB w bs gs) (hs : ∀ v ∈ gs, ∀ g, (ob v.ka = some g ∨ ob v.ia = some g) → g < w.heap.size → W.heap[g]? = w.heap[g]?) : OwnB W bs gs := by
  refine ⟨h.mono, fun i hi => ?_⟩
  have hv : gs.getD i zeroN ∈ gs := by rw [List.getD_eq_getElem?_getD, List.getElem?_eq_getElem hi]; exact List.getElem_mem _
  obtain ⟨h1, h2, h3, h4⟩ := h.own i hi
  exact ⟨own_same h1 fun g e => by rw [ob_slice] at e; exact hs _ hv g (.inl e) (own_blk h1 g e).2, own_same h2 fun g e => by rw [ob_slice] at e; exact hs _ hv g (.inr e) (own_blk h2 g e).2, h3, h4⟩
theorem BuSt.below {w wr W : World} {B tb k nc : Nat} {na : Option Addr} {vs : List TNode} {bs : Nat → Nat} {says : List (Bool × List ByteArray × List Int)} (h : BuSt w wr B tb k na nc vs bs says) (hb : Below wr.heap.size wr W) : BuSt w W B tb k na nc vs bs says :=
  ⟨h.len, h.box.belowS hb, own_below h.row hb, h.lists.same fun _ _ g _ hl => hb.block g hl, h.lo, Nat.le_trans h.hi hb.size, h.is, h.res.belowS hb, h.bel.trans (hb.mono h.bel.size)⟩
theorem LsT.below {wr W : World} {B e n c : Nat} {a : Option Addr} {xs : List Value} {vs : List TNode} (h : LsT wr B e a n c xs vs) (hb : Below wr.heap.size wr W) : LsT W B e a n c xs vs := ⟨own_below h.own hb, h.apart⟩
/-- A list grows. -/
theorem BuSt.app {w wr W : World} {B B' tb k nc e n c : Nat} {na a : Option Addr} {vs : List TNode} {bs : Nat → Nat} {xs : List Value} {says : List (Bool × List ByteArray × List Int)} (h : BuSt w wr B tb k na nc vs bs says) (l : LsT wr B' e a n c xs vs) (hg : wr.grownBy W (ob a)) (hB : w.heap.size ≤ B') (h27 : e ≠ 27 := by decide) (h72 : e ≠ 72 := by decide) : BuSt w W B tb k na nc vs bs says :=
  ⟨h.len, h.box.grown hg (own_neT l.own h.box h27), own_same h.row fun g eg => by
      rw [ob_slice] at eg
      obtain ⟨cs, x⟩ := own_box h.row eg
      exact hg.block g (own_blk h.row g eg).2 (fun ex => own_neT l.own x h72 ex.symm),
    h.lists.same fun v hv g eg hl => hg.block g hl (fun ex => eg.elim (l.apart v hv g ex.symm).1 (l.apart v hv g ex.symm).2), h.lo, Nat.le_trans h.hi hg.size, h.is, h.res.grown hg (own_neT l.own h.res h27), h.bel.grown hg h.bel.size fun g eg => Nat.le_trans hB (own_blk l.own g eg).1⟩
theorem LsT.app {wr W : World} {B e n c m c' : Nat} {a a' : Option Addr} {xs ys : List Value} {vs : List TNode} {bs : Nat → Nat} {k : Nat} (l : LsT wr B e a n c xs vs) (ho : W.ownsRow B e 1 (.slice a' m c') m ys) (hx : ∀ g, ob a' = some g → ob a = some g ∨ g = wr.heap.size) (hl : OwnB wr bs vs) (hk : vs.length = k) (hi : bs k ≤ wr.heap.size) : LsT W B e a' m c' ys vs := by
  refine ⟨ho, fun v hv g eg => ?_⟩
  rcases hx g eg with h1 | h1
  · exact l.apart v hv g h1
  · obtain ⟨i, hi'⟩ := List.mem_iff_getElem?.1 hv
    have hil : i < vs.length := (List.getElem?_eq_some_iff.1 hi').1
    have hm := hl.le (show i + 1 ≤ vs.length by omega) (Nat.le_refl _)
    rw [hk] at hm
    have o := hl.own i hil
    rw [List.getD_eq_getElem?_getD, hi'] at o
    refine ⟨fun ex => ?_, fun ex => ?_⟩
    · have := o.2.2.1 g ex; omega
    · have := o.2.2.2 g ex; omega
/-- Another list, of another block, stays. -/
theorem LsT.other {wr W : World} {B e n c : Nat} {a : Option Addr} {row : Option Nat} {xs : List Value} {vs : List TNode} (l : LsT wr B e a n c xs vs) (hg : wr.grownBy W row) (hne : ∀ g, ob a = some g → row ≠ some g) : LsT W B e a n c xs vs :=
  ⟨own_same l.own fun g eg => by rw [ob_slice] at eg; exact hg.block g (own_blk l.own g eg).2 (fun ex => hne g eg ex.symm), l.apart⟩
/-- A node is put behind. -/
theorem BuSt.push {w wr VA w6 W : World} {B tb k nc E lc : Nat} {na l2 : Option Addr} {vs : List TNode} {bs : Nat → Nat} {v : TNode} {says : List (Bool × List ByteArray × List Int)} (h : BuSt w wr B tb k na nc vs bs says) (hb : Below wr.heap.size wr VA) (ov : OwnN1 VA wr.heap.size E v) (hE : E ≤ VA.heap.size) (hE2 : wr.heap.size ≤ E) (hg : VA.grownBy w6 (ob na)) (ho : w6.ownsRow B 72 3 (.slice l2 (k + 1) lc) (k + 1) (cellsN (vs ++ [v]))) (hW : w6.setCell ⟨tb, 1, none⟩ (.slice l2 (k + 1) lc) = W) (hwB : w.heap.size ≤ B) (htb : w.heap.size < tb) : ∃ bs' : Nat → Nat, BuSt w W B tb (k + 1) l2 lc (vs ++ [v]) bs' (says ++ [saysN v]) := by
  have hA := h.below hb
  have kA : Keep93 VA w6 := Keep93.grown hA.row hg
  have bx := hA.box.grown hg (own_neT hA.row hA.box)
  have kW : Keep93 VA W := by rw [← hW]; exact kA.trans (Keep93.set bx)
  have sW : W.heap.size = w6.heap.size := by rw [← hW]; simp
  obtain ⟨bs', q1, q2, q3⟩ := (hA.lists.typed kW).push (lo := wr.heap.size) (by rw [h.len]; exact h.hi) (ov.typed kW) hE2
  rw [h.len] at q3
  refine ⟨bs', by rw [List.length_append, h.len]; rfl, ?_, ?_, q1, by rw [q2, ite_self]; exact h.lo, by rw [q3, sW]; exact Nat.le_trans hE hg.size, by rw [List.map_append, h.is]; rfl, ?_, ?_⟩
  · rw [← hW]; exact bx.set 1 _
  · rw [← hW]; exact own_setT ho bx
  · rw [← hW]; exact (hA.res.grown hg (own_neT hA.row hA.res)).setOther _ _ (by show w.heap.size ≠ tb; omega)
  · rw [← hW]; exact (hA.bel.grown hg hA.bel.size fun g e => Nat.le_trans hwB (own_blk hA.row g e).1).setCell (by show w.heap.size ≤ tb; omega) _
theorem LsT.push {w wr VA w6 W : World} {B B' tb k nc E lc e n c : Nat} {na l2 a : Option Addr} {vs : List TNode} {bs : Nat → Nat} {v : TNode} {xs : List Value} {says : List (Bool × List ByteArray × List Int)} (l : LsT wr B' e a n c xs vs) (h : BuSt w wr B tb k na nc vs bs says) (hb : Below wr.heap.size wr VA) (ov : OwnN1 VA wr.heap.size E v) (hg : VA.grownBy w6 (ob na)) (hW : w6.setCell ⟨tb, 1, none⟩ (.slice l2 (k + 1) lc) = W) (h72 : (72 : TypeId) ≠ e := by decide) (h27 : e ≠ 27 := by decide) : LsT W B' e a n c xs (vs ++ [v]) := by
  have hA := h.below hb
  have bx := hA.box.grown hg (own_neT hA.row hA.box)
  have lA := (l.below hb).other hg (fun g eg ex => by
    obtain ⟨cs, x⟩ := own_box (own_below l.own hb) eg
    exact own_neT hA.row x h72 ex)
  refine ⟨by rw [← hW]; exact own_setT lA.own bx h27, fun u hu g eg => ?_⟩
  rcases List.mem_append.1 hu with hu | hu
  · exact l.apart u hu g eg
  · simp at hu
    subst hu
    have hlt := (own_blk l.own g eg).2
    exact ⟨fun ex => by have := ov.2.2.1 g ex; omega, fun ex => by have := ov.2.2.2 g ex; omega⟩
/-- The end: a tree of the call's own. -/
theorem BuSt.tree {w wr : World} {B tb k nc : Nat} {na : Option Addr} {vs : List TNode} {bs : Nat → Nat} {says : List (Bool × List ByteArray × List Int)} (h : BuSt w wr B tb k na nc vs bs says) (hk : k ≤ 200) (hB : w.heap.size ≤ B) : OwnTr wr w.heap.size na nc bs vs :=
  ⟨by rw [h.len]; exact own_low h.row hB, h.lists, Nat.le_trans hB h.lo, by rw [h.len]; exact h.hi, by rw [h.len]; exact hk⟩

end Go.Proofs.Ythnggpjgajkaeaa
