/-
  Copies of stores, whose pages lie apart.
-/
import Derived.Test.YtkpopingbbaomaaGreatDoorYnfq
import Derived.Deep.RegionHeld3
namespace Go.Proofs.YtkpopingbbaomaaGreatDoor
open Go Go.RowKit
attribute [local go_sem ↓] Go.wp_at_zero Go.wp_at_succ

set_option maxRecDepth 100000 in
set_option maxHeartbeats 8000000 in
theorem c_toF2 (a : Option Addr) (n cap : Nat) (fs : List FF) (w : World) (hr : RdF w a n fs) (hn : n ≤ 1048576) (hf : ∀ i, i < n → G.FitG (fs.getD i zeroF).D) :
    Calls Tryz.prog 98 #[.slice a n cap] w fun e w' => (∃ gs : List FF, e = .returned (.slice (some ⟨w.heap.size, 0, none⟩) n n) ∧ SameF fs gs ∧ w'.ownsRow w.heap.size 142 5 (.slice (some ⟨w.heap.size, 0, none⟩) n n) n (cellsF gs) ∧ OwnF w' (w.heap.size + 1) w'.heap.size gs ∧ PwF gs) ∧ Below w.heap.size w w' := by
  obtain ⟨hl, hcs, hpg⟩ := hr
  have HPG : Hid (∀ i, i < n → G.RdG w (fs.getD i zeroF).h (fs.getD i zeroF).D) := hpg
  have HF : Hid (∀ i, i < n → G.FitG (fs.getD i zeroF).D) := hf
  clear hpg hf
  obtain ⟨i0, hi, hz0, hz1, hz2⟩ := info_parts infoF
  go_enter Tryz.func98, Tryz.ntmps98
  go_wp2_with (at_make; refine wpList_make_full _ rfl (.tmp 6) (.tmp 6) 44 rfl w.heap.size 142 i0 (.agg #[.int .i64 0, .int .i64 0, .slice none 0 0, .bool false, .int .i64 0]) 5 Tryz.underlying44 hi hz0 hz1 .i64 .i64 _ _ n rfl rfl rfl rfl (by rw [hz2]; omega) (by unfold maxLen; omega) (Nat.le_refl _) ?_; intro w1 hown hgrow)
  have hw1 : w.heap.size < w1.heap.size := by
    have := hown.lt w.heap.size rfl
    omega
  go_loopw [4] (fun i wr => ∃ (k : Nat) (gs : List FF), k ≤ n ∧ gs.length = k ∧ i = .int .i64 k ∧ Hid (SameF (fs.take k) gs) ∧ Hid (wr.ownsRow w.heap.size 142 5 (.slice (some ⟨w.heap.size, 0, none⟩) n n) n (cellsF (gs ++ List.replicate (n - k) zeroF))) ∧ Hid (OwnF wr (w.heap.size + 1) wr.heap.size gs) ∧ Hid (PwF gs) ∧ Hid (Below w.heap.size w wr) ∧ w.heap.size < wr.heap.size) (fun i _ => n - (intOf i).toNat)
  case atStart => exact ⟨0, [], by omega, rfl, rfl, rfl, by have e := made_zeroF n; simp only [Value.cells] at hown; rw [e] at hown; simpa [Hid] using hown, fun i h => absurd h (by simp), fun i j _ h => absurd h (by simp), (Below.refl _ _).grown hgrow (Nat.le_refl _) (fun k h => by cases h), hw1⟩
  case round =>
    obtain ⟨k, gs, hk, hgl, rfl, HSF, HO, HOF, HPW, HB, hwr⟩ := hrel
    by_cases hlt : k < n
    · obtain ⟨b, off, rfl, hbl, hc⟩ := hcs (by omega)
      obtain ⟨d0, d1, d2, d3, d4⟩ := hc k hlt
      have RG := (HPG.out k hlt).below HB.out
      have FG := HF.out k hlt
      obtain ⟨⟨no, h, D, d, fi⟩, hv⟩ : ∃ v, v = fs.getD k zeroF := ⟨_, rfl⟩
      have HV : Hid ((⟨no, h, D, d, fi⟩ : FF) = fs.getD k zeroF) := hv
      rw [← hv] at d0 d1 d2 d3 d4 RG FG
      dsimp only at d0 d1 d2 d3 d4 RG FG
      have hb := HB.out
      have e0 := (hb.cell (p := ⟨b, off + k * 5, none⟩) hbl).trans d0
      have e1 := (hb.cell (p := ⟨b, off + k * 5 + 1, none⟩) hbl).trans d1
      have e2 := (hb.cell (p := ⟨b, off + k * 5 + 2, none⟩) hbl).trans d2
      have e3 := (hb.cell (p := ⟨b, off + k * 5 + 3, none⟩) hbl).trans d3
      have e4 := (hb.cell (p := ⟨b, off + k * 5 + 4, none⟩) hbl).trans d4
      have C := c_toFr no fi d h D wr RG FG
      clear hc hcs hgrow hv RG FG d0 d1 d2 d3 d4 hb hown hw1 HPG HF
      go_wp2_with fail
      refine C.mono ?_
      rintro e w1 ⟨⟨h', rfl, og⟩, hb1⟩
      have hown1 := own_below HO.out hb1
      have hbb : Below w.heap.size w w1 := HB.out.trans (hb1.mono HB.out.size)
      have hs1 := hb1.size
      obtain ⟨u0, f0⟩ : ∃ u, w1.cell? ⟨w.heap.size, k * 5, none⟩ = some u := ⟨_, (hown1.cellAt (k * 5) (by omega)).trans (List.getElem?_eq_getElem (by rw [cellsF_len, List.length_append, List.length_replicate]; omega))⟩
      have z0 := hown1.frozenAt (k * 5)
      obtain ⟨u1, f1⟩ : ∃ u, w1.cell? ⟨w.heap.size, k * 5 + 1, none⟩ = some u := ⟨_, (hown1.cellAt (k * 5 + 1) (by omega)).trans (List.getElem?_eq_getElem (by rw [cellsF_len, List.length_append, List.length_replicate]; omega))⟩
      have z1 := hown1.frozenAt (k * 5 + 1)
      obtain ⟨u2, f2⟩ : ∃ u, w1.cell? ⟨w.heap.size, k * 5 + 2, none⟩ = some u := ⟨_, (hown1.cellAt (k * 5 + 2) (by omega)).trans (List.getElem?_eq_getElem (by rw [cellsF_len, List.length_append, List.length_replicate]; omega))⟩
      have z2 := hown1.frozenAt (k * 5 + 2)
      obtain ⟨u3, f3⟩ : ∃ u, w1.cell? ⟨w.heap.size, k * 5 + 3, none⟩ = some u := ⟨_, (hown1.cellAt (k * 5 + 3) (by omega)).trans (List.getElem?_eq_getElem (by rw [cellsF_len, List.length_append, List.length_replicate]; omega))⟩
      have z3 := hown1.frozenAt (k * 5 + 3)
      obtain ⟨u4, f4⟩ : ∃ u, w1.cell? ⟨w.heap.size, k * 5 + 4, none⟩ = some u := ⟨_, (hown1.cellAt (k * 5 + 4) (by omega)).trans (List.getElem?_eq_getElem (by rw [cellsF_len, List.length_append, List.length_replicate]; omega))⟩
      have z4 := hown1.frozenAt (k * 5 + 4)
      obtain ⟨m, hm⟩ : ∃ m, n - k = m + 1 := ⟨n - k - 1, by omega⟩
      have hput := own_putF hown1 k ⟨no, h', D, d, fi⟩ (by rw [List.length_append, List.length_replicate]; omega)
      rw [hm, ← hgl, setF_part, hgl, show m = n - (k + 1) by omega] at hput
      have HP : Hid ((((((w1.setCell ⟨w.heap.size, k * 5, none⟩ (.int .i64 no)).setCell ⟨w.heap.size, k * 5 + 1, none⟩ (.int .i64 h'.l)).setCell ⟨w.heap.size, k * 5 + 2, none⟩ (.slice h'.a h'.n h'.c)).setCell ⟨w.heap.size, k * 5 + 3, none⟩ (.bool d)).setCell ⟨w.heap.size, k * 5 + 4, none⟩ (.int .i64 fi)).ownsRow w.heap.size 142 5 (.slice (some ⟨w.heap.size, 0, none⟩) n n) n (cellsF ((gs ++ [⟨no, h', D, d, fi⟩]) ++ List.replicate (n - (k + 1)) zeroF))) := hput
      have BB : Hid (Below w.heap.size w (((((w1.setCell ⟨w.heap.size, k * 5, none⟩ (.int .i64 no)).setCell ⟨w.heap.size, k * 5 + 1, none⟩ (.int .i64 h'.l)).setCell ⟨w.heap.size, k * 5 + 2, none⟩ (.slice h'.a h'.n h'.c)).setCell ⟨w.heap.size, k * 5 + 3, none⟩ (.bool d)).setCell ⟨w.heap.size, k * 5 + 4, none⟩ (.int .i64 fi))) := (((((hbb.setCell (Nat.le_refl _) _).setCell (Nat.le_refl _) _).setCell (Nat.le_refl _) _).setCell (Nat.le_refl _) _).setCell (Nat.le_refl _) _)
      have OF : Hid (OwnF (((((w1.setCell ⟨w.heap.size, k * 5, none⟩ (.int .i64 no)).setCell ⟨w.heap.size, k * 5 + 1, none⟩ (.int .i64 h'.l)).setCell ⟨w.heap.size, k * 5 + 2, none⟩ (.slice h'.a h'.n h'.c)).setCell ⟨w.heap.size, k * 5 + 3, none⟩ (.bool d)).setCell ⟨w.heap.size, k * 5 + 4, none⟩ (.int .i64 fi)) (w.heap.size + 1) (((((w1.setCell ⟨w.heap.size, k * 5, none⟩ (.int .i64 no)).setCell ⟨w.heap.size, k * 5 + 1, none⟩ (.int .i64 h'.l)).setCell ⟨w.heap.size, k * 5 + 2, none⟩ (.slice h'.a h'.n h'.c)).setCell ⟨w.heap.size, k * 5 + 3, none⟩ (.bool d)).setCell ⟨w.heap.size, k * 5 + 4, none⟩ (.int .i64 fi)).heap.size (gs ++ [⟨no, h', D, d, fi⟩])) := by
        intro i hi
        rw [List.length_append, List.length_singleton] at hi
        have sm : ∀ g, w.heap.size + 1 ≤ g → (((((w1.setCell ⟨w.heap.size, k * 5, none⟩ (.int .i64 no)).setCell ⟨w.heap.size, k * 5 + 1, none⟩ (.int .i64 h'.l)).setCell ⟨w.heap.size, k * 5 + 2, none⟩ (.slice h'.a h'.n h'.c)).setCell ⟨w.heap.size, k * 5 + 3, none⟩ (.bool d)).setCell ⟨w.heap.size, k * 5 + 4, none⟩ (.int .i64 fi)).heap[g]? = w1.heap[g]? := fun g hg => by
          rw [Below.heap_setCell _ _ _ _ (by simp; omega), Below.heap_setCell _ _ _ _ (by simp; omega), Below.heap_setCell _ _ _ _ (by simp; omega), Below.heap_setCell _ _ _ _ (by simp; omega), Below.heap_setCell _ _ _ _ (by simp; omega)]
        rw [getD_app]
        by_cases e : i < gs.length
        · rw [if_pos e]
          have q := ((HOF.out i e).below hb1)
          exact (q.same (w' := (((((w1.setCell ⟨w.heap.size, k * 5, none⟩ (.int .i64 no)).setCell ⟨w.heap.size, k * 5 + 1, none⟩ (.int .i64 h'.l)).setCell ⟨w.heap.size, k * 5 + 2, none⟩ (.slice h'.a h'.n h'.c)).setCell ⟨w.heap.size, k * 5 + 3, none⟩ (.bool d)).setCell ⟨w.heap.size, k * 5 + 4, none⟩ (.int .i64 fi))) (by simp) fun g h1 _ => sm g h1).wide (Nat.le_refl _)
        · rw [if_neg e, if_pos (by omega)]
          exact (og.same (w' := (((((w1.setCell ⟨w.heap.size, k * 5, none⟩ (.int .i64 no)).setCell ⟨w.heap.size, k * 5 + 1, none⟩ (.int .i64 h'.l)).setCell ⟨w.heap.size, k * 5 + 2, none⟩ (.slice h'.a h'.n h'.c)).setCell ⟨w.heap.size, k * 5 + 3, none⟩ (.bool d)).setCell ⟨w.heap.size, k * 5 + 4, none⟩ (.int .i64 fi))) (by simp) fun g h1 _ => sm g (by omega)).wide (by omega)
      have HPW2 : Hid (PwF (gs ++ [⟨no, h', D, d, fi⟩])) := fun i j hij hj g e1 e2 => by
        rw [List.length_append, List.length_singleton] at hj
        rw [getD_app] at e1 e2
        by_cases h2 : j < gs.length
        · rw [if_pos h2] at e2; rw [if_pos (by omega)] at e1; exact HPW.out i j hij h2 g e1 e2
        · rw [if_neg h2, if_pos (by omega)] at e2; rw [if_pos (by omega)] at e1
          have a := (HOF.out i (by omega)).2.2.2 g e1
          have b := og.2.2.2 g e2
          omega
      have HS2 : Hid (SameF (fs.take (k + 1)) (gs ++ [⟨no, h', D, d, fi⟩])) := by
        unfold Hid SameF
        rw [List.take_add_one, List.map_append, List.map_append, HSF.out]
        have e : fs[k]? = some ⟨no, h, D, d, fi⟩ := by
          have := HV.out
          rw [List.getD_eq_getElem?_getD, List.getElem?_eq_getElem (by omega)] at this
          rw [List.getElem?_eq_getElem (by omega)]
          exact congrArg some this.symm
        rw [e]
        rfl
      have hsz : w.heap.size < (((((w1.setCell ⟨w.heap.size, k * 5, none⟩ (.int .i64 no)).setCell ⟨w.heap.size, k * 5 + 1, none⟩ (.int .i64 h'.l)).setCell ⟨w.heap.size, k * 5 + 2, none⟩ (.slice h'.a h'.n h'.c)).setCell ⟨w.heap.size, k * 5 + 3, none⟩ (.bool d)).setCell ⟨w.heap.size, k * 5 + 4, none⟩ (.int .i64 fi)).heap.size := by simp; omega
      clear hput hown1 hb1 HO HB hbb HOF og HSF e0 e1 e2 e3 e4 C hm
      go_wp2
      go_roundw
      case rel => exact ⟨k + 1, gs ++ [⟨no, h', D, d, fi⟩], by omega, by simp [hgl], by go_num, HS2, HP, OF, HPW2, BB, hsz⟩
      case measure => simp [intOf]; omega
    · have e : k = n := by omega
      subst e
      have ho := HO.out
      rw [Nat.sub_self, List.replicate_zero, List.append_nil] at ho
      have hs := HSF.out
      rw [List.take_of_length_le (by omega)] at hs
      have HO' : Hid (wr.ownsRow w.heap.size 142 5 (.slice (some ⟨w.heap.size, 0, none⟩) k k) k (cellsF gs)) := ho
      have HS' : Hid (SameF fs gs) := hs
      clear ho hs HO HSF
      go_wp2
      go_ret
      exact ⟨⟨gs, rfl, HS'.out, HO'.out, HOF.out, HPW.out⟩, HB.out⟩
set_option maxRecDepth 100000 in
set_option maxHeartbeats 8000000 in
theorem c_toST2 (h : HD) (D : DD) (ep : Int) (la : Option Addr) (ln lc : Nat) (L : List DR) (su : Int) (fa : Option Addr) (fn fc : Nat) (F : List FF) (ha : Int) (w : World) (r : RdD w h D) (rl : RdQ w la ln L) (rf : RdF w fa fn F) (hf : FitS D ln L fn F) :
    Calls Tryz.prog 38 #[.agg #[.slice h.a0 h.n0 h.c0, .slice h.a1 h.n1 h.c1, .bool h.b, .slice h.a2 h.n2 h.c2, .int .i64 ep, .slice la ln lc, .int .i64 su, .slice fa fn fc, .int .i64 ha]] w fun e w' => (∃ (h' : HD) (la' : Option Addr) (lc' : Nat) (fa' : Option Addr) (fc' : Nat) (gs : List FF), e = .returned (.agg #[.slice h'.a0 h'.n0 h'.c0, .slice h'.a1 h'.n1 h'.c1, .bool h'.b, .slice h'.a2 h'.n2 h'.c2, .int .i64 ep, .slice la' ln lc', .int .i64 su, .slice fa' fn fc', .int .i64 ha]) ∧ SameF F gs ∧ OwnS w' w.heap.size w'.heap.size h' D la' ln lc' L fa' fn fc' gs ∧ PwF gs) ∧ Below w.heap.size w w' := by
  obtain ⟨V, hV⟩ : ∃ V, ((w.alloc (.cells #[.slice h.a0 h.n0 h.c0, .slice h.a1 h.n1 h.c1, .bool h.b, .slice h.a2 h.n2 h.c2, .int .i64 ep, .slice la ln lc, .int .i64 su, .slice fa fn fc, .int .i64 ha] 30)).alloc (.cells #[.slice none 0 0, .slice none 0 0, .bool false, .slice none 0 0, .int .i64 0, .slice none 0 0, .int .i64 0, .slice none 0 0, .int .i64 0] 46)).alloc (.cells #[.slice none 0 0, .slice none 0 0, .bool false, .slice none 0 0, .int .i64 0, .slice none 0 0, .int .i64 0, .slice none 0 0, .int .i64 0] 46) = V := ⟨_, rfl⟩
  have T0 : Hid (T3 w V 30 46 #[.slice h.a0 h.n0 h.c0, .slice h.a1 h.n1 h.c1, .bool h.b, .slice h.a2 h.n2 h.c2, .int .i64 ep, .slice la ln lc, .int .i64 su, .slice fa fn fc, .int .i64 ha] #[.slice none 0 0, .slice none 0 0, .bool false, .slice none 0 0, .int .i64 0, .slice none 0 0, .int .i64 0, .slice none 0 0, .int .i64 0] #[.slice none 0 0, .slice none 0 0, .bool false, .slice none 0 0, .int .i64 0, .slice none 0 0, .int .i64 0, .slice none 0 0, .int .i64 0]) := by unfold Hid; rw [← hV]; exact T3.new _ _ _ _ _ _
  have C1 := c_toDisk h D V (r.below T0.out.bel) hf.1
  have C2 : Hid (∀ W, Below w.heap.size w W → Calls Tryz.prog 97 #[.slice la ln lc] W fun e w' => e = .returned (.slice (some ⟨W.heap.size, 0, none⟩) ln ln) ∧ w'.ownsRow W.heap.size 78 10 (.slice (some ⟨W.heap.size, 0, none⟩) ln ln) ln (cellsQ L) ∧ Below W.heap.size W w') := fun W hW => c_toQ la ln lc L W (rl.below hW) hf.2.1.1
  have C3 : Hid (∀ W, Below w.heap.size w W → Calls Tryz.prog 98 #[.slice fa fn fc] W fun e w' => (∃ gs : List FF, e = .returned (.slice (some ⟨W.heap.size, 0, none⟩) fn fn) ∧ SameF F gs ∧ w'.ownsRow W.heap.size 142 5 (.slice (some ⟨W.heap.size, 0, none⟩) fn fn) fn (cellsF gs) ∧ OwnF w' (W.heap.size + 1) w'.heap.size gs ∧ PwF gs) ∧ Below W.heap.size W w') := fun W hW => c_toF2 fa fn fc F W (rf.below hW) hf.2.2.1 hf.2.2.2
  clear r rl rf hf
  obtain ⟨x0, x1, x2, x3, x4, x5, x6, x7, x8⟩ := box9 T0.out.a
  have s0 := T0.out.sz
  go_enter Tryz.func38, Tryz.ntmps38
  go_wp2_with fail
  refine C1.mono ?_
  rintro e w1 ⟨⟨h', rfl, o1⟩, hb⟩
  have T1 : Hid (T3 w w1 30 46 #[.slice h.a0 h.n0 h.c0, .slice h.a1 h.n1 h.c1, .bool h.b, .slice h.a2 h.n2 h.c2, .int .i64 ep, .slice la ln lc, .int .i64 su, .slice fa fn fc, .int .i64 ha] #[.slice none 0 0, .slice none 0 0, .bool false, .slice none 0 0, .int .i64 0, .slice none 0 0, .int .i64 0, .slice none 0 0, .int .i64 0] #[.slice none 0 0, .slice none 0 0, .bool false, .slice none 0 0, .int .i64 0, .slice none 0 0, .int .i64 0, .slice none 0 0, .int .i64 0]) := T0.out.below hb
  have O1 : Hid (OwnD w1 V.heap.size w1.heap.size h' D) := o1
  have s1 : V.heap.size ≤ w1.heap.size := hb.size
  clear hb o1 C1 T0 hV x0 x1 x2 x3 x4 x5 x6 x7 x8
  obtain ⟨Va0, hVa0⟩ : ∃ W, w1.setCell ⟨w.heap.size + 1 + 1, 0, none⟩ (.slice h'.a0 h'.n0 h'.c0) = W := ⟨_, rfl⟩
  have Ta0 : Hid (T3 w Va0 30 46 #[.slice h.a0 h.n0 h.c0, .slice h.a1 h.n1 h.c1, .bool h.b, .slice h.a2 h.n2 h.c2, .int .i64 ep, .slice la ln lc, .int .i64 su, .slice fa fn fc, .int .i64 ha] #[.slice none 0 0, .slice none 0 0, .bool false, .slice none 0 0, .int .i64 0, .slice none 0 0, .int .i64 0, .slice none 0 0, .int .i64 0] #[.slice h'.a0 h'.n0 h'.c0, .slice none 0 0, .bool false, .slice none 0 0, .int .i64 0, .slice none 0 0, .int .i64 0, .slice none 0 0, .int .i64 0]) := by unfold Hid; rw [← hVa0]; exact T1.out.set 0 _ rfl
  have c0 : w1.cell? ⟨w.heap.size + 1 + 1, 0, none⟩ = some (.slice none 0 0) := T1.out.o.cell 0
  have z0 := T1.out.o.thaw 0
  obtain ⟨Va1, hVa1⟩ : ∃ W, Va0.setCell ⟨w.heap.size + 1 + 1, 1, none⟩ (.slice h'.a1 h'.n1 h'.c1) = W := ⟨_, rfl⟩
  have Ta1 : Hid (T3 w Va1 30 46 #[.slice h.a0 h.n0 h.c0, .slice h.a1 h.n1 h.c1, .bool h.b, .slice h.a2 h.n2 h.c2, .int .i64 ep, .slice la ln lc, .int .i64 su, .slice fa fn fc, .int .i64 ha] #[.slice none 0 0, .slice none 0 0, .bool false, .slice none 0 0, .int .i64 0, .slice none 0 0, .int .i64 0, .slice none 0 0, .int .i64 0] #[.slice h'.a0 h'.n0 h'.c0, .slice h'.a1 h'.n1 h'.c1, .bool false, .slice none 0 0, .int .i64 0, .slice none 0 0, .int .i64 0, .slice none 0 0, .int .i64 0]) := by unfold Hid; rw [← hVa1]; exact Ta0.out.set 1 _ rfl
  have c1 : Va0.cell? ⟨w.heap.size + 1 + 1, 1, none⟩ = some (.slice none 0 0) := Ta0.out.o.cell 1
  have z1 := Ta0.out.o.thaw 1
  obtain ⟨Va2, hVa2⟩ : ∃ W, Va1.setCell ⟨w.heap.size + 1 + 1, 2, none⟩ (.bool h'.b) = W := ⟨_, rfl⟩
  have Ta2 : Hid (T3 w Va2 30 46 #[.slice h.a0 h.n0 h.c0, .slice h.a1 h.n1 h.c1, .bool h.b, .slice h.a2 h.n2 h.c2, .int .i64 ep, .slice la ln lc, .int .i64 su, .slice fa fn fc, .int .i64 ha] #[.slice none 0 0, .slice none 0 0, .bool false, .slice none 0 0, .int .i64 0, .slice none 0 0, .int .i64 0, .slice none 0 0, .int .i64 0] #[.slice h'.a0 h'.n0 h'.c0, .slice h'.a1 h'.n1 h'.c1, .bool h'.b, .slice none 0 0, .int .i64 0, .slice none 0 0, .int .i64 0, .slice none 0 0, .int .i64 0]) := by unfold Hid; rw [← hVa2]; exact Ta1.out.set 2 _ rfl
  have c2 : Va1.cell? ⟨w.heap.size + 1 + 1, 2, none⟩ = some (.bool false) := Ta1.out.o.cell 2
  have z2 := Ta1.out.o.thaw 2
  obtain ⟨Va3, hVa3⟩ : ∃ W, Va2.setCell ⟨w.heap.size + 1 + 1, 3, none⟩ (.slice h'.a2 h'.n2 h'.c2) = W := ⟨_, rfl⟩
  have Ta3 : Hid (T3 w Va3 30 46 #[.slice h.a0 h.n0 h.c0, .slice h.a1 h.n1 h.c1, .bool h.b, .slice h.a2 h.n2 h.c2, .int .i64 ep, .slice la ln lc, .int .i64 su, .slice fa fn fc, .int .i64 ha] #[.slice none 0 0, .slice none 0 0, .bool false, .slice none 0 0, .int .i64 0, .slice none 0 0, .int .i64 0, .slice none 0 0, .int .i64 0] #[.slice h'.a0 h'.n0 h'.c0, .slice h'.a1 h'.n1 h'.c1, .bool h'.b, .slice h'.a2 h'.n2 h'.c2, .int .i64 0, .slice none 0 0, .int .i64 0, .slice none 0 0, .int .i64 0]) := by unfold Hid; rw [← hVa3]; exact Ta2.out.set 3 _ rfl
  have c3 : Va2.cell? ⟨w.heap.size + 1 + 1, 3, none⟩ = some (.slice none 0 0) := Ta2.out.o.cell 3
  have z3 := Ta2.out.o.thaw 3
  obtain ⟨Va4, hVa4⟩ : ∃ W, Va3.setCell ⟨w.heap.size + 1 + 1, 4, none⟩ (.int .i64 ep) = W := ⟨_, rfl⟩
  have Ta4 : Hid (T3 w Va4 30 46 #[.slice h.a0 h.n0 h.c0, .slice h.a1 h.n1 h.c1, .bool h.b, .slice h.a2 h.n2 h.c2, .int .i64 ep, .slice la ln lc, .int .i64 su, .slice fa fn fc, .int .i64 ha] #[.slice none 0 0, .slice none 0 0, .bool false, .slice none 0 0, .int .i64 0, .slice none 0 0, .int .i64 0, .slice none 0 0, .int .i64 0] #[.slice h'.a0 h'.n0 h'.c0, .slice h'.a1 h'.n1 h'.c1, .bool h'.b, .slice h'.a2 h'.n2 h'.c2, .int .i64 ep, .slice none 0 0, .int .i64 0, .slice none 0 0, .int .i64 0]) := by unfold Hid; rw [← hVa4]; exact Ta3.out.set 4 _ rfl
  have c4 : Va3.cell? ⟨w.heap.size + 1 + 1, 4, none⟩ = some (.int .i64 0) := Ta3.out.o.cell 4
  have z4 := Ta3.out.o.thaw 4
  have a4 : Va3.cell? ⟨w.heap.size, 4, none⟩ = some (.int .i64 ep) := Ta3.out.a.cell 4
  have a5 : Va4.cell? ⟨w.heap.size, 5, none⟩ = some (.slice la ln lc) := Ta4.out.a.cell 5
  have sa : w1.heap.size ≤ Va4.heap.size ∧ Va4.heap.size ≤ w1.heap.size := by rw [← hVa4, ← hVa3, ← hVa2, ← hVa1, ← hVa0]; simp
  have K1 : Hid (∀ g, V.heap.size ≤ g → Va4.heap[g]? = w1.heap[g]?) := fun g hg => by
    rw [← hVa4, ← hVa3, ← hVa2, ← hVa1, ← hVa0, Below.heap_setCell _ _ _ _ (by simp; omega), Below.heap_setCell _ _ _ _ (by simp; omega), Below.heap_setCell _ _ _ _ (by simp; omega), Below.heap_setCell _ _ _ _ (by simp; omega), Below.heap_setCell _ _ _ _ (by simp; omega)]
  have O2 : Hid (OwnD Va4 V.heap.size w1.heap.size h' D) := O1.out.same (by omega) fun g h1 _ => K1.out g h1
  have C2' := C2.out Va4 Ta4.out.bel
  clear K1 O1 T1 Ta0 Ta1 Ta2 Ta3 C2
  go_wp2_with fail
  refine C2'.mono ?_
  rintro e w2 ⟨rfl, oq, hb⟩
  obtain ⟨q, hq⟩ : ∃ q, Va4.heap.size = q := ⟨_, rfl⟩
  rw [hq] at oq
  have T2 : Hid (T3 w w2 30 46 #[.slice h.a0 h.n0 h.c0, .slice h.a1 h.n1 h.c1, .bool h.b, .slice h.a2 h.n2 h.c2, .int .i64 ep, .slice la ln lc, .int .i64 su, .slice fa fn fc, .int .i64 ha] #[.slice none 0 0, .slice none 0 0, .bool false, .slice none 0 0, .int .i64 0, .slice none 0 0, .int .i64 0, .slice none 0 0, .int .i64 0] #[.slice h'.a0 h'.n0 h'.c0, .slice h'.a1 h'.n1 h'.c1, .bool h'.b, .slice h'.a2 h'.n2 h'.c2, .int .i64 ep, .slice none 0 0, .int .i64 0, .slice none 0 0, .int .i64 0]) := Ta4.out.below hb
  have O3 : Hid (OwnD w2 V.heap.size w1.heap.size h' D) := O2.out.below hb
  have Q3 : Hid (w2.ownsRow q 78 10 (.slice (some ⟨q, 0, none⟩) ln ln) ln (cellsQ L)) := oq
  have sq : q < w2.heap.size := oq.lt q rfl |>.2
  have s2 : w1.heap.size ≤ q ∧ q ≤ w1.heap.size := by omega
  rw [hq]
  clear hq sa hb oq C2' O2 Ta4 a4 a5 c0 z0 hVa0 c1 z1 hVa1 c2 z2 hVa2 c3 z3 hVa3 c4 z4 hVa4
  obtain ⟨Vb5, hVb5⟩ : ∃ W, w2.setCell ⟨w.heap.size + 1 + 1, 5, none⟩ (.slice (some ⟨q, 0, none⟩) ln ln) = W := ⟨_, rfl⟩
  have Tb5 : Hid (T3 w Vb5 30 46 #[.slice h.a0 h.n0 h.c0, .slice h.a1 h.n1 h.c1, .bool h.b, .slice h.a2 h.n2 h.c2, .int .i64 ep, .slice la ln lc, .int .i64 su, .slice fa fn fc, .int .i64 ha] #[.slice none 0 0, .slice none 0 0, .bool false, .slice none 0 0, .int .i64 0, .slice none 0 0, .int .i64 0, .slice none 0 0, .int .i64 0] #[.slice h'.a0 h'.n0 h'.c0, .slice h'.a1 h'.n1 h'.c1, .bool h'.b, .slice h'.a2 h'.n2 h'.c2, .int .i64 ep, .slice (some ⟨q, 0, none⟩) ln ln, .int .i64 0, .slice none 0 0, .int .i64 0]) := by unfold Hid; rw [← hVb5]; exact T2.out.set 5 _ rfl
  have c5 : w2.cell? ⟨w.heap.size + 1 + 1, 5, none⟩ = some (.slice none 0 0) := T2.out.o.cell 5
  have z5 := T2.out.o.thaw 5
  obtain ⟨Vb6, hVb6⟩ : ∃ W, Vb5.setCell ⟨w.heap.size + 1 + 1, 6, none⟩ (.int .i64 su) = W := ⟨_, rfl⟩
  have Tb6 : Hid (T3 w Vb6 30 46 #[.slice h.a0 h.n0 h.c0, .slice h.a1 h.n1 h.c1, .bool h.b, .slice h.a2 h.n2 h.c2, .int .i64 ep, .slice la ln lc, .int .i64 su, .slice fa fn fc, .int .i64 ha] #[.slice none 0 0, .slice none 0 0, .bool false, .slice none 0 0, .int .i64 0, .slice none 0 0, .int .i64 0, .slice none 0 0, .int .i64 0] #[.slice h'.a0 h'.n0 h'.c0, .slice h'.a1 h'.n1 h'.c1, .bool h'.b, .slice h'.a2 h'.n2 h'.c2, .int .i64 ep, .slice (some ⟨q, 0, none⟩) ln ln, .int .i64 su, .slice none 0 0, .int .i64 0]) := by unfold Hid; rw [← hVb6]; exact Tb5.out.set 6 _ rfl
  have c6 : Vb5.cell? ⟨w.heap.size + 1 + 1, 6, none⟩ = some (.int .i64 0) := Tb5.out.o.cell 6
  have z6 := Tb5.out.o.thaw 6
  have a6 : Vb5.cell? ⟨w.heap.size, 6, none⟩ = some (.int .i64 su) := Tb5.out.a.cell 6
  have a7 : Vb6.cell? ⟨w.heap.size, 7, none⟩ = some (.slice fa fn fc) := Tb6.out.a.cell 7
  have sb : w2.heap.size ≤ Vb6.heap.size ∧ Vb6.heap.size ≤ w2.heap.size := by rw [← hVb6, ← hVb5]; simp
  have K2 : Hid (∀ g, V.heap.size ≤ g → Vb6.heap[g]? = w2.heap[g]?) := fun g hg => by
    rw [← hVb6, ← hVb5, Below.heap_setCell _ _ _ _ (by simp; omega), Below.heap_setCell _ _ _ _ (by simp; omega)]
  have O4 : Hid (OwnD Vb6 V.heap.size w1.heap.size h' D) := O3.out.same (by omega) fun g h1 _ => K2.out g h1
  have Q4 : Hid (Vb6.ownsRow q 78 10 (.slice (some ⟨q, 0, none⟩) ln ln) ln (cellsQ L)) := own_same Q3.out fun g e => by
    rw [ob_slice] at e
    have e' : q = g := by simpa [ob] using e
    exact K2.out g (by omega)
  have C3' := C3.out Vb6 Tb6.out.bel
  clear K2 O3 Q3 T2 Tb5 C3
  go_wp2_with fail
  refine C3'.mono ?_
  rintro e w3 ⟨⟨gs, rfl, hsame, ofr, opg, ppw⟩, hb⟩
  have PPW : Hid (PwF gs) := ppw
  clear ppw
  obtain ⟨f, hf⟩ : ∃ f, Vb6.heap.size = f := ⟨_, rfl⟩
  rw [hf] at ofr opg
  have T4 : Hid (T3 w w3 30 46 #[.slice h.a0 h.n0 h.c0, .slice h.a1 h.n1 h.c1, .bool h.b, .slice h.a2 h.n2 h.c2, .int .i64 ep, .slice la ln lc, .int .i64 su, .slice fa fn fc, .int .i64 ha] #[.slice none 0 0, .slice none 0 0, .bool false, .slice none 0 0, .int .i64 0, .slice none 0 0, .int .i64 0, .slice none 0 0, .int .i64 0] #[.slice h'.a0 h'.n0 h'.c0, .slice h'.a1 h'.n1 h'.c1, .bool h'.b, .slice h'.a2 h'.n2 h'.c2, .int .i64 ep, .slice (some ⟨q, 0, none⟩) ln ln, .int .i64 su, .slice none 0 0, .int .i64 0]) := Tb6.out.below hb
  have O5 : Hid (OwnD w3 V.heap.size w1.heap.size h' D) := O4.out.below hb
  have Q5 : Hid (w3.ownsRow q 78 10 (.slice (some ⟨q, 0, none⟩) ln ln) ln (cellsQ L)) := own_below Q4.out hb
  have F5 : Hid (w3.ownsRow f 142 5 (.slice (some ⟨f, 0, none⟩) fn fn) fn (cellsF gs)) := ofr
  have P5 : Hid (OwnF w3 (f + 1) w3.heap.size gs) := opg
  have HSM : Hid (SameF F gs) := hsame
  have sf : f < w3.heap.size := ofr.lt f rfl |>.2
  have s3 : w2.heap.size ≤ f ∧ f ≤ w2.heap.size := by omega
  rw [hf]
  clear hf sb hb ofr opg hsame C3' O4 Q4 Tb6 a6 a7 c5 z5 hVb5 c6 z6 hVb6
  obtain ⟨Vc7, hVc7⟩ : ∃ W, w3.setCell ⟨w.heap.size + 1 + 1, 7, none⟩ (.slice (some ⟨f, 0, none⟩) fn fn) = W := ⟨_, rfl⟩
  have Tc7 : Hid (T3 w Vc7 30 46 #[.slice h.a0 h.n0 h.c0, .slice h.a1 h.n1 h.c1, .bool h.b, .slice h.a2 h.n2 h.c2, .int .i64 ep, .slice la ln lc, .int .i64 su, .slice fa fn fc, .int .i64 ha] #[.slice none 0 0, .slice none 0 0, .bool false, .slice none 0 0, .int .i64 0, .slice none 0 0, .int .i64 0, .slice none 0 0, .int .i64 0] #[.slice h'.a0 h'.n0 h'.c0, .slice h'.a1 h'.n1 h'.c1, .bool h'.b, .slice h'.a2 h'.n2 h'.c2, .int .i64 ep, .slice (some ⟨q, 0, none⟩) ln ln, .int .i64 su, .slice (some ⟨f, 0, none⟩) fn fn, .int .i64 0]) := by unfold Hid; rw [← hVc7]; exact T4.out.set 7 _ rfl
  have c7 : w3.cell? ⟨w.heap.size + 1 + 1, 7, none⟩ = some (.slice none 0 0) := T4.out.o.cell 7
  have z7 := T4.out.o.thaw 7
  obtain ⟨Vc8, hVc8⟩ : ∃ W, Vc7.setCell ⟨w.heap.size + 1 + 1, 8, none⟩ (.int .i64 ha) = W := ⟨_, rfl⟩
  have Tc8 : Hid (T3 w Vc8 30 46 #[.slice h.a0 h.n0 h.c0, .slice h.a1 h.n1 h.c1, .bool h.b, .slice h.a2 h.n2 h.c2, .int .i64 ep, .slice la ln lc, .int .i64 su, .slice fa fn fc, .int .i64 ha] #[.slice none 0 0, .slice none 0 0, .bool false, .slice none 0 0, .int .i64 0, .slice none 0 0, .int .i64 0, .slice none 0 0, .int .i64 0] #[.slice h'.a0 h'.n0 h'.c0, .slice h'.a1 h'.n1 h'.c1, .bool h'.b, .slice h'.a2 h'.n2 h'.c2, .int .i64 ep, .slice (some ⟨q, 0, none⟩) ln ln, .int .i64 su, .slice (some ⟨f, 0, none⟩) fn fn, .int .i64 ha]) := by unfold Hid; rw [← hVc8]; exact Tc7.out.set 8 _ rfl
  have c8 : Vc7.cell? ⟨w.heap.size + 1 + 1, 8, none⟩ = some (.int .i64 0) := Tc7.out.o.cell 8
  have z8 := Tc7.out.o.thaw 8
  have a8 : Vc7.cell? ⟨w.heap.size, 8, none⟩ = some (.int .i64 ha) := Tc7.out.a.cell 8
  have sc : w3.heap.size ≤ Vc8.heap.size ∧ Vc8.heap.size ≤ w3.heap.size := by rw [← hVc8, ← hVc7]; simp
  have K3 : Hid (∀ g, V.heap.size ≤ g → (((((((((Vc8.setCell ⟨w.heap.size + 1, 0, none⟩ (.slice h'.a0 h'.n0 h'.c0)).setCell ⟨w.heap.size + 1, 1, none⟩ (.slice h'.a1 h'.n1 h'.c1)).setCell ⟨w.heap.size + 1, 2, none⟩ (.bool h'.b)).setCell ⟨w.heap.size + 1, 3, none⟩ (.slice h'.a2 h'.n2 h'.c2)).setCell ⟨w.heap.size + 1, 4, none⟩ (.int .i64 ep)).setCell ⟨w.heap.size + 1, 5, none⟩ (.slice (some ⟨q, 0, none⟩) ln ln)).setCell ⟨w.heap.size + 1, 6, none⟩ (.int .i64 su)).setCell ⟨w.heap.size + 1, 7, none⟩ (.slice (some ⟨f, 0, none⟩) fn fn)).setCell ⟨w.heap.size + 1, 8, none⟩ (.int .i64 ha)).heap[g]? = w3.heap[g]?) := fun g hg => by
    rw [put9_same _ _ _ _ _ _ _ _ _ _ _ _ (by omega), ← hVc8, ← hVc7, Below.heap_setCell _ _ _ _ (by simp; omega), Below.heap_setCell _ _ _ _ (by simp; omega)]
  have sz : Hid ((((((((((Vc8.setCell ⟨w.heap.size + 1, 0, none⟩ (.slice h'.a0 h'.n0 h'.c0)).setCell ⟨w.heap.size + 1, 1, none⟩ (.slice h'.a1 h'.n1 h'.c1)).setCell ⟨w.heap.size + 1, 2, none⟩ (.bool h'.b)).setCell ⟨w.heap.size + 1, 3, none⟩ (.slice h'.a2 h'.n2 h'.c2)).setCell ⟨w.heap.size + 1, 4, none⟩ (.int .i64 ep)).setCell ⟨w.heap.size + 1, 5, none⟩ (.slice (some ⟨q, 0, none⟩) ln ln)).setCell ⟨w.heap.size + 1, 6, none⟩ (.int .i64 su)).setCell ⟨w.heap.size + 1, 7, none⟩ (.slice (some ⟨f, 0, none⟩) fn fn)).setCell ⟨w.heap.size + 1, 8, none⟩ (.int .i64 ha)).heap.size = w3.heap.size) := by
    unfold Hid
    have : (((((((((Vc8.setCell ⟨w.heap.size + 1, 0, none⟩ (.slice h'.a0 h'.n0 h'.c0)).setCell ⟨w.heap.size + 1, 1, none⟩ (.slice h'.a1 h'.n1 h'.c1)).setCell ⟨w.heap.size + 1, 2, none⟩ (.bool h'.b)).setCell ⟨w.heap.size + 1, 3, none⟩ (.slice h'.a2 h'.n2 h'.c2)).setCell ⟨w.heap.size + 1, 4, none⟩ (.int .i64 ep)).setCell ⟨w.heap.size + 1, 5, none⟩ (.slice (some ⟨q, 0, none⟩) ln ln)).setCell ⟨w.heap.size + 1, 6, none⟩ (.int .i64 su)).setCell ⟨w.heap.size + 1, 7, none⟩ (.slice (some ⟨f, 0, none⟩) fn fn)).setCell ⟨w.heap.size + 1, 8, none⟩ (.int .i64 ha)).heap.size = Vc8.heap.size := by simp
    omega
  have HOS : Hid (OwnS (((((((((Vc8.setCell ⟨w.heap.size + 1, 0, none⟩ (.slice h'.a0 h'.n0 h'.c0)).setCell ⟨w.heap.size + 1, 1, none⟩ (.slice h'.a1 h'.n1 h'.c1)).setCell ⟨w.heap.size + 1, 2, none⟩ (.bool h'.b)).setCell ⟨w.heap.size + 1, 3, none⟩ (.slice h'.a2 h'.n2 h'.c2)).setCell ⟨w.heap.size + 1, 4, none⟩ (.int .i64 ep)).setCell ⟨w.heap.size + 1, 5, none⟩ (.slice (some ⟨q, 0, none⟩) ln ln)).setCell ⟨w.heap.size + 1, 6, none⟩ (.int .i64 su)).setCell ⟨w.heap.size + 1, 7, none⟩ (.slice (some ⟨f, 0, none⟩) fn fn)).setCell ⟨w.heap.size + 1, 8, none⟩ (.int .i64 ha)) w.heap.size (((((((((Vc8.setCell ⟨w.heap.size + 1, 0, none⟩ (.slice h'.a0 h'.n0 h'.c0)).setCell ⟨w.heap.size + 1, 1, none⟩ (.slice h'.a1 h'.n1 h'.c1)).setCell ⟨w.heap.size + 1, 2, none⟩ (.bool h'.b)).setCell ⟨w.heap.size + 1, 3, none⟩ (.slice h'.a2 h'.n2 h'.c2)).setCell ⟨w.heap.size + 1, 4, none⟩ (.int .i64 ep)).setCell ⟨w.heap.size + 1, 5, none⟩ (.slice (some ⟨q, 0, none⟩) ln ln)).setCell ⟨w.heap.size + 1, 6, none⟩ (.int .i64 su)).setCell ⟨w.heap.size + 1, 7, none⟩ (.slice (some ⟨f, 0, none⟩) fn fn)).setCell ⟨w.heap.size + 1, 8, none⟩ (.int .i64 ha)).heap.size h' D (some ⟨q, 0, none⟩) ln ln L (some ⟨f, 0, none⟩) fn fn gs) := by
    have sz' := sz.out
    unfold Hid
    refine ⟨q, f, f + 1, by omega, by omega, by omega, by omega, Nat.le_refl _, ?_, ?_, ?_, ?_, ?_, ?_⟩
    · have := O5.out.same (w' := (((((((((Vc8.setCell ⟨w.heap.size + 1, 0, none⟩ (.slice h'.a0 h'.n0 h'.c0)).setCell ⟨w.heap.size + 1, 1, none⟩ (.slice h'.a1 h'.n1 h'.c1)).setCell ⟨w.heap.size + 1, 2, none⟩ (.bool h'.b)).setCell ⟨w.heap.size + 1, 3, none⟩ (.slice h'.a2 h'.n2 h'.c2)).setCell ⟨w.heap.size + 1, 4, none⟩ (.int .i64 ep)).setCell ⟨w.heap.size + 1, 5, none⟩ (.slice (some ⟨q, 0, none⟩) ln ln)).setCell ⟨w.heap.size + 1, 6, none⟩ (.int .i64 su)).setCell ⟨w.heap.size + 1, 7, none⟩ (.slice (some ⟨f, 0, none⟩) fn fn)).setCell ⟨w.heap.size + 1, 8, none⟩ (.int .i64 ha))) (by omega) fun g h1 _ => K3.out g h1
      exact this.from (by omega) (by omega) (by omega)
    · refine own_same Q5.out fun g e => ?_
      rw [ob_slice] at e
      have e' : q = g := by simpa [ob] using e
      exact K3.out g (by omega)
    · intro g e
      have e' : q = g := by simpa [ob] using e
      omega
    · refine own_same F5.out fun g e => ?_
      rw [ob_slice] at e
      have e' : f = g := by simpa [ob] using e
      exact K3.out g (by omega)
    · intro g e
      have e' : f = g := by simpa [ob] using e
      omega
    · rw [sz']
      exact P5.out.same (by omega) fun g h1 _ => K3.out g (by omega)
  obtain ⟨y0, y1, y2, y3, y4, y5, y6, y7, y8⟩ := box9 Tc8.out.o
  obtain ⟨r0, r1, r2, r3, r4, r5, r6, r7, r8⟩ := box9 Tc8.out.r
  have t0 := Tc8.out.r.thaw 0
  have t1 := Tc8.out.r.thaw 1
  have t2 := Tc8.out.r.thaw 2
  have t3 := Tc8.out.r.thaw 3
  have t4 := Tc8.out.r.thaw 4
  have t5 := Tc8.out.r.thaw 5
  have t6 := Tc8.out.r.thaw 6
  have t7 := Tc8.out.r.thaw 7
  have t8 := Tc8.out.r.thaw 8
  clear K3 O5 Q5 F5 P5 T4 Tc7
  go_wp2
  refine ret9 Tryz.results38 rfl rfl (put9_box Tc8.out.r _ _ _ _ _ _ _ _ _) ⟨⟨h', some ⟨q, 0, none⟩, ln, some ⟨f, 0, none⟩, fn, gs, rfl, HSM.out, HOS.out, PPW.out⟩, put9_below Tc8.out.bel (by omega) _ _ _ _ _ _ _ _ _⟩
theorem OwnS.own {w : World} {B E : Nat} {h : HD} {D : DD} {la : Option Addr} {ln lc : Nat} {L : List DR} {fa : Option Addr} {fn fc : Nat} {G : List FF} (o : OwnS w B E h D la ln lc L fa fn fc G) (p : PwF G) : OwnT w B E h D la ln lc L fa fn fc G := by
  obtain ⟨q, f, p', a1, a2, a3, a4, a5, b1, b2, b3, b4, b5, b6⟩ := o
  exact ⟨B, q, q, f, f, p', E, by omega, b1, ⟨b2, b3⟩, ⟨b4, b5⟩, b6, p⟩

end Go.Proofs.YtkpopingbbaomaaGreatDoor
