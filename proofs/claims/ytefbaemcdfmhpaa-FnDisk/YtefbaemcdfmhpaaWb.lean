/-
  The program's lists of writes by sector.
-/
import Derived.Test.YtefbaemcdfmhpaaSc
import Derived.Deep.RegionLaw
import Derived.Deep.AppendLies
namespace Go.Proofs.Ytefbaemcdfmhpaa
open Go Go.RowKit
attribute [local go_sem ↓] Go.wp_at_zero Go.wp_at_succ

/-- How many of the first k writes are to sector i. -/
def cnt (C : List PP) (i k : Nat) : Nat := (C.take k).countP fun p => decide (p.1 = (i : Int))
theorem cnt_zero (C : List PP) (i : Nat) : cnt C i 0 = 0 := by simp [cnt]
theorem cnt_yes {C : List PP} {i k : Nat} (hk : k < C.length) (h : (C.getD k dP).1 = (i : Int)) : cnt C i (k + 1) = cnt C i k + 1 := by
  unfold cnt; rw [take_snoc C k hk, List.countP_append, List.countP_singleton, if_pos (decide_eq_true h)]
theorem cnt_no {C : List PP} {i k : Nat} (hk : k < C.length) (h : ¬ (C.getD k dP).1 = (i : Int)) : cnt C i (k + 1) = cnt C i k := by
  unfold cnt; rw [take_snoc C k hk, List.countP_append, List.countP_singleton, if_neg (by rw [decide_eq_false h]; decide)]; rfl
theorem cnt_le (C : List PP) (i k : Nat) : cnt C i k ≤ k := Nat.le_trans List.countP_le_length (by simp; omega)
def outL (f : Nat → Option Addr × Nat) (C : List PP) (n k : Nat) : List Value := (List.range n).map fun i => .slice (f i).1 (cnt C i k) (f i).2
theorem outL_len (f : Nat → Option Addr × Nat) (C : List PP) (n k : Nat) : (outL f C n k).length = n := by simp [outL]
theorem outL_get {f : Nat → Option Addr × Nat} {C : List PP} {n k i : Nat} (h : i < n) : (outL f C n k)[i]? = some (.slice (f i).1 (cnt C i k) (f i).2) := by
  unfold outL; rw [List.getElem?_map, List.getElem?_range h]; rfl
theorem outL_step {f : Nat → Option Addr × Nat} {C : List PP} {n k j : Nat} (hk : k < C.length) (hj : j < n) (h : (C.getD k dP).1 = (j : Int)) (v : Option Addr × Nat) :
    (outL f C n k).set j (.slice v.1 (cnt C j k + 1) v.2) = outL (fun i => if i = j then v else f i) C n (k + 1) := by
  apply List.ext_getElem?
  intro i
  by_cases hi : i < n
  · rw [outL_get hi]
    by_cases e : i = j
    · subst e
      rw [List.getElem?_set_self (by rw [outL_len]; exact hi), if_pos rfl, cnt_yes hk h]
    · rw [List.getElem?_set_ne (fun h => e h.symm), outL_get hi, if_neg e, cnt_no hk (by rw [h]; omega)]
  · rw [List.getElem?_eq_none (by simp [outL_len]; omega), List.getElem?_eq_none (by simp [outL_len]; omega)]
theorem info23 : (Try.prog.info? 23).map (fun i => (i.zero, i.size, i.bytes)) = some (some (.slice none 0 0), 1, 24) := by kernel_rfl
/-- The lists by sector, as the program keeps them. -/
structure Lists (w : World) (B go n : Nat) (f : Nat → Option Addr × Nat) (C : List PP) (k : Nat) : Prop where
  outer : w.ownsRow B 23 1 (.slice (some ⟨go, 0, none⟩) n n) n (outL f C n k)
  inner : ∀ i, i < n → ∃ xs, w.ownsRow B 9 1 (.slice (f i).1 (cnt C i k) (f i).2) (cnt C i k) xs
  apart : ∀ i, i < n → ∀ g, ob (f i).1 = some g → go < g ∧ ∀ i', i' < n → i' ≠ i → ob (f i').1 ≠ some g
theorem Lists.next {w w2 : World} {B go n k j g cp : Nat} {f : Nat → Option Addr × Nat} {C : List PP} {xs : List Value} {o1 o2 : Obj} (L : Lists w B go n f C k) (hk : k < C.length) (hj : j < n) (h : (C.getD k dP).1 = (j : Int))
    (ho : w2.ownsRow B 9 1 (.slice (some ⟨g, 0, none⟩) (cnt C j k + 1) cp) (cnt C j k + 1) xs) (hg : ((w.alloc o1).alloc o2).grownBy w2 (Value.slice (f j).1 (cnt C j k) (f j).2).ownBlock) (hat : (Value.slice (f j).1 (cnt C j k) (f j).2).ownBlock = some g ∨ g = w.heap.size + 1 + 1) (hgo : go < w.heap.size) :
    Lists (w2.setCell ⟨go, j, none⟩ (.slice (some ⟨g, 0, none⟩) (cnt C j k + 1) cp)) B go n (fun i => if i = j then (some ⟨g, 0, none⟩, cp) else f i) C (k + 1) := by
  have hob : ∀ x, (Value.slice (f j).1 (cnt C j k) (f j).2).ownBlock = some x → ob (f j).1 = some x := fun x e => by rw [ob_slice] at e; exact e
  have hgg : go < g := by rcases hat with h | h; exact (L.apart j hj g (hob g h)).1; omega
  have same : ∀ x, x < w.heap.size → ob (f j).1 ≠ some x → w2.heap[x]? = w.heap[x]? := fun x h1 h2 =>
    (hg.block x (by simp; omega) (fun e => h2 (hob x e.symm))).trans ((Below.heap_alloc _ _ _ (by simp; omega)).trans (Below.heap_alloc _ _ _ h1))
  have ho2 : w2.ownsRow B 23 1 (.slice (some ⟨go, 0, none⟩) n n) n (outL f C n k) := own_same L.outer fun x e => by
    have e' : go = x := Option.some.inj e
    subst e'
    exact same go hgo (fun e => absurd (L.apart j hj go e).1 (Nat.lt_irrefl _))
  refine ⟨?_, fun i hi => ?_, fun i hi x hx => ?_⟩
  · have := (ho2.stored j (.slice (some ⟨g, 0, none⟩) (cnt C j k + 1) cp)).1
    rw [outL_step hk hj h (some ⟨g, 0, none⟩, cp)] at this
    exact this
  · by_cases e : i = j
    · subst e
      rw [if_pos rfl, cnt_yes hk h]
      exact ⟨xs, own_same ho fun x e => Below.heap_setCell _ _ _ _ (by have e' : g = x := Option.some.inj e; show x ≠ go; omega)⟩
    · rw [if_neg e, cnt_no hk (by rw [h]; omega)]
      obtain ⟨ys, hy⟩ := L.inner i hi
      refine ⟨ys, own_same hy fun x ex => ?_⟩
      have hl := hy.lt x ex
      rw [ob_slice] at ex
      have ha := L.apart i hi x ex
      rw [Below.heap_setCell _ _ _ _ (show x ≠ go by omega)]
      exact same x hl.2 (ha.2 j hj (fun e' => e e'.symm))
  · have fresh : ∀ i', i' < n → i' ≠ j → ob (f i').1 ≠ some g := fun i' hi' hne e => by
      rcases hat with h | h
      · exact (L.apart j hj g (hob g h)).2 i' hi' hne e
      · obtain ⟨ys, hy⟩ := L.inner i' hi'
        have := (hy.lt g (by rw [ob_slice]; exact e)).2
        omega
    by_cases e : i = j
    · subst e
      rw [if_pos rfl] at hx
      have hx' : g = x := Option.some.inj hx
      subst hx'
      refine ⟨hgg, fun i' hi' hne => ?_⟩
      rw [if_neg hne]
      exact fresh i' hi' hne
    · rw [if_neg e] at hx
      have ha := L.apart i hi x hx
      refine ⟨ha.1, fun i' hi' hne => ?_⟩
      by_cases e2 : i' = j
      · subst e2
        rw [if_pos rfl]
        intro h'
        have h'' : g = x := Option.some.inj h'
        subst h''
        exact fresh i hi e hx
      · rw [if_neg e2]; exact ha.2 i' hi' hne
theorem outL_start (C : List PP) (n : Nat) : outL (fun _ => (none, 0)) C n 0 = (madeCells (Value.slice none 0 0).cells (n * 1)).toList := by
  rw [partV_zero (Value.slice none 0 0) rfl [] n]
  apply List.ext_getElem?
  intro i
  by_cases hi : i < n
  · rw [outL_get hi, cnt_zero]; simp [partV, hi]
  · rw [List.getElem?_eq_none (by rw [outL_len]; omega), List.getElem?_eq_none (by simp [partV]; omega)]
theorem wb_facts {wr Y w2 : World} {B go n k j m fc : Nat} {fa : Option Addr} {f : Nat → Option Addr × Nat} {C : List PP} {x : Int} {s : ByteArray} {o2 : Obj} (HB : Box Y wr.heap.size 42 #[.int .i64 x, .string s]) (L : Lists wr B go n f C k) (hY : wr.alloc (.cells #[.int .i64 j, .string s] 42) = Y) (hj : j < n) (hf : f j = (fa, fc)) (hm : m = cnt C j k)
    (hg : (Y.alloc o2).grownBy w2 (Value.slice fa m fc).ownBlock) (hgo : go < wr.heap.size) :
    w2.cell? ⟨wr.heap.size, 0, none⟩ = some (.int .i64 x) ∧ w2.cell? ⟨go, j, none⟩ = some (.slice fa m fc) ∧ w2.frozen? ⟨go, j, none⟩ = false := by
  have hlt : ∀ x, (Value.slice fa m fc).ownBlock = some x → go < x ∧ x < wr.heap.size := fun x e => by
    rw [ob_slice] at e
    have e' : ob (f j).1 = some x := by rw [hf]; exact e
    obtain ⟨xs, hi⟩ := L.inner j hj
    exact ⟨(L.apart j hj x e').1, (hi.lt x (by rw [ob_slice]; exact e')).2⟩
  have hs : Y.heap.size = wr.heap.size + 1 := by rw [← hY]; simp
  have k1 : w2.heap[wr.heap.size]? = Y.heap[wr.heap.size]? := (hg.block _ (by simp; omega) (fun e => by have := hlt _ e.symm; omega)).trans (Below.heap_alloc _ _ _ (by omega))
  have k2 : w2.heap[go]? = wr.heap[go]? := by
    refine (hg.block _ (by simp; omega) (fun e => by have := hlt _ e.symm; omega)).trans ((Below.heap_alloc _ _ _ (by omega)).trans ?_)
    rw [← hY]; exact Below.heap_alloc _ _ _ hgo
  have ho : w2.ownsRow B 23 1 (.slice (some ⟨go, 0, none⟩) n n) n (outL f C n k) := own_same L.outer fun x e => by
    have e' : go = x := Option.some.inj e
    subst e'; exact k2
  refine ⟨(World.cell?_of_block (a := ⟨wr.heap.size, 0, none⟩) k1).trans (HB.cell 0), ?_, ho.frozenAt j⟩
  rw [ho.cellAt j (by omega), outL_get hj, hf, ← hm]

set_option maxHeartbeats 8000000 in
theorem c_writes (a0 : Option Addr) (n0 c0 : Nat) (a1 : Option Addr) (n1 c1 : Nat) (b : Bool) (a2 : Option Addr) (n2 c2 : Nat) (C : List PP) (w : World)
    (r1 : RdP w a1 n1 C) (hn0 : n0 ≤ 100) (hn1 : n1 ≤ 500) (hg : ∀ p ∈ C, 0 ≤ p.1 ∧ p.1 < n0) :
    Calls Try.prog 54 #[.agg #[.slice a0 n0 c0, .slice a1 n1 c1, .bool b, .slice a2 n2 c2]] w fun e w' => (∃ go f, e = .returned (.slice (some ⟨go, 0, none⟩) n0 n0) ∧ Lists w' w.heap.size go n0 f C n1) ∧ Below w.heap.size w w' := by
  have l1 := r1.1
  obtain ⟨i23, hi23, hz230, hz231, hz232⟩ := info_parts info23
  obtain ⟨i9, hi9, hz90, hz91, hz92⟩ := info_parts infoS
  have R1 : Hid (RdP w a1 n1 C) := r1
  have HG : Hid (∀ p ∈ C, 0 ≤ p.1 ∧ p.1 < n0) := hg
  have HB : Hid (Below w.heap.size w (w.alloc (.cells #[.slice a0 n0 c0, .slice a1 n1 c1, .bool b, .slice a2 n2 c2] 27))) := (Below.refl _ _).alloc (Nat.le_refl _) _
  have BX : Hid (Box (w.alloc (.cells #[.slice a0 n0 c0, .slice a1 n1 c1, .bool b, .slice a2 n2 c2] 27)) w.heap.size 27 #[.slice a0 n0 c0, .slice a1 n1 c1, .bool b, .slice a2 n2 c2]) := Box.new _ _ _
  clear r1 hg
  obtain ⟨V, hV⟩ : ∃ V, w.alloc (.cells #[.slice a0 n0 c0, .slice a1 n1 c1, .bool b, .slice a2 n2 c2] 27) = V := ⟨_, rfl⟩
  rw [hV] at HB BX
  obtain ⟨v0, v1, v2, v3⟩ := box4 BX.out
  have lV := BX.out.lt
  go_enter Try.func54, Try.ntmps54
  go_wp2_with (first
    | (at_make; refine wpList_make_full _ rfl (.tmp 8) (.tmp 8) 72 rfl w.heap.size 23 i23 (.slice none 0 0) 1 Try.underlying72 hi23 hz230 hz231 .i64 .i64 _ _ n0 rfl rfl rfl rfl (by rw [hz232]; omega) (by unfold maxLen; omega) HB.out.size ?_
       intro w1 hown hgrow
       have hb1 : Below w.heap.size w w1 := HB.out.grown hgrow HB.out.size (fun k h => by cases h)
       have x1 := BX.out.grown hgrow (by simp)
       have L1 : Lists w1 w.heap.size V.heap.size n0 (fun _ => (none, 0)) C 0 := ⟨by rw [outL_start]; exact hown, fun i _ => ⟨[], by rw [cnt_zero]; exact World.ownsRow_nil w1 _ _ _⟩, fun i _ g e => by cases e⟩
       have HL1 : Hid (Lists w1 w.heap.size V.heap.size n0 (fun _ => (none, 0)) C 0) := L1
       have HB1 : Hid (Below w.heap.size w w1) := hb1
       have HVL : Hid (V.heap.size < w1.heap.size) := (hown.lt V.heap.size rfl).2
       clear v0 v1 v2 v3 hown hgrow hb1 L1
       obtain ⟨v0, v1, v2, v3⟩ := box4 x1
       clear x1))
  go_loopw [13] (fun i wr => ∃ (k : Nat) (f : Nat → Option Addr × Nat), k ≤ n1 ∧ i = .int .i64 k ∧ Lists wr w.heap.size V.heap.size n0 f C k ∧ Below w.heap.size w wr ∧ V.heap.size < wr.heap.size) (fun i _ => n1 - (intOf i).toNat)
  case atStart => exact ⟨0, _, by omega, rfl, HL1.out, HB1.out, HVL.out⟩
  case round =>
    obtain ⟨k, f, hk, rfl, L, hb, hvl⟩ := hrel
    by_cases hlt : k < n1
    · obtain ⟨bb, off, rfl, hbl, hc⟩ := R1.out.2 (by omega)
      obtain ⟨⟨xa, xt⟩, hx⟩ : ∃ x, x = C.getD k dP := ⟨_, rfl⟩
      obtain ⟨d0, d1⟩ := hc k hlt
      rw [← hx] at d0 d1
      have hgk : 0 ≤ xa ∧ xa < (n0 : Int) := by
        have := HG.out _ (getD_mem C k (by omega))
        rw [← hx] at this
        exact this
      obtain ⟨j, rfl⟩ : ∃ j : Nat, xa = (j : Int) := ⟨xa.toNat, by omega⟩
      have hj : j < n0 := by omega
      have HXJ : Hid ((C.getD k dP).1 = (j : Int)) := by unfold Hid; rw [← hx]
      have e0 : wr.cell? ⟨bb, off + k * 2, none⟩ = some (.int .i64 j) := (hb.cell (p := ⟨bb, off + k * 2, none⟩) hbl).trans d0
      have e1 : wr.cell? ⟨bb, off + k * 2 + 1, none⟩ = some (.string xt) := (hb.cell (p := ⟨bb, off + k * 2 + 1, none⟩) hbl).trans d1
      have hbl2 : bb < wr.heap.size := Nat.lt_of_lt_of_le hbl hb.size
      obtain ⟨xs, hin⟩ := L.inner j hj
      have hcell : wr.cell? ⟨V.heap.size, j, none⟩ = some (.slice (f j).1 (cnt C j k) (f j).2) := by rw [L.outer.cellAt j (by omega), outL_get hj]
      have hcl := cnt_le C j k
      have hwh : w.heap.size ≤ wr.heap.size := hb.size
      have HLL : Hid (Lists wr w.heap.size V.heap.size n0 f C k) := L
      have HIN : Hid (wr.ownsRow w.heap.size 9 1 (.slice (f j).1 (cnt C j k) (f j).2) (cnt C j k) xs) := hin
      have HBB : Hid (Below w.heap.size w wr) := hb
      obtain ⟨fa, fc, hf⟩ : ∃ fa fc, f j = (fa, fc) := ⟨_, _, rfl⟩
      rw [hf] at hcell
      obtain ⟨m, hm⟩ : ∃ m, m = cnt C j k := ⟨_, rfl⟩
      rw [← hm] at hcell hcl
      have HM : Hid (m = cnt C j k) := hm
      have HF : Hid (f j = (fa, fc)) := hf
      have HI2 : Hid (wr.ownsRow w.heap.size 9 1 (.slice fa m fc) m xs) := by have := hin; rw [hf, ← hm] at this; exact this
      clear hc hx d0 d1 hb L hin hm hf hgk
      obtain ⟨Y, hY⟩ : ∃ Y, wr.alloc (.cells #[.int .i64 j, .string xt] 42) = Y := ⟨_, rfl⟩
      have by0 := Box.new wr #[.int .i64 j, .string xt] 42
      rw [hY] at by0
      have s0 : Y.cell? ⟨wr.heap.size, 0, none⟩ = some (.int .i64 j) := by0.cell 0
      have s1 : Y.cell? ⟨wr.heap.size, 1, none⟩ = some (.string xt) := by0.cell 1
      have hsz : Hid (Y.heap.size = wr.heap.size + 1) := by unfold Hid; rw [← hY]; simp
      have sl := by0.lt
      have hcellY : Y.cell? ⟨V.heap.size, j, none⟩ = some (.slice fa m fc) := by rw [← hY]; exact (World.cell?_of_block (Below.heap_alloc _ _ _ hvl)).trans hcell
      have svl : V.heap.size < Y.heap.size := by have := hsz.out; omega
      have HI3 : Hid (Y.ownsRow w.heap.size 9 1 (.slice fa m fc) m xs) := by have := HI2.out.alloc (.cells #[.int .i64 j, .string xt] 42); rwa [hY] at this
      have HBY : Hid (Box Y wr.heap.size 42 #[.int .i64 j, .string xt]) := by0
      have g1 : (0 : Int) ≤ (j : Int) := by omega
      have g2 : (j : Int) < (n0 : Int) := by omega
      have swy : w.heap.size ≤ Y.heap.size := by have := hsz.out; omega
      clear by0 hcell
      go_wp2_with fail
      go_region_law (first
        | (refine step_append_lies _ (by rfl) (.tmp 24) (.tmp 27) 23 (by rfl) w.heap.size 9 i9 (.string ⟨#[]⟩) 1 16 Try.underlying23 hi9 hz90 hz91 hz92 rfl (by omega) (.slice fa m fc) m xs (by rfl) (by exact HI3.out.alloc _) ⟨Y.heap.size, 0, none⟩ 1 1 [.string xt] (by rfl) (by rfl) (by exact cell_one_new Y _ _) (by intro u hu; simp at hu; subst hu; rfl) (by omega) (by unfold maxLen; omega) (by omega) (by simp; omega) (Y.heap.size + 1) (by simp) ?_
           intro g cp w2 hown2 hgr2 hat2 hlt2
           have hgr4 : (Y.alloc (.cells #[.string xt] 9)).grownBy w2 (Value.slice fa m fc).ownBlock := ⟨hgr2.os, hgr2.tape, hgr2.output, hgr2.size, hgr2.block⟩
           obtain ⟨q0, q1, q2⟩ := wb_facts HBY.out HLL.out hY hj HF.out HM.out hgr4 hvl))
      all_goals
        have hgr3 : ((wr.alloc (.cells #[.int .i64 j, .string xt] 42)).alloc (.cells #[.string xt] 9)).grownBy w2 (Value.slice (f j).1 (cnt C j k) (f j).2).ownBlock := by
          rw [hY, HF.out, ← HM.out]
          exact hgr4
        have hsz' := hsz.out
        have ho3 : w2.ownsRow w.heap.size 9 1 (.slice (some ⟨g, 0, none⟩) (cnt C j k + 1) cp) (cnt C j k + 1) (xs ++ [.string xt]) := by rw [← HM.out]; exact hown2
        have hat3 : (Value.slice (f j).1 (cnt C j k) (f j).2).ownBlock = some g ∨ g = wr.heap.size + 1 + 1 := by
          rw [HF.out, ← HM.out]
          rcases hat2 with h | h
          · exact .inl h
          · exact .inr (by omega)
        have LN : Hid (Lists (w2.setCell ⟨V.heap.size, j, none⟩ (.slice (some ⟨g, 0, none⟩) (m + 1) cp)) w.heap.size V.heap.size n0 (fun i => if i = j then (some ⟨g, 0, none⟩, cp) else f i) C (k + 1)) := by
          have := HLL.out.next (by omega) hj HXJ.out ho3 hgr3 hat3 hvl
          rw [← HM.out] at this
          exact this
        have hs2 : wr.heap.size + 1 + 1 ≤ w2.heap.size := by have := hgr3.size; simpa using this
        have BN : Hid (Below w.heap.size w (w2.setCell ⟨V.heap.size, j, none⟩ (.slice (some ⟨g, 0, none⟩) (m + 1) cp))) := (((HBB.out.alloc hwh _).alloc (by simp; omega) _).grown hgr3 (by simp; omega) (fun x e => ((HLL.out.inner j hj).elim fun ys hy => (hy.lt x e).1))).setCell (by show w.heap.size ≤ V.heap.size; omega) _
        have SN : Hid (V.heap.size < (w2.setCell ⟨V.heap.size, j, none⟩ (.slice (some ⟨g, 0, none⟩) (m + 1) cp)).heap.size) := by unfold Hid; simp; omega
        clear hgr2 hgr4 hgr3 hown2 ho3 hat2 hat3 hlt2 q0 q1 q2 hs2
        go_wp2
        go_roundw
        case rel => exact ⟨k + 1, _, by omega, by go_num, ⟨LN.out.outer, LN.out.inner, LN.out.apart⟩, ⟨BN.out.os, BN.out.tape, BN.out.output, BN.out.size, BN.out.block⟩, SN.out⟩
        case measure => simp [intOf]; omega
    · have e : n1 = k := by omega
      subst e
      go_wp2
      go_ret
      exact ⟨⟨_, f, rfl, L⟩, hb⟩
end Go.Proofs.Ytefbaemcdfmhpaa
