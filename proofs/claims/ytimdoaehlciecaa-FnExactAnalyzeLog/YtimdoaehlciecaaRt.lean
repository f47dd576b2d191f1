/-
  Records of the log: what a checkpoint tells, the specification's way.
-/
import Derived.Test.YtimdoaehlciecaaRl
import Derived.Deep.QuietTactic
import Derived.Deep.RegionHeld3
import Derived.Deep.AppendLies
import Derived.Deep.RegionLawGrows
namespace Go.Proofs.Ytimdoaehlciecaa
open Go Go.RowKit
attribute [local go_sem ↓] Go.wp_at_zero Go.wp_at_succ


theorem infoT : (Try.prog.info? 66).map (fun i => (i.zero, i.size, i.bytes)) = some (some (Value.agg #[.int .i64 0, .int .i64 0]), 2, 16) := by kernel_rfl
/-- The two lists, apart from each other and from the list of them. -/
structure TwoL (w W : World) (L : Nat) (l0 l1 : Value) (A0 A1 : List (Int × Int)) : Prop where
  below : Below w.heap.size w W
  big : w.heap.size ≤ L
  box : Box W L 63 #[l0, l1]
  own0 : W.ownsRow w.heap.size 66 2 l0 A0.length (cells2 (A0))
  own1 : W.ownsRow w.heap.size 66 2 l1 A1.length (cells2 (A1))
  far0 : ∀ g, l0.ownBlock = some g → g ≠ L ∧ g < W.heap.size
  far1 : ∀ g, l1.ownBlock = some g → g ≠ L ∧ g < W.heap.size
  apart : ∀ g, l0.ownBlock = some g → l1.ownBlock = some g → False
theorem TwoL.drew {w W : World} {L : Nat} {l0 l1 : Value} {A0 A1 : List (Int × Int)} (h : TwoL w W L l0 l1 A0 A1) (q : Nat) : TwoL w (W.drewN q) L l0 l1 A0 A1 :=
  ⟨below_drewN h.below q, h.big, h.box.drewN q, h.own0, h.own1, h.far0, h.far1, h.apart⟩
theorem TwoL.cells {w W : World} {L : Nat} {l0 l1 : Value} {A0 A1 : List (Int × Int)} (h : TwoL w W L l0 l1 A0 A1) : W.cell? ⟨L, 0, none⟩ = some l0 ∧ W.cell? ⟨L, 1, none⟩ = some l1 ∧ L < W.heap.size := ⟨h.box.cell 0, h.box.cell 1, h.box.lt⟩
theorem two_start (w : World) : TwoL w (((w.alloc (.cells #[] 66)).alloc (.cells #[] 66)).alloc (.cells #[.slice (some ⟨w.heap.size, 0, none⟩) 0 0, .slice (some ⟨w.heap.size + 1, 0, none⟩) 0 0] 63)) (w.heap.size + 1 + 1) (.slice (some ⟨w.heap.size, 0, none⟩) 0 0) (.slice (some ⟨w.heap.size + 1, 0, none⟩) 0 0) [] [] := by
  refine ⟨(((Below.refl _ _).alloc (Nat.le_refl _) _).alloc (by simp) _).alloc (by simp; omega) _, by omega, ?_, ?_, ?_, ?_, ?_, ?_⟩
  · have := Box.new ((w.alloc (.cells #[] 66)).alloc (.cells #[] 66)) #[.slice (some ⟨w.heap.size, 0, none⟩) 0 0, .slice (some ⟨w.heap.size + 1, 0, none⟩) 0 0] 63
    simpa using this
  · have h := World.ownsRow_lit (base := w.heap.size) (e := 66) (size := 2) w #[] 0 (Nat.le_refl _) (Nat.zero_le _) rfl
    exact own_below (own_below h ((Below.refl _ _).alloc (Nat.le_refl _) _)) ((Below.refl _ _).alloc (Nat.le_refl _) _)
  · have h := World.ownsRow_lit (base := w.heap.size) (e := 66) (size := 2) (w.alloc (.cells #[] 66)) #[] 0 (by simp) (Nat.zero_le _) rfl
    rw [show (w.alloc (.cells #[] 66)).heap.size = w.heap.size + 1 by simp] at h
    exact own_below h ((Below.refl _ _).alloc (Nat.le_refl _) _)
  · intro g h; cases h; simp; omega
  · intro g h; cases h; simp
  · intro g h h'; cases h; simp [Value.ownBlock] at h'
/-- How far the reading is, k lists being read. -/
def StL (zs : List Int) (k p : Nat) (A0 A1 : List (Int × Int)) : Prop :=
  p ≤ zs.length ∧ (if k = 0 then p = 0 ∧ A0 = [] ∧ A1 = [] else if k = 1 then rc1 zs = some (A0, zs.drop p) ∧ A1 = [] else ∃ r, rc1 zs = some (A0, r) ∧ rc1 r = some (A1, zs.drop p))
theorem two_box0 {w W : World} {L : Nat} {l0 l1 : Value} {A0 A1 : List (Int × Int)} (h : TwoL w W L l0 l1 A0 A1) {w2 : World} {o : Obj} (hg2 : (W.alloc o).drew.grownBy w2 l0.ownBlock) : Box w2 L 63 #[l0, l1] := by
  have hL := h.box.lt
  have : w2.heap[L]? = W.heap[L]? := by
    rw [hg2.block L (by simp; omega) (fun e => (h.far0 L e.symm).1 rfl)]
    exact Below.heap_alloc W o L hL
  exact this.trans h.box
theorem two_box1 {w W : World} {L : Nat} {l0 l1 : Value} {A0 A1 : List (Int × Int)} (h : TwoL w W L l0 l1 A0 A1) {w2 : World} {o : Obj} (hg2 : (W.alloc o).drew.grownBy w2 l1.ownBlock) : Box w2 L 63 #[l0, l1] := by
  have hL := h.box.lt
  have : w2.heap[L]? = W.heap[L]? := by
    rw [hg2.block L (by simp; omega) (fun e => (h.far1 L e.symm).1 rfl)]
    exact Below.heap_alloc W o L hL
  exact this.trans h.box
theorem drop_cons {zs : List Int} {p : Nat} (h : p < zs.length) : zs.drop p = zs.getD p 0 :: zs.drop (p + 1) := by
  rw [List.drop_eq_getElem_cons h, List.getD_eq_getElem?_getD, List.getElem?_eq_getElem h]
  rfl
theorem rc1_lo {zs : List Int} {p N : Nat} (h : p < zs.length) (hN : (N : Int) = zs.getD p 0) (hs : zs.length < p + 1 + 2 * N) : rc1 (zs.drop p) = none := by
  rw [drop_cons h, ← hN]
  simp only [rc1, Int.toNat_natCast]
  rw [if_pos (by rw [List.length_drop]; omega)]
theorem rc1_hi {zs : List Int} {p N : Nat} (h : p < zs.length) (hN : (N : Int) = zs.getD p 0) (hs : p + 1 + 2 * N ≤ zs.length) : rc1 (zs.drop p) = some (prs N (zs.drop (p + 1)), zs.drop (p + 1 + 2 * N)) := by
  rw [drop_cons h, ← hN]
  simp only [rc1, Int.toNat_natCast]
  rw [if_neg (by rw [List.length_drop]; omega), List.drop_drop]
theorem stl_none {zs : List Int} {k p : Nat} {A0 A1 : List (Int × Int)} (hk : k < 2) (h : StL zs k p A0 A1) (hn : rc1 (zs.drop p) = none) : rc2 zs = none := by
  obtain ⟨_, h⟩ := h
  by_cases h0 : k = 0
  · rw [if_pos h0] at h
    obtain ⟨rfl, _, _⟩ := h
    exact rc2_none1 (by simpa using hn)
  · rw [if_neg h0, if_pos (by omega)] at h
    exact rc2_none2 h.1 hn
theorem stl_done {zs : List Int} {p : Nat} {A0 A1 : List (Int × Int)} (h : StL zs 2 p A0 A1) : (p = zs.length → rc2 zs = some (A0, A1)) ∧ (p ≠ zs.length → rc2 zs = none) := by
  obtain ⟨hp, h⟩ := h
  rw [if_neg (by omega), if_neg (by omega)] at h
  obtain ⟨r, h1, h2⟩ := h
  refine ⟨fun e => ?_, fun e => ?_⟩
  · rw [List.drop_of_length_le (by omega)] at h2
    exact rc2_some h1 h2
  · exact rc2_none3 h1 h2 (fun q => by have := congrArg List.length q; rw [List.length_drop] at this; simp at this; omega)
theorem stl_next0 {zs : List Int} {p N : Nat} {A0 A1 : List (Int × Int)} (h : StL zs 0 p A0 A1) (hp : p < zs.length) (hN : (N : Int) = zs.getD p 0) (hs : p + 1 + 2 * N ≤ zs.length) : StL zs (0 + 1) (p + 1 + 2 * N) (prs N (zs.drop (p + 1))) [] := by
  obtain ⟨_, h⟩ := h
  rw [if_pos rfl] at h
  obtain ⟨rfl, _, _⟩ := h
  refine ⟨hs, ?_⟩
  rw [if_neg (by omega), if_pos rfl]
  exact ⟨by have := rc1_hi hp hN hs; simpa using this, rfl⟩
theorem stl_next1 {zs : List Int} {p N : Nat} {A0 A1 : List (Int × Int)} (h : StL zs 1 p A0 A1) (hp : p < zs.length) (hN : (N : Int) = zs.getD p 0) (hs : p + 1 + 2 * N ≤ zs.length) : StL zs (1 + 1) (p + 1 + 2 * N) A0 (prs N (zs.drop (p + 1))) := by
  obtain ⟨_, h⟩ := h
  rw [if_neg (by omega), if_pos rfl] at h
  refine ⟨hs, ?_⟩
  rw [if_neg (by omega), if_neg (by omega)]
  exact ⟨_, h.1, rc1_hi hp hN hs⟩

theorem TwoL.push0 {w W : World} {L : Nat} {l0 l1 : Value} {A0 A1 : List (Int × Int)} (h : TwoL w W L l0 l1 A0 A1) {x y : Int} {g2 c2 : Nat} {w2 : World} {o : Obj} (o2 : w2.ownsRow w.heap.size 66 2 (.slice (some ⟨g2, 0, none⟩) (A0.length + 1) c2) (A0.length + 1) (cells2 A0 ++ [.int .i64 x, .int .i64 y])) (hg2 : (W.alloc o).drew.grownBy w2 l0.ownBlock) (ha2 : l0.ownBlock = some g2 ∨ g2 = (W.alloc o).drew.heap.size) (hl2 : g2 < w2.heap.size) :
    TwoL w (w2.setCell ⟨L, 0, none⟩ (.slice (some ⟨g2, 0, none⟩) (A0.length + 1) c2)) L (.slice (some ⟨g2, 0, none⟩) (A0.length + 1) c2) l1 (A0 ++ [(x, y)]) (A1) := by
  have hs : (W.alloc o).drew.heap.size = W.heap.size + 1 := by simp
  have hL := h.box.lt
  have hbs := h.below.size
  have gL : g2 ≠ L := by
    rcases ha2 with e | e
    · exact (h.far0 g2 e).1
    · omega
  have hsz : W.heap.size + 1 ≤ w2.heap.size := by rw [← hs]; exact hg2.size
  have same : ∀ k, k < W.heap.size → l0.ownBlock ≠ some k → w2.heap[k]? = W.heap[k]? := fun k hk hne => by
    rw [hg2.block k (by omega) (fun e => hne e.symm)]
    exact Below.heap_alloc W o k hk
  have bx : Box w2 L 63 #[l0, l1] := (same L hL (fun e => (h.far0 L e).1 rfl)).trans h.box
  refine ⟨?_, h.big, ?_, ?_, ?_, ?_, ?_, ?_⟩
  · refine Below.setCell ?_ h.big _
    exact ((h.below.alloc hbs _).drew).grown hg2 (by omega) (fun k e => (h.own0.lt k e).1)
  · have := bx.set 0 (.slice (some ⟨g2, 0, none⟩) (A0.length + 1) c2)
    simpa using this
  · rw [cells2_append, List.length_append]
    exact own_same o2 fun g e => Below.heap_setCell _ _ _ _ (by cases e; exact gL)
  · exact own_same h.own1 fun g e => (Below.heap_setCell _ _ _ _ (h.far1 g e).1).trans (same g (h.far1 g e).2 (fun e0 => h.apart g e0 e))
  · intro g e; cases e; exact ⟨gL, by simpa using hl2⟩
  · intro g e; exact ⟨(h.far1 g e).1, by have := (h.far1 g e).2; simp; omega⟩
  · intro g e e'
    cases e
    rcases ha2 with q | q
    · exact h.apart g2 q e'
    · have := (h.far1 g2 e').2; omega

theorem TwoL.push1 {w W : World} {L : Nat} {l0 l1 : Value} {A0 A1 : List (Int × Int)} (h : TwoL w W L l0 l1 A0 A1) {x y : Int} {g2 c2 : Nat} {w2 : World} {o : Obj} (o2 : w2.ownsRow w.heap.size 66 2 (.slice (some ⟨g2, 0, none⟩) (A1.length + 1) c2) (A1.length + 1) (cells2 A1 ++ [.int .i64 x, .int .i64 y])) (hg2 : (W.alloc o).drew.grownBy w2 l1.ownBlock) (ha2 : l1.ownBlock = some g2 ∨ g2 = (W.alloc o).drew.heap.size) (hl2 : g2 < w2.heap.size) :
    TwoL w (w2.setCell ⟨L, 1, none⟩ (.slice (some ⟨g2, 0, none⟩) (A1.length + 1) c2)) L l0 (.slice (some ⟨g2, 0, none⟩) (A1.length + 1) c2) (A0) (A1 ++ [(x, y)]) := by
  have hs : (W.alloc o).drew.heap.size = W.heap.size + 1 := by simp
  have hL := h.box.lt
  have hbs := h.below.size
  have gL : g2 ≠ L := by
    rcases ha2 with e | e
    · exact (h.far1 g2 e).1
    · omega
  have hsz : W.heap.size + 1 ≤ w2.heap.size := by rw [← hs]; exact hg2.size
  have same : ∀ k, k < W.heap.size → l1.ownBlock ≠ some k → w2.heap[k]? = W.heap[k]? := fun k hk hne => by
    rw [hg2.block k (by omega) (fun e => hne e.symm)]
    exact Below.heap_alloc W o k hk
  have bx : Box w2 L 63 #[l0, l1] := (same L hL (fun e => (h.far1 L e).1 rfl)).trans h.box
  refine ⟨?_, h.big, ?_, ?_, ?_, ?_, ?_, ?_⟩
  · refine Below.setCell ?_ h.big _
    exact ((h.below.alloc hbs _).drew).grown hg2 (by omega) (fun k e => (h.own1.lt k e).1)
  · have := bx.set 1 (.slice (some ⟨g2, 0, none⟩) (A1.length + 1) c2)
    simpa using this
  · exact own_same h.own0 fun g e => (Below.heap_setCell _ _ _ _ (h.far0 g e).1).trans (same g (h.far0 g e).2 (fun e0 => h.apart g e e0))
  · rw [cells2_append, List.length_append]
    exact own_same o2 fun g e => Below.heap_setCell _ _ _ _ (by cases e; exact gL)
  · intro g e; exact ⟨(h.far0 g e).1, by have := (h.far0 g e).2; simp; omega⟩
  · intro g e; cases e; exact ⟨gL, by simpa using hl2⟩
  · intro g e' e
    cases e
    rcases ha2 with q | q
    · exact h.apart g2 e' q
    · have := (h.far0 g2 e').2; omega
set_option maxRecDepth 100000 in
set_option maxHeartbeats 4000000 in
theorem c_lrc (zs : List Int) (w : World) (hz : ∀ z ∈ zs, 0 ≤ z ∧ z < 256) (hn : zs.length ≤ 1048576) :
    Calls Try.prog 38 #[.string (strOfNums zs)] w fun e w' => ∃ l0 l1 A0 A1 L, e = .returned (.tuple #[l0, l1, .bool (rc2 zs).isSome]) ∧ TwoL w w' L l0 l1 A0 A1 ∧ ∀ x, rc2 zs = some x → x = (A0, A1) := by
  obtain ⟨t, ht⟩ : ∃ t, t = strOfNums zs := ⟨_, rfl⟩
  have hts : t.size = zs.length := by rw [ht, strOfNums_size]
  have HG : Hid (∀ p (h : p < t.size), ((t[p]'h).toNat : Int) = zs.getD p 0) := by
    intro p h; subst ht; exact son_get hz h
  have HZ : Hid (∀ z ∈ zs, 0 ≤ z ∧ z < 256) := hz
  rw [← ht]
  have HT : Hid (t.size = zs.length) := hts
  have h20 : t.size ≤ 1048576 := by omega
  clear ht hz hts hn
  obtain ⟨i0, hi, hz0, hz1, hz2⟩ := info_parts infoT
  have TS := two_start w
  obtain ⟨W0, hW0⟩ : ∃ W, (((w.alloc (.cells #[] 66)).alloc (.cells #[] 66)).alloc (.cells #[.slice (some ⟨w.heap.size, 0, none⟩) 0 0, .slice (some ⟨w.heap.size + 1, 0, none⟩) 0 0] 63)) = W := ⟨_, rfl⟩
  rw [hW0] at TS
  have TH : Hid (TwoL w W0 (w.heap.size + 1 + 1) (.slice (some ⟨w.heap.size, 0, none⟩) 0 0) (.slice (some ⟨w.heap.size + 1, 0, none⟩) 0 0) [] []) := TS
  clear TS
  go_enter Try.func38, Try.ntmps38
  go_wp2
  clear hW0
  go_loopw [6, 7, 8, 9] (fun pv kv _ _ wr => ∃ (p k : Nat) (l0 l1 : Value) (A0 A1 : List (Int × Int)), k ≤ 2 ∧ p ≤ t.size ∧ pv = .int .i64 p ∧ kv = .int .i64 k ∧ Hid (TwoL w wr (w.heap.size + 1 + 1) l0 l1 A0 A1) ∧ Hid (StL zs k p A0 A1)) (fun _ kv _ _ _ => 2 - (intOf kv).toNat)
  case atStart => exact ⟨0, 0, _, _, _, _, by omega, by omega, rfl, rfl, TH, ⟨by omega, by rw [if_pos rfl]; exact ⟨rfl, rfl, rfl⟩⟩⟩
  case round =>
    obtain ⟨p, k, l0, l1, A0, A1, hk, hp, rfl, rfl, TW, SL⟩ := hrel
    obtain ⟨v0, v1, hLw⟩ := TW.out.cells
    by_cases hk2 : k < 2
    case neg =>
      have e : k = 2 := by omega
      subst e
      by_cases hpe : p = t.size
      · have E : Hid (rc2 zs = some (A0, A1)) := (stl_done SL.out).1 (by rw [hpe]; exact HT.out)
        subst hpe
        clear SL
        go_wp2_with fail
        go_quiet (fail)
        go_wp2
        go_ret3
        refine ⟨l0, l1, A0, A1, _, by rw [E.out]; rfl, TW.out.drew _, fun x h => ?_⟩
        rw [E.out] at h
        exact (Option.some.inj h).symm
      · have E : Hid (rc2 zs = none) := (stl_done SL.out).2 (by have := HT.out; omega)
        have hpe' : ((p : Int) == (t.size : Int)) = false := by rw [beq_eq_false_iff_ne]; omega
        clear SL
        go_wp2_with fail
        go_quiet (fail)
        go_wp2
        go_ret3
        refine ⟨l0, l1, A0, A1, _, by rw [E.out]; rfl, TW.out.drew _, fun x h => ?_⟩
        rw [E.out] at h
        cases h
    by_cases hpl : p < t.size
    case neg =>
      have E : Hid (rc2 zs = none) := stl_none hk2 SL.out (by rw [List.drop_of_length_le (by have := HT.out; omega)]; rfl)
      clear SL
      go_wp2_with fail
      go_quiet (fail)
      go_wp2
      go_ret3
      refine ⟨l0, l1, A0, A1, _, by rw [E.out]; rfl, TW.out.drew _, fun x h => ?_⟩
      rw [E.out] at h
      cases h
    obtain ⟨N, hN⟩ : ∃ N : Nat, (N : Int) = zs.getD p 0 := ⟨(t[p]'hpl).toNat, HG.out p hpl⟩
    have hNb : N < 256 := by rw [← HG.out p hpl] at hN; have := (t[p]'hpl).toNat_lt; omega
    have ixp := ixS (t := t) (k := p) (N : Int) (p : Int) rfl hpl (by rw [hN]; exact HG.out p hpl)
    by_cases hsh : t.size < p + 1 + 2 * N
    · have E : Hid (rc2 zs = none) := stl_none hk2 SL.out (rc1_lo (by have := HT.out; omega) hN (by have := HT.out; omega))
      clear SL hN
      go_wp2_with fail
      go_quiet (fail)
      go_wp2
      go_ret3
      refine ⟨l0, l1, A0, A1, _, by rw [E.out]; rfl, TW.out.drew _, fun x h => ?_⟩
      rw [E.out] at h
      cases h
    obtain ⟨rr, hrr⟩ : ∃ rr, rr = zs.drop (p + 1) := ⟨_, rfl⟩
    by_cases hk0 : k = 0
    · subst hk0
      obtain ⟨hp0, rfl, rfl⟩ : p = 0 ∧ A0 = [] ∧ A1 = [] := by have := SL.out.2; rwa [if_pos rfl] at this
      have NX : Hid (StL zs (0 + 1) (p + 1 + 2 * N) (prs N rr) []) := by unfold Hid; rw [hrr]; exact stl_next0 SL.out (by have := HT.out; omega) hN (by have := HT.out; omega)
      clear SL hN hp0
      have q2 : (p : Int) + 1 + 2 * (N : Int) ≤ (t.size : Int) := by omega
      have q1 : (p : Int) < (t.size : Int) := by omega
      have hNi : ((N : Int)) < 256 := by omega
      go_wp2
      simp only [show decide (t.size ≤ p) = false from decide_eq_false (by omega), show ((0 : Nat) : Int) = 0 from rfl]
      go_loopw [6, 9] (fun pv iv wi => ∃ (i : Nat) (lk : Value), i ≤ N ∧ pv = .int .i64 ((p : Int) + 1 + 2 * (i : Int)) ∧ iv = .int .i64 i ∧ Hid (TwoL w wi (w.heap.size + 1 + 1) lk l1 (prs i rr) [])) (fun _ iv _ => N - (intOf iv).toNat)
      case atStart => exact ⟨0, _, Nat.zero_le _, by go_num, rfl, TW⟩
      case round =>
        obtain ⟨i, lk, hi', rfl, rfl, TI⟩ := hrel
        obtain ⟨u0, u1, hLi⟩ := TI.out.cells
        by_cases hin : i < N
        · obtain ⟨x, hx⟩ : ∃ x, x = rr.getD (2 * i) 0 := ⟨_, rfl⟩
          obtain ⟨y, hy⟩ : ∃ y, y = rr.getD (2 * i + 1) 0 := ⟨_, rfl⟩
          have ixa := ixS (t := t) (k := p + 1 + 2 * i) x ((p : Int) + 1 + 2 * (i : Int)) (by omega) (by omega) (by rw [hx, hrr, List.getD_eq_getElem?_getD, List.getElem?_drop, ← List.getD_eq_getElem?_getD]; exact HG.out _ _)
          have ixb := ixS (t := t) (k := p + 1 + (2 * i + 1)) y ((p : Int) + 1 + 2 * (i : Int) + 1) (by omega) (by omega) (by rw [hy, hrr, List.getD_eq_getElem?_getD, List.getElem?_drop, ← List.getD_eq_getElem?_getD]; exact HG.out _ _)
          have hxb : 0 ≤ x ∧ x < 256 := by rw [hx, hrr, List.getD_eq_getElem?_getD, List.getElem?_drop, ← List.getD_eq_getElem?_getD]; rw [← HG.out _ (by omega)]; have := (t[p + 1 + 2 * i]'(by omega)).toNat_lt; omega
          have hyb : 0 ≤ y ∧ y < 256 := by rw [hy, hrr, List.getD_eq_getElem?_getD, List.getElem?_drop, ← List.getD_eq_getElem?_getD]; rw [← HG.out _ (by omega)]; have := (t[p + 1 + (2 * i + 1)]'(by omega)).toNat_lt; omega
          have hw2 : IntKind.i64.wrap ((p : Int) + 1 + 2 * (i : Int) + 1) = (p : Int) + 1 + 2 * (i : Int) + 1 := by rw [IntKind.wrap_i64]; omega
          have hw3 : IntKind.i64.wrap x = x := by rw [IntKind.wrap_i64]; omega
          have hw4 : IntKind.i64.wrap y = y := by rw [IntKind.wrap_i64]; omega
          have HP : Hid (prs (i + 1) rr = prs i rr ++ [(x, y)]) := by unfold Hid; rw [prs_succ, hx, hy]
          have OK : Hid (wr.ownsRow w.heap.size 66 2 lk i (cells2 (prs i rr))) := by have := TI.out.own0; rwa [prs_len] at this
          have th := TI.out.box.thaw 0
          clear hx hy
          go_wp2_with fail
          go_region_law (refine step_append_lies _ (by rfl) (.tmp 56) (.tmp 67) 63 (by rfl) w.heap.size 66 i0 (.agg #[.int .i64 0, .int .i64 0]) 2 16 Try.underlying63 hi hz0 hz1 hz2 rfl (by omega) lk i (cells2 (prs i rr)) (by rfl) (by exact OK.out.alloc _) ⟨wr.heap.size, 0, none⟩ 1 1 [.int .i64 x, .int .i64 y] (by rfl) (by rfl) (by exact cells2w _ _ _ _) (by intro u hu; simp at hu; rcases hu with rfl | rfl <;> rfl) (by omega) (by unfold maxLen; omega) (by omega) (by have := TI.out.below.size; simp; omega) _ rfl ?_; intro g2 c2 w2 o2 hg2 ha2 hl2; have BX2 := two_box0 TI.out hg2; have th2 := BX2.thaw 0; have ce2 := BX2.cell 0)
          all_goals
            have T3 := TI.out.push0 (x := x) (y := y) (c2 := c2) (by rw [prs_len]; exact o2) hg2 ha2 hl2
            rw [prs_len, ← HP.out] at T3
            have T4 := T3
            clear T3 o2 hg2 ha2 hl2 BX2 ixa ixb u0 u1 th OK HP
            go_wp2
            go_roundw
            case rel => exact ⟨i + 1, _, by omega, congrArg (Value.int .i64) (by omega), congrArg (Value.int .i64) (by omega), T4⟩
            case measure => simp [intOf]; omega
        · have e : i = N := by omega
          subst e
          clear hi' u0 u1
          go_wp2
          go_roundw
          case rel => exact ⟨p + 1 + 2 * i, 0 + 1, lk, l1, _, _, by omega, by omega, by go_num, by go_num, TI, NX⟩
          case measure => simp [intOf]
    · have hk1 : k = 1 := by omega
      subst hk1
      obtain rfl : A1 = [] := by have := SL.out.2; rw [if_neg (by omega), if_pos rfl] at this; exact this.2
      have NX : Hid (StL zs (1 + 1) (p + 1 + 2 * N) A0 (prs N rr)) := by unfold Hid; rw [hrr]; exact stl_next1 SL.out (by have := HT.out; omega) hN (by have := HT.out; omega)
      clear SL hN
      have q2 : (p : Int) + 1 + 2 * (N : Int) ≤ (t.size : Int) := by omega
      have q1 : (p : Int) < (t.size : Int) := by omega
      have hNi : ((N : Int)) < 256 := by omega
      go_wp2
      simp only [show decide (t.size ≤ p) = false from decide_eq_false (by omega), show ((1 : Nat) : Int) = 1 from rfl]
      go_loopw [6, 9] (fun pv iv wi => ∃ (i : Nat) (lk : Value), i ≤ N ∧ pv = .int .i64 ((p : Int) + 1 + 2 * (i : Int)) ∧ iv = .int .i64 i ∧ Hid (TwoL w wi (w.heap.size + 1 + 1) l0 lk A0 (prs i rr))) (fun _ iv _ => N - (intOf iv).toNat)
      case atStart => exact ⟨0, _, Nat.zero_le _, by go_num, rfl, TW⟩
      case round =>
        obtain ⟨i, lk, hi', rfl, rfl, TI⟩ := hrel
        obtain ⟨u0, u1, hLi⟩ := TI.out.cells
        by_cases hin : i < N
        · obtain ⟨x, hx⟩ : ∃ x, x = rr.getD (2 * i) 0 := ⟨_, rfl⟩
          obtain ⟨y, hy⟩ : ∃ y, y = rr.getD (2 * i + 1) 0 := ⟨_, rfl⟩
          have ixa := ixS (t := t) (k := p + 1 + 2 * i) x ((p : Int) + 1 + 2 * (i : Int)) (by omega) (by omega) (by rw [hx, hrr, List.getD_eq_getElem?_getD, List.getElem?_drop, ← List.getD_eq_getElem?_getD]; exact HG.out _ _)
          have ixb := ixS (t := t) (k := p + 1 + (2 * i + 1)) y ((p : Int) + 1 + 2 * (i : Int) + 1) (by omega) (by omega) (by rw [hy, hrr, List.getD_eq_getElem?_getD, List.getElem?_drop, ← List.getD_eq_getElem?_getD]; exact HG.out _ _)
          have hxb : 0 ≤ x ∧ x < 256 := by rw [hx, hrr, List.getD_eq_getElem?_getD, List.getElem?_drop, ← List.getD_eq_getElem?_getD]; rw [← HG.out _ (by omega)]; have := (t[p + 1 + 2 * i]'(by omega)).toNat_lt; omega
          have hyb : 0 ≤ y ∧ y < 256 := by rw [hy, hrr, List.getD_eq_getElem?_getD, List.getElem?_drop, ← List.getD_eq_getElem?_getD]; rw [← HG.out _ (by omega)]; have := (t[p + 1 + (2 * i + 1)]'(by omega)).toNat_lt; omega
          have hw2 : IntKind.i64.wrap ((p : Int) + 1 + 2 * (i : Int) + 1) = (p : Int) + 1 + 2 * (i : Int) + 1 := by rw [IntKind.wrap_i64]; omega
          have hw3 : IntKind.i64.wrap x = x := by rw [IntKind.wrap_i64]; omega
          have hw4 : IntKind.i64.wrap y = y := by rw [IntKind.wrap_i64]; omega
          have HP : Hid (prs (i + 1) rr = prs i rr ++ [(x, y)]) := by unfold Hid; rw [prs_succ, hx, hy]
          have OK : Hid (wr.ownsRow w.heap.size 66 2 lk i (cells2 (prs i rr))) := by have := TI.out.own1; rwa [prs_len] at this
          have th := TI.out.box.thaw 1
          clear hx hy
          go_wp2_with fail
          go_region_law (refine step_append_lies _ (by rfl) (.tmp 56) (.tmp 67) 63 (by rfl) w.heap.size 66 i0 (.agg #[.int .i64 0, .int .i64 0]) 2 16 Try.underlying63 hi hz0 hz1 hz2 rfl (by omega) lk i (cells2 (prs i rr)) (by rfl) (by exact OK.out.alloc _) ⟨wr.heap.size, 0, none⟩ 1 1 [.int .i64 x, .int .i64 y] (by rfl) (by rfl) (by exact cells2w _ _ _ _) (by intro u hu; simp at hu; rcases hu with rfl | rfl <;> rfl) (by omega) (by unfold maxLen; omega) (by omega) (by have := TI.out.below.size; simp; omega) _ rfl ?_; intro g2 c2 w2 o2 hg2 ha2 hl2; have BX2 := two_box1 TI.out hg2; have th2 := BX2.thaw 1; have ce2 := BX2.cell 1)
          all_goals
            have T3 := TI.out.push1 (x := x) (y := y) (c2 := c2) (by rw [prs_len]; exact o2) hg2 ha2 hl2
            rw [prs_len, ← HP.out] at T3
            have T4 := T3
            clear T3 o2 hg2 ha2 hl2 BX2 ixa ixb u0 u1 th OK HP
            go_wp2
            go_roundw
            case rel => exact ⟨i + 1, _, by omega, congrArg (Value.int .i64) (by omega), congrArg (Value.int .i64) (by omega), T4⟩
            case measure => simp [intOf]; omega
        · have e : i = N := by omega
          subst e
          clear hi' u0 u1
          go_wp2
          go_roundw
          case rel => exact ⟨p + 1 + 2 * i, 1 + 1, l0, lk, _, _, by omega, by omega, by go_num, by go_num, TI, NX⟩
          case measure => simp [intOf]

end Go.Proofs.Ytimdoaehlciecaa
