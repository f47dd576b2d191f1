/-
  Walks over slices of waits (two cells each): copies, sizes, comparisons, marks.
-/
import Derived.Test.YtfibdpfhfgnbiaaGreatDoorZzan
import Derived.Test.YtfibdpfhfgnbiaaGreatDoorZzao
namespace Go.Proofs.YtfibdpfhfgnbiaaGreatDoor
open Go Go.RowKit
attribute [local go_sem ↓] Go.wp_at_zero Go.wp_at_succ

/-- The three blocks of a call that copies: its argument, its answer, and what it makes. -/
structure T3 (w V : World) (tA tR : TypeId) (xa xr xo : Array Value) : Prop where
  bel : Below w.heap.size w V
  a : Box V w.heap.size tA xa
  r : Box V (w.heap.size + 1) tR xr
  o : Box V (w.heap.size + 1 + 1) tR xo
  sz : w.heap.size + 1 + 1 + 1 ≤ V.heap.size
theorem T3.new (w : World) (tA tR : TypeId) (xa xr xo : Array Value) : T3 w (((w.alloc (.cells xa tA)).alloc (.cells xr tR)).alloc (.cells xo tR)) tA tR xa xr xo := by
  refine ⟨(((Below.refl _ _).alloc (Nat.le_refl _) _).alloc (by simp) _).alloc (by simp; omega) _, ((Box.new _ _ _).alloc _).alloc _, (Box.new2 _ _ _ _).alloc _, ?_, by simp⟩
  have := Box.new2 (w.alloc (.cells xa tA)) (.cells xr tR) xo tR
  rwa [show (w.alloc (.cells xa tA)).heap.size = w.heap.size + 1 by simp] at this
theorem T3.set {w V : World} {tA tR : TypeId} {xa xr xo : Array Value} (h : T3 w V tA tR xa xr xo) (i : Nat) (v : Value) {xo' : Array Value} (e : xo.setIfInBounds i v = xo') : T3 w (V.setCell ⟨w.heap.size + 1 + 1, i, none⟩ v) tA tR xa xr xo' := by
  refine ⟨h.bel.setCell (by simp; omega) _, h.a.setOther _ _ (by simp; omega), h.r.setOther _ _ (by simp), ?_, by simpa using h.sz⟩
  have := h.o.set i v
  rwa [e] at this
theorem T3.below {w V V' : World} {tA tR : TypeId} {xa xr xo : Array Value} (h : T3 w V tA tR xa xr xo) (hb : Below V.heap.size V V') : T3 w V' tA tR xa xr xo :=
  ⟨h.bel.trans (hb.mono h.bel.size), h.a.belowS hb, h.r.belowS hb, h.o.belowS hb, Nat.le_trans h.sz hb.size⟩
theorem loadVar5 {w : World} {r : Nat} {v0 v1 v2 v3 v4 : Value} (hb : Box w r 142 #[v0, v1, v2, v3, v4]) : (loadVar 142 ⟨r, 0, none⟩).run Tryz.prog w = .ok (.agg #[v0, v1, v2, v3, v4]) w := by
  obtain ⟨e0, e1, e2, e3, e4⟩ := box5 hb
  simp [go_sem, e0, e1, e2, e3, e4]
theorem ret5 {fn : Func} {p : Tmp} (h : fn.results = #[.cell p 142]) {R : Ending → World → Prop} {a : Act} {w : World} {r : Nat} {v0 v1 v2 v3 v4 : Value} (hp : a.tmps.getD p undef = .pointer (some ⟨r, 0, none⟩)) (hd : a.defers = []) (hb : Box w r 142 #[v0, v1, v2, v3, v4]) (hR : R (.returned (.agg #[v0, v1, v2, v3, v4])) w) : bodyPost Tryz.prog fn R .ret a w := by
  refine bodyPost_ret ?_ hd hR
  have hp' : a.tmps[p]?.getD undef = .pointer (some ⟨r, 0, none⟩) := by simpa using hp
  simp only [results, h]
  simp [hp', asAddr, loadVar5 hb]
theorem put5_box {V : World} {r : Nat} {t : TypeId} {x0 x1 x2 x3 x4 : Value} (h : Box V r t #[x0, x1, x2, x3, x4]) (v0 v1 v2 v3 v4 : Value) : Box (((((V.setCell ⟨r, 0, none⟩ (v0)).setCell ⟨r, 1, none⟩ (v1)).setCell ⟨r, 2, none⟩ (v2)).setCell ⟨r, 3, none⟩ (v3)).setCell ⟨r, 4, none⟩ (v4)) r t #[v0, v1, v2, v3, v4] := by
  have := ((((h.set 0 v0).set 1 v1).set 2 v2).set 3 v3).set 4 v4
  simpa using this
theorem put5_same (V : World) (r g : Nat) (v0 v1 v2 v3 v4 : Value) (hg : g ≠ r) : (((((V.setCell ⟨r, 0, none⟩ (v0)).setCell ⟨r, 1, none⟩ (v1)).setCell ⟨r, 2, none⟩ (v2)).setCell ⟨r, 3, none⟩ (v3)).setCell ⟨r, 4, none⟩ (v4)).heap[g]? = V.heap[g]? := by
  rw [Below.heap_setCell _ _ _ _ hg, Below.heap_setCell _ _ _ _ hg, Below.heap_setCell _ _ _ _ hg, Below.heap_setCell _ _ _ _ hg, Below.heap_setCell _ _ _ _ hg]
theorem put5_below {B : Nat} {w V : World} (hb : Below B w V) {r : Nat} (hr : B ≤ r) (v0 v1 v2 v3 v4 : Value) : Below B w (((((V.setCell ⟨r, 0, none⟩ (v0)).setCell ⟨r, 1, none⟩ (v1)).setCell ⟨r, 2, none⟩ (v2)).setCell ⟨r, 3, none⟩ (v3)).setCell ⟨r, 4, none⟩ (v4)) := ((((hb.setCell hr _).setCell hr _).setCell hr _).setCell hr _).setCell hr _
set_option maxRecDepth 100000 in
set_option maxHeartbeats 8000000 in
theorem c_szPage2 (h : G.HG) (D : G.DG) (left : Int) (w : World) (r : G.RdG w h D) (m0 : h.n ≤ maxLen) (s0 : ∀ s ∈ D.S, s.size ≤ maxLen) (hl0 : 0 ≤ left) (hl1 : left ≤ 1048576) :
    Calls Tryz.prog 243 #[.agg #[.int .i64 h.l, .slice h.a h.n h.c], .int .i64 left] w fun e w' => (∃ z : Int, e = .returned (.int .i64 z) ∧ z ≤ left ∧ (0 ≤ z → G.FitG D)) ∧ Below w.heap.size w w' := by
  have k0 := r.len
  obtain ⟨rl, r0⟩ := r
  obtain ⟨l, a, n, c⟩ := h
  simp only at *
  subst k0 rl
  have R0 : Hid (RdV w a D.S.length (D.S.map Value.string)) := r0
  have S0 : Hid (∀ s ∈ D.S, s.size ≤ maxLen) := s0
  clear r0 s0
  obtain ⟨V, hV⟩ : ∃ V, w.alloc (.cells #[.int .i64 D.L, .slice a D.S.length c] 217) = V := ⟨_, rfl⟩
  have HB : Hid (Below w.heap.size w V) := by unfold Hid; rw [← hV]; exact (Below.refl _ _).alloc (Nat.le_refl _) _
  have bx1 : Box V w.heap.size 217 #[.int .i64 D.L, .slice a D.S.length c] := by rw [← hV]; exact Box.new _ _ _
  obtain ⟨v0, v1⟩ := G.box2 bx1
  clear bx1
  go_enter Tryz.func243, Tryz.ntmps243
  go_wp2_with fail
  refine (c_szS a _ c D.S left V (R0.out.below HB.out) m0 S0.out hl0 hl1).mono ?_
  rintro e w1 ⟨rfl, hq⟩
  have hb1 := HB.out
  rw [← hq] at hb1
  clear hq HB hV v0 v1
  obtain ⟨z1, hz1⟩ : ∃ z, z = sizeS left D.S.length D.S := ⟨_, rfl⟩
  rw [← hz1]
  by_cases hn1 : z1 < 0
  · clear hz1
    go_wp2
    go_ret
    exact ⟨⟨_, rfl, by omega, fun h => absurd h (by omega)⟩, hb1⟩
  · have q1 : z1 ≤ left ∧ Hid (G.FitG D) := by
      unfold sizeS at hz1
      by_cases h1 : left - D.S.length < 0
      · rw [if_pos h1] at hz1; omega
      · rw [if_neg h1] at hz1
        have := szL_ok D.S (left - D.S.length) (by omega) (by omega)
        exact ⟨by omega, by omega, fun s h => by have := this.2 s h; omega⟩
    clear hz1
    go_wp2
    go_ret
    exact ⟨⟨_, rfl, q1.1, fun _ => q1.2.out⟩, hb1⟩
set_option maxRecDepth 100000 in
set_option maxHeartbeats 8000000 in
theorem c_szFr (no fi : Int) (d : Bool) (h : G.HG) (D : G.DG) (left : Int) (w : World) (r : G.RdG w h D) (m0 : h.n ≤ maxLen) (s0 : ∀ s ∈ D.S, s.size ≤ maxLen) (hl0 : 0 ≤ left) (hl1 : left ≤ 1048576) :
    Calls Tryz.prog 177 #[.agg #[.int .i64 no, .int .i64 h.l, .slice h.a h.n h.c, .bool d, .int .i64 fi], .int .i64 left] w fun e w' => (∃ z : Int, e = .returned (.int .i64 z) ∧ z ≤ left ∧ (0 ≤ z → G.FitG D)) ∧ Below w.heap.size w w' := by
  obtain ⟨V, hV⟩ : ∃ V, w.alloc (.cells #[.int .i64 no, .int .i64 h.l, .slice h.a h.n h.c, .bool d, .int .i64 fi] 219) = V := ⟨_, rfl⟩
  have HB : Hid (Below w.heap.size w V) := by unfold Hid; rw [← hV]; exact (Below.refl _ _).alloc (Nat.le_refl _) _
  have bx1 : Box V w.heap.size 219 #[.int .i64 no, .int .i64 h.l, .slice h.a h.n h.c, .bool d, .int .i64 fi] := by rw [← hV]; exact Box.new _ _ _
  obtain ⟨v0, v1, v2, v3, v4⟩ := box5 bx1
  have C := c_szPage2 h D left V (r.below HB.out) m0 s0 hl0 hl1
  clear bx1 r m0 s0
  go_enter Tryz.func177, Tryz.ntmps177
  go_wp2_with fail
  refine C.mono ?_
  rintro e w1 ⟨⟨z, rfl, hz, hf⟩, hb⟩
  have hb1 : Below w.heap.size w w1 := HB.out.trans (hb.mono HB.out.size)
  have HF : Hid (0 ≤ z → G.FitG D) := hf
  clear hf hb HB hV v0 v1 v2 v3 v4 C
  by_cases hn : z < 0
  · go_wp2
    go_ret
    exact ⟨⟨_, rfl, by omega, fun h => absurd h (by omega)⟩, hb1⟩
  · go_wp2
    go_ret
    exact ⟨⟨_, rfl, hz, HF.out⟩, hb1⟩
set_option maxRecDepth 100000 in
set_option maxHeartbeats 8000000 in
theorem c_toFr (no fi : Int) (d : Bool) (h : G.HG) (D : G.DG) (w : World) (r : G.RdG w h D) (hf : G.FitG D) :
    Calls Tryz.prog 182 #[.agg #[.int .i64 no, .int .i64 h.l, .slice h.a h.n h.c, .bool d, .int .i64 fi]] w fun e w' => (∃ h' : G.HG, e = .returned (.agg #[.int .i64 no, .int .i64 h'.l, .slice h'.a h'.n h'.c, .bool d, .int .i64 fi]) ∧ G.OwnG w' w.heap.size w'.heap.size h' D) ∧ Below w.heap.size w w' := by
  obtain ⟨V, hV⟩ : ∃ V, ((w.alloc (.cells #[.int .i64 no, .int .i64 h.l, .slice h.a h.n h.c, .bool d, .int .i64 fi] 219)).alloc (.cells #[.int .i64 0, .int .i64 0, .slice none 0 0, .bool false, .int .i64 0] 142)).alloc (.cells #[.int .i64 0, .int .i64 0, .slice none 0 0, .bool false, .int .i64 0] 142) = V := ⟨_, rfl⟩
  have T0 : T3 w V 219 142 #[.int .i64 no, .int .i64 h.l, .slice h.a h.n h.c, .bool d, .int .i64 fi] #[.int .i64 0, .int .i64 0, .slice none 0 0, .bool false, .int .i64 0] #[.int .i64 0, .int .i64 0, .slice none 0 0, .bool false, .int .i64 0] := by rw [← hV]; exact T3.new _ _ _ _ _ _
  obtain ⟨V1, hV1⟩ : ∃ W, V.setCell ⟨w.heap.size + 1 + 1, 0, none⟩ (.int .i64 no) = W := ⟨_, rfl⟩
  have T1 : Hid (T3 w V1 219 142 #[.int .i64 no, .int .i64 h.l, .slice h.a h.n h.c, .bool d, .int .i64 fi] #[.int .i64 0, .int .i64 0, .slice none 0 0, .bool false, .int .i64 0] #[.int .i64 no, .int .i64 0, .slice none 0 0, .bool false, .int .i64 0]) := by unfold Hid; rw [← hV1]; exact T0.set 0 _ rfl
  obtain ⟨v0, v1, v2, v3, v4⟩ := box5 T0.a
  obtain ⟨x0, x1, x2, x3, x4⟩ := box5 T1.out.a
  obtain ⟨u0, u1, u2, u3, u4⟩ := box5 T0.o
  have t0 := T0.o.thaw 0
  have C := G.c_toPage h D V1 (r.below T1.out.bel) hf
  clear T0 r hf
  go_enter Tryz.func182, Tryz.ntmps182
  go_wp2_with fail
  refine C.mono ?_
  rintro e w2 ⟨⟨h', rfl, o2⟩, hb⟩
  have T2 : Hid (T3 w w2 219 142 #[.int .i64 no, .int .i64 h.l, .slice h.a h.n h.c, .bool d, .int .i64 fi] #[.int .i64 0, .int .i64 0, .slice none 0 0, .bool false, .int .i64 0] #[.int .i64 no, .int .i64 0, .slice none 0 0, .bool false, .int .i64 0]) := T1.out.below hb
  have l1 := T1.out.sz
  have O2 : Hid (G.OwnG w2 V1.heap.size w2.heap.size h' D) := o2
  have L2 : V1.heap.size ≤ w2.heap.size := hb.size
  clear v0 v1 v2 v3 v4 x0 x1 x2 x3 x4 u0 u1 u2 u3 u4 t0 C hb o2 hV1 hV
  obtain ⟨V3, hV3⟩ : ∃ W, w2.setCell ⟨w.heap.size + 1 + 1, 1, none⟩ (.int .i64 h'.l) = W := ⟨_, rfl⟩
  have T3' : Hid (T3 w V3 219 142 #[.int .i64 no, .int .i64 h.l, .slice h.a h.n h.c, .bool d, .int .i64 fi] #[.int .i64 0, .int .i64 0, .slice none 0 0, .bool false, .int .i64 0] #[.int .i64 no, .int .i64 h'.l, .slice none 0 0, .bool false, .int .i64 0]) := by unfold Hid; rw [← hV3]; exact T2.out.set 1 _ rfl
  obtain ⟨V4, hV4⟩ : ∃ W, V3.setCell ⟨w.heap.size + 1 + 1, 2, none⟩ (.slice h'.a h'.n h'.c) = W := ⟨_, rfl⟩
  have T4 : Hid (T3 w V4 219 142 #[.int .i64 no, .int .i64 h.l, .slice h.a h.n h.c, .bool d, .int .i64 fi] #[.int .i64 0, .int .i64 0, .slice none 0 0, .bool false, .int .i64 0] #[.int .i64 no, .int .i64 h'.l, .slice h'.a h'.n h'.c, .bool false, .int .i64 0]) := by unfold Hid; rw [← hV4]; exact T3'.out.set 2 _ rfl
  obtain ⟨V5, hV5⟩ : ∃ W, V4.setCell ⟨w.heap.size + 1 + 1, 3, none⟩ (.bool d) = W := ⟨_, rfl⟩
  have T5 : Hid (T3 w V5 219 142 #[.int .i64 no, .int .i64 h.l, .slice h.a h.n h.c, .bool d, .int .i64 fi] #[.int .i64 0, .int .i64 0, .slice none 0 0, .bool false, .int .i64 0] #[.int .i64 no, .int .i64 h'.l, .slice h'.a h'.n h'.c, .bool d, .int .i64 0]) := by unfold Hid; rw [← hV5]; exact T4.out.set 3 _ rfl
  obtain ⟨V6, hV6⟩ : ∃ W, V5.setCell ⟨w.heap.size + 1 + 1, 4, none⟩ (.int .i64 fi) = W := ⟨_, rfl⟩
  have T6 : Hid (T3 w V6 219 142 #[.int .i64 no, .int .i64 h.l, .slice h.a h.n h.c, .bool d, .int .i64 fi] #[.int .i64 0, .int .i64 0, .slice none 0 0, .bool false, .int .i64 0] #[.int .i64 no, .int .i64 h'.l, .slice h'.a h'.n h'.c, .bool d, .int .i64 fi]) := by unfold Hid; rw [← hV6]; exact T5.out.set 4 _ rfl
  have O6 : Hid (G.OwnG V6 V1.heap.size w2.heap.size h' D) := by
    unfold Hid
    rw [← hV6, ← hV5, ← hV4, ← hV3]
    exact O2.out.same (by simp) fun g h1 _ => by rw [Below.heap_setCell _ _ _ _ (by simp; omega), Below.heap_setCell _ _ _ _ (by simp; omega), Below.heap_setCell _ _ _ _ (by simp; omega), Below.heap_setCell _ _ _ _ (by simp; omega)]
  have a3 : V4.cell? ⟨w.heap.size, 3, none⟩ = some (.bool d) := T4.out.a.cell 3
  have a4 : V5.cell? ⟨w.heap.size, 4, none⟩ = some (.int .i64 fi) := T5.out.a.cell 4
  have c1 : w2.cell? ⟨w.heap.size + 1 + 1, 1, none⟩ = some (.int .i64 0) := T2.out.o.cell 1
  have c2 : V3.cell? ⟨w.heap.size + 1 + 1, 2, none⟩ = some (.slice none 0 0) := T3'.out.o.cell 2
  have c3 : V4.cell? ⟨w.heap.size + 1 + 1, 3, none⟩ = some (.bool false) := T4.out.o.cell 3
  have c4 : V5.cell? ⟨w.heap.size + 1 + 1, 4, none⟩ = some (.int .i64 0) := T5.out.o.cell 4
  have z1 := T2.out.o.thaw 1
  have z2 := T3'.out.o.thaw 2
  have z3 := T4.out.o.thaw 3
  have z4 := T5.out.o.thaw 4
  obtain ⟨y0, y1, y2, y3, y4⟩ := box5 T6.out.o
  obtain ⟨r0, r1, r2, r3, r4⟩ := box5 T6.out.r
  have s0 := T6.out.r.thaw 0
  have s1 := T6.out.r.thaw 1
  have s2 := T6.out.r.thaw 2
  have s3 := T6.out.r.thaw 3
  have s4 := T6.out.r.thaw 4
  clear T1 T2 T3' T4 T5 O2
  go_wp2
  refine ret5 Tryz.results182 rfl rfl (put5_box T6.out.r _ _ _ _ _) ⟨⟨h', rfl, ?_⟩, put5_below T6.out.bel (by omega) _ _ _ _ _⟩
  have := O6.out.same (w' := (((((V6.setCell ⟨w.heap.size + 1, 0, none⟩ (.int .i64 no)).setCell ⟨w.heap.size + 1, 1, none⟩ (.int .i64 h'.l)).setCell ⟨w.heap.size + 1, 2, none⟩ (.slice h'.a h'.n h'.c)).setCell ⟨w.heap.size + 1, 3, none⟩ (.bool d)).setCell ⟨w.heap.size + 1, 4, none⟩ (.int .i64 fi))) (by simp) (fun g h1 _ => put5_same V6 (w.heap.size + 1) g _ _ _ _ _ (by omega))
  exact this.wide (B' := w.heap.size) (by omega)
set_option maxRecDepth 100000 in
set_option maxHeartbeats 8000000 in
theorem c_eqF1 (no fi : Int) (d : Bool) (h h' : G.HG) (D : G.DG) (w : World) (r : G.RdG w h D) (r' : G.RdG w h' D) (hf : G.FitG D) :
    Calls Tryz.prog 190 #[.agg #[.int .i64 no, .int .i64 h.l, .slice h.a h.n h.c, .bool d, .int .i64 fi], .agg #[.int .i64 no, .int .i64 h'.l, .slice h'.a h'.n h'.c, .bool d, .int .i64 fi]] w fun e w' => e = .returned (.bool true) ∧ Below w.heap.size w w' := by
  obtain ⟨V, hV⟩ : ∃ V, (w.alloc (.cells #[.int .i64 no, .int .i64 h.l, .slice h.a h.n h.c, .bool d, .int .i64 fi] 142)).alloc (.cells #[.int .i64 no, .int .i64 h'.l, .slice h'.a h'.n h'.c, .bool d, .int .i64 fi] 142) = V := ⟨_, rfl⟩
  have HB : Hid (Below w.heap.size w V) := by unfold Hid; rw [← hV]; exact ((Below.refl _ _).alloc (Nat.le_refl _) _).alloc (by simp) _
  have bx1 : Hid (Box V w.heap.size 142 #[.int .i64 no, .int .i64 h.l, .slice h.a h.n h.c, .bool d, .int .i64 fi]) := by unfold Hid; rw [← hV]; exact (Box.new _ _ _).alloc _
  have bx2 : Hid (Box V (w.heap.size + 1) 142 #[.int .i64 no, .int .i64 h'.l, .slice h'.a h'.n h'.c, .bool d, .int .i64 fi]) := by unfold Hid; rw [← hV]; exact Box.new2 _ _ _ _
  obtain ⟨v0, v1, v2, v3, v4⟩ := box5 bx1.out
  obtain ⟨u0, u1, u2, u3, u4⟩ := box5 bx2.out
  have e0 : (no != no) = false := by simp
  have e1 : (d != d) = false := by simp
  have e2 : (fi != fi) = false := by simp
  have C := G.c_eqPage h h' D V (r.below HB.out) (r'.below HB.out) hf
  clear r r' hf
  go_enter Tryz.func190, Tryz.ntmps190
  go_wp2_with fail
  refine C.mono ?_
  rintro e w1 ⟨rfl, hb⟩
  have hb1 : Below w.heap.size w w1 := HB.out.trans (hb.mono HB.out.size)
  have by1 := bx1.out.belowS hb
  have by2 := bx2.out.belowS hb
  clear hb HB hV v0 v1 v2 v3 v4 u0 u1 u2 u3 u4 C bx1 bx2
  obtain ⟨v0, v1, v2, v3, v4⟩ := box5 by1
  obtain ⟨u0, u1, u2, u3, u4⟩ := box5 by2
  cases d
  all_goals
    go_wp2
    go_ret
    exact ⟨rfl, hb1⟩

end Go.Proofs.YtfibdpfhfgnbiaaGreatDoor
namespace Go.Proofs.YtfibdpfhfgnbiaaGreatDoor.X
open Go.Proofs.YtfibdpfhfgnbiaaGreatDoor.L
open Go Go.RowKit
attribute [local go_sem ↓] Go.wp_at_zero Go.wp_at_succ

structure WK where
  x : Int
  f : Int
  deriving DecidableEq
def dW : WK := ⟨0, 0⟩
def cW (v : WK) : List Value := [.int .i64 v.x, .int .i64 v.f]
def cellsW (vs : List WK) : List Value := vs.flatMap cW
theorem cellsW_len (vs : List WK) : (cellsW vs).length = vs.length * 2 := by
  induction vs with
  | nil => rfl
  | cons v vs ih => rw [show cellsW (v :: vs) = cW v ++ cellsW vs from rfl, List.length_append, ih, List.length_cons]; simp only [cW, List.length_cons, List.length_nil]; omega
theorem cellsW_get : ∀ (vs : List WK) (i : Nat), i < vs.length → (cellsW vs)[i * 2]? = some (.int .i64 (vs.getD i dW).x) ∧ (cellsW vs)[i * 2 + 1]? = some (.int .i64 (vs.getD i dW).f)
  | v :: vs, 0, _ => by simp [cellsW, cW]
  | v :: vs, i + 1, h => by
    have := cellsW_get vs i (by simpa using h)
    have e : cellsW (v :: vs) = cW v ++ cellsW vs := rfl
    rw [e]
    have el : ∀ j, (cW v ++ cellsW vs)[j + 2]? = (cellsW vs)[j]? := fun j => by rw [List.getElem?_append_right (by simp [cW])]; simp [cW]
    rw [show (i + 1) * 2 = i * 2 + 2 by omega, show i * 2 + 2 + 1 = i * 2 + 1 + 2 by omega, el, el
      ]
    simpa using this
theorem cellsW_set : ∀ (vs : List WK) (i : Nat) (v : WK), i < vs.length → (((cellsW vs).set (i * 2) (.int .i64 v.x)).set (i * 2 + 1) (.int .i64 v.f)) = cellsW (vs.set i v)
  | u :: vs, 0, v, _ => by simp [cellsW, cW]
  | u :: vs, i + 1, v, h => by
    have ih := cellsW_set vs i v (by simpa using h)
    have e : cellsW (u :: vs) = .int .i64 u.x :: .int .i64 u.f :: cellsW vs := rfl
    have e2 : cellsW ((u :: vs).set (i + 1) v) = .int .i64 u.x :: .int .i64 u.f :: cellsW (vs.set i v) := rfl
    rw [e, e2, show (i + 1) * 2 = i * 2 + 1 + 1 by omega, ← ih]
    rfl
theorem cellsW_append (us vs : List WK) : cellsW (us ++ vs) = cellsW us ++ cellsW vs := by unfold cellsW; rw [List.flatMap_append]
def RdW (w : World) (a : Option Addr) (n : Nat) (vs : List WK) : Prop :=
  vs.length = n ∧ (0 < n → ∃ b off, a = some ⟨b, off, none⟩ ∧ b < w.heap.size ∧ ∀ i, i < n → w.cell? ⟨b, off + i * 2, none⟩ = some (.int .i64 (vs.getD i dW).x) ∧ w.cell? ⟨b, off + i * 2 + 1, none⟩ = some (.int .i64 (vs.getD i dW).f))
theorem RdW.below {w w' : World} {a : Option Addr} {n : Nat} {vs : List WK} (h : RdW w a n vs) (hb : Below w.heap.size w w') : RdW w' a n vs := by
  obtain ⟨h1, h3⟩ := h
  refine ⟨h1, fun hn => ?_⟩
  obtain ⟨b, off, e, hlt, hc⟩ := h3 hn
  refine ⟨b, off, e, Nat.lt_of_lt_of_le hlt hb.size, fun i hi => ?_⟩
  rw [hb.cell (p := ⟨b, off + i * 2, none⟩) hlt, hb.cell (p := ⟨b, off + i * 2 + 1, none⟩) hlt]
  exact hc i hi
theorem RdW.own {w : World} {base e n : Nat} {a : Option Addr} {m cap : Nat} {vs : List WK} (h : w.ownsRow base e 2 (.slice a m cap) n (cellsW vs)) : RdW w a m vs := by
  have hl : vs.length = n := by have := h.1; rw [cellsW_len] at this; omega
  rcases h.2 with ⟨hv, h0⟩ | ⟨g, cap', cur, hv, hb, hg, hnc, hcm, hcs, htake⟩
  · simp only [Value.slice.injEq] at hv
    obtain ⟨rfl, rfl, rfl⟩ := hv
    exact ⟨by omega, fun h => absurd h (by omega)⟩
  · simp only [Value.slice.injEq] at hv
    obtain ⟨rfl, rfl, rfl⟩ := hv
    refine ⟨hl, fun _ => ⟨g, 0, rfl, ?_, fun i hi => ?_⟩⟩
    · rcases Nat.lt_or_ge g w.heap.size with h1 | h1
      · exact h1
      · rw [Array.getElem?_eq_none h1] at hg; cases hg
    · rw [Nat.zero_add, h.cellAt (i * 2) (by omega), h.cellAt (i * 2 + 1) (by omega)]
      exact cellsW_get vs i (by omega)
theorem madeW (n : Nat) : (madeCells #[.int .i64 0, .int .i64 0] (n * 2)).toList = cellsW (List.replicate n dW) := by
  apply List.ext_getElem?
  intro j
  by_cases hj : j < n * 2
  · have h1 : (madeCells #[.int .i64 0, .int .i64 0] (n * 2)).toList[j]? = some (#[Value.int .i64 0, Value.int .i64 0][j % 2]!) := by
      simp [madeCells, hj]
    rw [h1]
    have hi : j / 2 < (List.replicate n dW).length := by simp; omega
    obtain ⟨c0, c1⟩ := cellsW_get (List.replicate n dW) (j / 2) hi
    have hd : (List.replicate n dW).getD (j / 2) dW = dW := by rw [List.getD_eq_getElem?_getD, List.getElem?_eq_getElem hi]; simp
    rw [hd] at c0 c1
    have hm : j % 2 = 0 ∨ j % 2 = 1 := by omega
    rcases hm with h | h
    · rw [h, show j = j / 2 * 2 by omega, c0]; rfl
    · rw [h, show j = j / 2 * 2 + 1 by omega, c1]; rfl
  · rw [List.getElem?_eq_none (by simp [size_madeCells]; omega), List.getElem?_eq_none (by rw [cellsW_len]; simp; omega)]
theorem infoW : (Tryz.prog.info? 95).map (fun i => (i.zero, i.size, i.bytes)) = some (some (.agg #[.int .i64 0, .int .i64 0]), 2, 16) := by kernel_rfl
theorem own_putW {w : World} {base e g n cap : Nat} {vs : List WK} (h : w.ownsRow base e 2 (.slice (some ⟨g, 0, none⟩) n cap) n (cellsW vs)) (i : Nat) (v : WK) (hi : i < vs.length) :
    (((w.setCell ⟨g, i * 2, none⟩ (.int .i64 v.x)).setCell ⟨g, i * 2 + 1, none⟩ (.int .i64 v.f))).ownsRow base e 2 (.slice (some ⟨g, 0, none⟩) n cap) n (cellsW (vs.set i v)) := by
  have h1 := (h.stored (i * 2) (.int .i64 v.x)).1
  have h2 := (h1.stored (i * 2 + 1) (.int .i64 v.f)).1
  rw [cellsW_set vs i v hi] at h2
  exact h2
set_option maxRecDepth 100000 in
set_option maxHeartbeats 2000000 in
theorem c_toW1 (vx vf : Int) (w : World) :
    Calls Tryz.prog 123 #[.agg #[.int .i64 vx, .int .i64 vf]] w fun e w' => e = .returned (.agg #[.int .i64 vx, .int .i64 vf]) ∧ Below w.heap.size w w' := by
  go_enter Tryz.func123, Tryz.ntmps123
  go_wp2
  refine bodyPost_ret (v := .agg #[.int .i64 vx, .int .i64 vf]) (by simp [results, Tryz.results123, go_sem]) rfl ⟨rfl, ?_⟩
  exact (((Below.refl _ _).alloc (Nat.le_refl _) _).alloc (by simp) _).alloc (by simp; omega) _

set_option maxRecDepth 100000 in
set_option maxHeartbeats 2000000 in
theorem c_toW (a : Option Addr) (n cap : Nat) (vs : List WK) (w : World) (hr : RdW w a n vs) (hn : n ≤ 1048576) :
    Calls Tryz.prog 57 #[.slice a n cap] w fun e w' => e = .returned (.slice (some ⟨w.heap.size, 0, none⟩) n n) ∧ w'.ownsRow w.heap.size 95 2 (.slice (some ⟨w.heap.size, 0, none⟩) n n) n (cellsW vs) ∧ Below w.heap.size w w' := by
  obtain ⟨hl, hcs⟩ := hr
  obtain ⟨i0, hi, hz0, hz1, hz2⟩ := info_parts infoW
  go_enter Tryz.func57, Tryz.ntmps57
  go_wp2_with (at_make; refine wpList_make_full _ rfl (.tmp 6) (.tmp 6) 47 rfl w.heap.size 95 i0 (.agg #[.int .i64 0, .int .i64 0]) 2 Tryz.underlying47 hi hz0 hz1 .i64 .i64 _ _ n rfl rfl rfl rfl (by rw [hz2]; omega) (by unfold maxLen; omega) (Nat.le_refl _) ?_; intro w1 hown hgrow)
  go_loopw [4] (fun i wr => ∃ k : Nat, k ≤ n ∧ i = .int .i64 k ∧ wr.ownsRow w.heap.size 95 2 (.slice (some ⟨w.heap.size, 0, none⟩) n n) n (cellsW (partA dW vs n k)) ∧ Below w.heap.size w wr) (fun i _ => n - (intOf i).toNat)
  case atStart => exact ⟨0, by omega, rfl, by have e := madeW n; simp only [Value.cells] at hown; rw [e] at hown; simpa [partA] using hown, (Below.refl _ _).grown hgrow (Nat.le_refl _) (fun k h => by cases h)⟩
  case round =>
    obtain ⟨k, hk, rfl, hown, hb⟩ := hrel
    by_cases hlt : k < n
    · obtain ⟨b, off, rfl, hbl, hc⟩ := hcs (by omega)
      obtain ⟨⟨vx, vf⟩, hv⟩ : ∃ v, v = vs.getD k dW := ⟨_, rfl⟩
      obtain ⟨d0, d1⟩ := hc k hlt
      rw [← hv] at d0 d1
      have e0 : wr.cell? ⟨b, off + k * 2, none⟩ = some (.int .i64 vx) := by rw [hb.cell (p := ⟨b, off + k * 2, none⟩) hbl, d0]
      have e1 : wr.cell? ⟨b, off + k * 2 + 1, none⟩ = some (.int .i64 vf) := by rw [hb.cell (p := ⟨b, off + k * 2 + 1, none⟩) hbl, d1]
      have HV : Hid ((⟨vx, vf⟩ : WK) = vs.getD k dW) := hv
      clear hc hcs hgrow d0 d1 hv
      go_wp2_with fail
      refine (c_toW1 _ _ _).mono ?_
      rintro e w1 ⟨rfl, hb1⟩
      have hown1 := own_below hown hb1
      have hbb : Below w.heap.size w w1 := hb.trans (hb1.mono hb.size)
      have hpl := partA_len dW vs n k hl hk
      obtain ⟨o0, o1⟩ := cellsW_get (partA dW vs n k) k (by omega)
      have f0 := hown1.cellAt (k * 2) (by omega)
      rw [o0] at f0
      have z0 := hown1.frozenAt (k * 2)
      have f1 := hown1.cellAt (k * 2 + 1) (by omega)
      rw [o1] at f1
      have z1 := hown1.frozenAt (k * 2 + 1)
      have hput := own_putW hown1 k ⟨vx, vf⟩ (by omega)
      rw [HV.out, partA_step dW vs n k hl hlt, ← HV.out] at hput
      have HP : Hid (_) := hput
      clear hput hown1 hown hb1 o0 e0 o1 e1
      go_wp2
      go_roundw
      case rel => exact ⟨k + 1, by omega, by go_num, HP.out, ((hbb.setCell (Nat.le_refl _) _).setCell (Nat.le_refl _) _)⟩
      case measure => simp [intOf]; omega
    · have e : k = n := by omega
      subst e
      rw [partA_full _ _ k hl] at hown
      go_wp2
      go_ret
      exact ⟨rfl, hown, hb⟩

def sizeW (left : Int) (n : Nat) : Int := if left - n < 0 then -1 else left - n
theorem c_szW (a : Option Addr) (n cap : Nat) (left : Int) (w : World) (hm : n ≤ maxLen) (h0 : 0 ≤ left) (h1 : left ≤ 1048576) :
    Calls Tryz.prog 49 #[.slice a n cap, .int .i64 left] w fun e w' => e = .returned (.int .i64 (sizeW left n)) ∧ w' = w := by
  unfold maxLen at hm
  unfold sizeW
  by_cases hn : left - n < 0
  · rw [if_pos hn]
    go_enter Tryz.func49, Tryz.ntmps49
    go_wp2
    go_ret
    exact ⟨rfl, rfl⟩
  · rw [if_neg hn]
    go_enter Tryz.func49, Tryz.ntmps49
    go_wp2
    go_ret
    exact ⟨rfl, rfl⟩

set_option maxRecDepth 100000 in
set_option maxHeartbeats 2000000 in
theorem c_eqW1 (vx vf : Int) (w : World) :
    Calls Tryz.prog 143 #[.agg #[.int .i64 vx, .int .i64 vf], .agg #[.int .i64 vx, .int .i64 vf]] w fun e w' => e = .returned (.bool true) ∧ Below w.heap.size w w' := by
  have e0 : (vx != vx) = false := by simp
  have e1 : (vf != vf) = false := by simp
  go_enter Tryz.func143, Tryz.ntmps143
  go_wp2
  go_ret
  exact ⟨rfl, ((Below.refl _ _).alloc (Nat.le_refl _) _).alloc (by simp) _⟩

set_option maxRecDepth 100000 in
set_option maxHeartbeats 2000000 in
theorem c_eqW (a a' : Option Addr) (n cap cap' : Nat) (zs : List WK) (w : World) (hr : RdW w a n zs) (hr' : RdW w a' n zs) (hn : n ≤ 1048576) :
    Calls Tryz.prog 65 #[.slice a n cap, .slice a' n cap'] w fun e w' => e = .returned (.bool true) ∧ Below w.heap.size w w' := by
  obtain ⟨hl, hcs⟩ := hr
  obtain ⟨hl', hcs'⟩ := hr'
  go_enter Tryz.func65, Tryz.ntmps65
  go_wp2
  go_loopw [5] (fun i wr => ∃ k : Nat, k ≤ n ∧ i = .int .i64 k ∧ Below w.heap.size w wr) (fun i _ => n - (intOf i).toNat)
  case atStart => exact ⟨0, by omega, rfl, Below.refl _ _⟩
  case round =>
    obtain ⟨k, hk, rfl, hb⟩ := hrel
    by_cases hlt : k < n
    · obtain ⟨b, off, rfl, hbl, hc⟩ := hcs (by omega)
      obtain ⟨b', off', rfl, hbl', hc'⟩ := hcs' (by omega)
      obtain ⟨⟨vx, vf⟩, hv⟩ : ∃ v, v = zs.getD k dW := ⟨_, rfl⟩
      obtain ⟨d0, d1⟩ := hc k hlt
      obtain ⟨x0, x1⟩ := hc' k hlt
      rw [← hv] at d0 x0 d1 x1
      have e0 : wr.cell? ⟨b, off + k * 2, none⟩ = some (.int .i64 vx) := by rw [hb.cell (p := ⟨b, off + k * 2, none⟩) hbl, d0]
      have e1 : wr.cell? ⟨b, off + k * 2 + 1, none⟩ = some (.int .i64 vf) := by rw [hb.cell (p := ⟨b, off + k * 2 + 1, none⟩) hbl, d1]
      have y0 : wr.cell? ⟨b', off' + k * 2, none⟩ = some (.int .i64 vx) := by rw [hb.cell (p := ⟨b', off' + k * 2, none⟩) hbl', x0]
      have y1 : wr.cell? ⟨b', off' + k * 2 + 1, none⟩ = some (.int .i64 vf) := by rw [hb.cell (p := ⟨b', off' + k * 2 + 1, none⟩) hbl', x1]
      have g1 : (0 : Int) ≤ (k : Int) := by omega
      have g2 : (k : Int) < (n : Int) := by omega
      have C : Hid (∀ wx, Calls Tryz.prog 143 #[.agg #[.int .i64 vx, .int .i64 vf], .agg #[.int .i64 vx, .int .i64 vf]] wx fun e w' => e = .returned (.bool true) ∧ Below wx.heap.size wx w') := fun wx => c_eqW1 vx vf wx
      clear hc hc' hcs hcs' hv d0 x0 d1 x1
      go_wp2_with fail
      go_region_held3 (fun x => x.cell? ⟨b, off + k * 2, none⟩ = some (.int .i64 vx) ∧ x.cell? ⟨b, off + k * 2 + 1, none⟩ = some (.int .i64 vf) ∧ x.cell? ⟨b', off' + k * 2, none⟩ = some (.int .i64 vx) ∧ x.cell? ⟨b', off' + k * 2 + 1, none⟩ = some (.int .i64 vf))
        (first | go_keep | (exact ⟨far6 hb3 e0, far6 hb3 e1, far6 hb3 y0, far6 hb3 y1⟩))
        (first | (go_at_call 143; refine (C.out _).mono ?_; rintro e w3 ⟨rfl, hb3⟩))
      have hb' : Below w.heap.size w w3 := hb.drew.trans (hb3.mono hb.size)
      clear hb3 e0 y0 e1 y1 C
      go_wp2
      go_roundw
      case rel => exact ⟨k + 1, by omega, by go_num, hb'⟩
      case measure => simp [intOf]; omega
    · have e : k = n := by omega
      subst e
      go_wp2
      go_ret
      exact ⟨rfl, hb⟩

def mW (k0 i : Nat) : WK := ⟨((k0 + i * 2 : Nat) : Int), ((k0 + i * 2 + 1 : Nat) : Int)⟩
def marksW (k0 n : Nat) : List WK := (List.range n).map (mW k0)
theorem marksW_len (k0 n : Nat) : (marksW k0 n).length = n := by simp [marksW]
theorem marksW_get (k0 n k : Nat) (h : k < n) : (marksW k0 n).getD k dW = mW k0 k := by
  unfold marksW; rw [List.getD_eq_getElem?_getD, List.getElem?_map, List.getElem?_range h]; rfl
set_option maxRecDepth 100000 in
set_option maxHeartbeats 2000000 in
theorem c_markW (base : Nat) (v : Value) (n k0 : Nat) (xs : List WK) (w : World) (hown : w.ownsRow base 95 2 v n (cellsW xs)) (h1 : 1 ≤ k0) (hn : n ≤ 1048576) (hk : k0 ≤ 8000000) :
    Calls Tryz.prog 71 #[v, .int .i64 k0] w fun e w' => e = .returned (.int .i64 (k0 + n * 2 : Nat)) ∧ w'.ownsRow base 95 2 v n (cellsW (marksW k0 n)) ∧ w.grownBy w' v.ownBlock := by
  have hxl : xs.length = n := by have := hown.1; rw [cellsW_len] at this; omega
  rcases own_form hown with ⟨rfl, rfl⟩ | ⟨g, cap, rfl, hg1, hg2⟩
  · go_enter Tryz.func71, Tryz.ntmps71
    go_wp2
    refine wp_loop_rounds 1 ?_
    rw [rounds_succ]
    go_wp2
    go_ret
    exact ⟨by simp, by simpa [marksW, cellsW] using World.ownsRow_nil w base 95 2, World.grownBy.refl _ _⟩
  · go_enter Tryz.func71, Tryz.ntmps71
    go_wp2
    go_loopw [1, 5] (fun m i wr => ∃ k : Nat, k ≤ n ∧ i = .int .i64 k ∧ m = .int .i64 ((k0 + k * 2 : Nat) : Int) ∧ wr.ownsRow base 95 2 (.slice (some ⟨g, 0, none⟩) n cap) n (cellsW (mixA (marksW k0 n) xs k)) ∧ w.grownBy wr (some g)) (fun _ i _ => n - (intOf i).toNat)
    case atStart => exact ⟨0, by omega, rfl, by simp, by rw [mixA_zero]; exact hown, World.grownBy.refl _ _⟩
    case round =>
      obtain ⟨k, hk, rfl, rfl, hown, hgr⟩ := hrel
      by_cases hlt : k < n
      · have hml := mixA_len (marksW k0 n) xs n k hxl (marksW_len _ _) hk
        obtain ⟨o0, o1⟩ := cellsW_get (mixA (marksW k0 n) xs k) k (by omega)
        have f0 := hown.cellAt (k * 2) (by omega)
        rw [o0] at f0
        have z0 := hown.frozenAt (k * 2)
        have f1 := hown.cellAt (k * 2 + 1) (by omega)
        rw [o1] at f1
        have z1 := hown.frozenAt (k * 2 + 1)
        obtain ⟨s0, t0⟩ := hown.stored (k * 2) (.int .i64 ((k0 : Int) + (k : Int) * 2))
        obtain ⟨s1, t1⟩ := s0.stored (k * 2 + 1) (.int .i64 ((k0 : Int) + (k : Int) * 2 + 1))
        have hset := cellsW_set (mixA (marksW k0 n) xs k) k ⟨(k0 : Int) + (k : Int) * 2, (k0 : Int) + (k : Int) * 2 + 1⟩ (by omega)
        have hmv : (marksW k0 n).getD k dW = ⟨(k0 : Int) + (k : Int) * 2, (k0 : Int) + (k : Int) * 2 + 1⟩ := by rw [marksW_get _ _ _ hlt]; unfold mW; simp
        rw [← hmv, mixA_step _ _ n k dW hxl (marksW_len _ _) hlt] at hset
        simp only [hmv] at hset
        rw [hset] at s1
        have HC : Hid (_) := s1
        have HGC : Hid (_) := (hgr.trans t0).trans t1
        clear s0 t0 o0 s1 t1 o1 hset hmv hown hgr
        go_wp2
        go_roundw
        case rel => exact ⟨k + 1, by omega, by go_num, by go_num, HC.out, HGC.out⟩
        case measure => simp [intOf]; omega
      · have e : k = n := by omega
        subst e
        rw [mixA_full _ _ k hxl (marksW_len _ _)] at hown
        go_wp2
        go_ret
        exact ⟨rfl, hown, hgr⟩

set_option maxRecDepth 100000 in
set_option maxHeartbeats 2000000 in
theorem c_heldW (a : Option Addr) (n cap k0 : Nat) (w : World) (hr : RdW w a n (marksW k0 n)) (h1 : 1 ≤ k0) (hn : n ≤ 1048576) (hk : k0 ≤ 8000000) :
    Calls Tryz.prog 73 #[.slice a n cap, .int .i64 k0] w fun e w' => e = .returned (.int .i64 (k0 + n * 2 : Nat)) ∧ w' = w := by
  obtain ⟨hl, hcs⟩ := hr
  go_enter Tryz.func73, Tryz.ntmps73
  go_wp2
  go_loopw [1, 5] (fun m i wr => ∃ k : Nat, k ≤ n ∧ i = .int .i64 k ∧ m = .int .i64 ((k0 + k * 2 : Nat) : Int) ∧ wr = w) (fun _ i _ => n - (intOf i).toNat)
  case atStart => exact ⟨0, by omega, rfl, by simp, rfl⟩
  case round =>
    obtain ⟨k, hk, rfl, rfl, rfl⟩ := hrel
    by_cases hlt : k < n
    · obtain ⟨b, off, rfl, hbl, hc⟩ := hcs (by omega)
      obtain ⟨d0, d1⟩ := hc k hlt
      rw [marksW_get _ _ _ hlt] at d0 d1
      have e0 : wr.cell? ⟨b, off + k * 2, none⟩ = some (.int .i64 ((k0 : Int) + (k : Int) * 2)) := by rw [d0]; unfold mW; simp
      have e1 : wr.cell? ⟨b, off + k * 2 + 1, none⟩ = some (.int .i64 ((k0 : Int) + (k : Int) * 2 + 1)) := by rw [d1]; unfold mW; simp
      clear hc hcs d0 d1
      go_wp2
      go_roundw
      case rel => exact ⟨k + 1, by omega, by go_num, by go_num, by first | rfl | trivial⟩
      case measure => simp [intOf]; omega
    · have e : k = n := by omega
      subst e
      go_wp2
      go_ret
      exact ⟨rfl, rfl⟩


end Go.Proofs.YtfibdpfhfgnbiaaGreatDoor.X
