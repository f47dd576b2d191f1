/-
  Frames: their sizes, copies and comparisons.
-/
import Derived.Test.YtcokbogicbdoaaaDoorZzal
import Derived.Test.YtcokbogicbdoaaaDoorYtaq
namespace Go.Proofs.YtcokbogicbdoaaaDoor
open Go Go.RowKit
attribute [local go_sem ↓] Go.wp_at_zero Go.wp_at_succ

/-- The three blocks of a call that copies: its argument, its answer, and what it makes. -/
structure T3 (w V : World) (tA tR : TypeId) (xa xr xo : Array Value) : Prop where
  bel : Below w.heap.size w V
  a : Box V w.heap.size tA xa
  r : Box V (w.heap.size + 1) tR xr
  o : Box V (w.heap.size + 1 + 1) tR xo
  sz : w.heap.size + 1 + 1 + 1 ≤ V.heap.size
theorem T3.new (w : World) (tA tR : TypeId) (xa xr xo : Array Value) : T3 w (((w.alloc (.cells xa tA)).alloc (.cells xr tR)).alloc (.cells xo tR)) tA tR xa xr xo := by
  refine ⟨(((Below.refl _ _).alloc (Nat.le_refl _) _).alloc (by simp) _).alloc (by simp; omega) _, ((Box.new _ _ _).alloc _).alloc _, (Box.new2 _ _ _ _).alloc _, ?_, by simp⟩
  have := Box.new2 (w.alloc (.cells xa tA)) (.cells xr tR) xo tR
  rwa [show (w.alloc (.cells xa tA)).heap.size = w.heap.size + 1 by simp] at this
theorem T3.set {w V : World} {tA tR : TypeId} {xa xr xo : Array Value} (h : T3 w V tA tR xa xr xo) (i : Nat) (v : Value) {xo' : Array Value} (e : xo.setIfInBounds i v = xo') : T3 w (V.setCell ⟨w.heap.size + 1 + 1, i, none⟩ v) tA tR xa xr xo' := by
  refine ⟨h.bel.setCell (by simp; omega) _, h.a.setOther _ _ (by simp; omega), h.r.setOther _ _ (by simp), ?_, by simpa using h.sz⟩
  have := h.o.set i v
  rwa [e] at this
theorem T3.below {w V V' : World} {tA tR : TypeId} {xa xr xo : Array Value} (h : T3 w V tA tR xa xr xo) (hb : Below V.heap.size V V') : T3 w V' tA tR xa xr xo :=
  ⟨h.bel.trans (hb.mono h.bel.size), h.a.belowS hb, h.r.belowS hb, h.o.belowS hb, Nat.le_trans h.sz hb.size⟩
theorem loadVar5 {w : World} {r : Nat} {v0 v1 v2 v3 v4 : Value} (hb : Box w r 51 #[v0, v1, v2, v3, v4]) : (loadVar 51 ⟨r, 0, none⟩).run Tryd.prog w = .ok (.agg #[v0, v1, v2, v3, v4]) w := by
  obtain ⟨e0, e1, e2, e3, e4⟩ := box5 hb
  simp [go_sem, e0, e1, e2, e3, e4]
theorem ret5 {fn : Func} {p : Tmp} (h : fn.results = #[.cell p 51]) {R : Ending → World → Prop} {a : Act} {w : World} {r : Nat} {v0 v1 v2 v3 v4 : Value} (hp : a.tmps.getD p undef = .pointer (some ⟨r, 0, none⟩)) (hd : a.defers = []) (hb : Box w r 51 #[v0, v1, v2, v3, v4]) (hR : R (.returned (.agg #[v0, v1, v2, v3, v4])) w) : bodyPost Tryd.prog fn R .ret a w := by
  refine bodyPost_ret ?_ hd hR
  have hp' : a.tmps[p]?.getD undef = .pointer (some ⟨r, 0, none⟩) := by simpa using hp
  simp only [results, h]
  simp [hp', asAddr, loadVar5 hb]
theorem put5_box {V : World} {r : Nat} {t : TypeId} {x0 x1 x2 x3 x4 : Value} (h : Box V r t #[x0, x1, x2, x3, x4]) (v0 v1 v2 v3 v4 : Value) : Box (((((V.setCell ⟨r, 0, none⟩ (v0)).setCell ⟨r, 1, none⟩ (v1)).setCell ⟨r, 2, none⟩ (v2)).setCell ⟨r, 3, none⟩ (v3)).setCell ⟨r, 4, none⟩ (v4)) r t #[v0, v1, v2, v3, v4] := by
  have := ((((h.set 0 v0).set 1 v1).set 2 v2).set 3 v3).set 4 v4
  simpa using this
theorem put5_same (V : World) (r g : Nat) (v0 v1 v2 v3 v4 : Value) (hg : g ≠ r) : (((((V.setCell ⟨r, 0, none⟩ (v0)).setCell ⟨r, 1, none⟩ (v1)).setCell ⟨r, 2, none⟩ (v2)).setCell ⟨r, 3, none⟩ (v3)).setCell ⟨r, 4, none⟩ (v4)).heap[g]? = V.heap[g]? := by
  rw [Below.heap_setCell _ _ _ _ hg, Below.heap_setCell _ _ _ _ hg, Below.heap_setCell _ _ _ _ hg, Below.heap_setCell _ _ _ _ hg, Below.heap_setCell _ _ _ _ hg]
theorem put5_below {B : Nat} {w V : World} (hb : Below B w V) {r : Nat} (hr : B ≤ r) (v0 v1 v2 v3 v4 : Value) : Below B w (((((V.setCell ⟨r, 0, none⟩ (v0)).setCell ⟨r, 1, none⟩ (v1)).setCell ⟨r, 2, none⟩ (v2)).setCell ⟨r, 3, none⟩ (v3)).setCell ⟨r, 4, none⟩ (v4)) := ((((hb.setCell hr _).setCell hr _).setCell hr _).setCell hr _).setCell hr _
set_option maxRecDepth 100000 in
set_option maxHeartbeats 8000000 in
theorem c_szPage2 (h : G.HG) (D : G.DG) (left : Int) (w : World) (r : G.RdG w h D) (m0 : h.n ≤ maxLen) (s0 : ∀ s ∈ D.S, s.size ≤ maxLen) (hl0 : 0 ≤ left) (hl1 : left ≤ 1048576) :
    Calls Tryd.prog 65 #[.agg #[.int .i64 h.l, .slice h.a h.n h.c], .int .i64 left] w fun e w' => (∃ z : Int, e = .returned (.int .i64 z) ∧ z ≤ left ∧ (0 ≤ z → G.FitG D)) ∧ Below w.heap.size w w' := by
  have k0 := r.len
  obtain ⟨rl, r0⟩ := r
  obtain ⟨l, a, n, c⟩ := h
  simp only at *
  subst k0 rl
  have R0 : Hid (RdV w a D.S.length (D.S.map Value.string)) := r0
  have S0 : Hid (∀ s ∈ D.S, s.size ≤ maxLen) := s0
  clear r0 s0
  obtain ⟨V, hV⟩ : ∃ V, w.alloc (.cells #[.int .i64 D.L, .slice a D.S.length c] 82) = V := ⟨_, rfl⟩
  have HB : Hid (Below w.heap.size w V) := by unfold Hid; rw [← hV]; exact (Below.refl _ _).alloc (Nat.le_refl _) _
  have bx1 : Box V w.heap.size 82 #[.int .i64 D.L, .slice a D.S.length c] := by rw [← hV]; exact Box.new _ _ _
  obtain ⟨v0, v1⟩ := G.box2 bx1
  clear bx1
  go_enter Tryd.func65, Tryd.ntmps65
  go_wp2_with fail
  refine (c_szS a _ c D.S left V (R0.out.below HB.out) m0 S0.out hl0 hl1).mono ?_
  rintro e w1 ⟨rfl, hq⟩
  have hb1 := HB.out
  rw [← hq] at hb1
  clear hq HB hV v0 v1
  obtain ⟨z1, hz1⟩ : ∃ z, z = sizeS left D.S.length D.S := ⟨_, rfl⟩
  rw [← hz1]
  by_cases hn1 : z1 < 0
  · clear hz1
    go_wp2
    go_ret
    exact ⟨⟨_, rfl, by omega, fun h => absurd h (by omega)⟩, hb1⟩
  · have q1 : z1 ≤ left ∧ Hid (G.FitG D) := by
      unfold sizeS at hz1
      by_cases h1 : left - D.S.length < 0
      · rw [if_pos h1] at hz1; omega
      · rw [if_neg h1] at hz1
        have := szL_ok D.S (left - D.S.length) (by omega) (by omega)
        exact ⟨by omega, by omega, fun s h => by have := this.2 s h; omega⟩
    clear hz1
    go_wp2
    go_ret
    exact ⟨⟨_, rfl, q1.1, fun _ => q1.2.out⟩, hb1⟩
set_option maxRecDepth 100000 in
set_option maxHeartbeats 8000000 in
theorem c_szFr (no fi : Int) (d : Bool) (h : G.HG) (D : G.DG) (left : Int) (w : World) (r : G.RdG w h D) (m0 : h.n ≤ maxLen) (s0 : ∀ s ∈ D.S, s.size ≤ maxLen) (hl0 : 0 ≤ left) (hl1 : left ≤ 1048576) :
    Calls Tryd.prog 39 #[.agg #[.int .i64 no, .int .i64 h.l, .slice h.a h.n h.c, .bool d, .int .i64 fi], .int .i64 left] w fun e w' => (∃ z : Int, e = .returned (.int .i64 z) ∧ z ≤ left ∧ (0 ≤ z → G.FitG D)) ∧ Below w.heap.size w w' := by
  obtain ⟨V, hV⟩ : ∃ V, w.alloc (.cells #[.int .i64 no, .int .i64 h.l, .slice h.a h.n h.c, .bool d, .int .i64 fi] 84) = V := ⟨_, rfl⟩
  have HB : Hid (Below w.heap.size w V) := by unfold Hid; rw [← hV]; exact (Below.refl _ _).alloc (Nat.le_refl _) _
  have bx1 : Box V w.heap.size 84 #[.int .i64 no, .int .i64 h.l, .slice h.a h.n h.c, .bool d, .int .i64 fi] := by rw [← hV]; exact Box.new _ _ _
  obtain ⟨v0, v1, v2, v3, v4⟩ := box5 bx1
  have C := c_szPage2 h D left V (r.below HB.out) m0 s0 hl0 hl1
  clear bx1 r m0 s0
  go_enter Tryd.func39, Tryd.ntmps39
  go_wp2_with fail
  refine C.mono ?_
  rintro e w1 ⟨⟨z, rfl, hz, hf⟩, hb⟩
  have hb1 : Below w.heap.size w w1 := HB.out.trans (hb.mono HB.out.size)
  have HF : Hid (0 ≤ z → G.FitG D) := hf
  clear hf hb HB hV v0 v1 v2 v3 v4 C
  by_cases hn : z < 0
  · go_wp2
    go_ret
    exact ⟨⟨_, rfl, by omega, fun h => absurd h (by omega)⟩, hb1⟩
  · go_wp2
    go_ret
    exact ⟨⟨_, rfl, hz, HF.out⟩, hb1⟩
set_option maxRecDepth 100000 in
set_option maxHeartbeats 8000000 in
theorem c_toFr (no fi : Int) (d : Bool) (h : G.HG) (D : G.DG) (w : World) (r : G.RdG w h D) (hf : G.FitG D) :
    Calls Tryd.prog 50 #[.agg #[.int .i64 no, .int .i64 h.l, .slice h.a h.n h.c, .bool d, .int .i64 fi]] w fun e w' => (∃ h' : G.HG, e = .returned (.agg #[.int .i64 no, .int .i64 h'.l, .slice h'.a h'.n h'.c, .bool d, .int .i64 fi]) ∧ G.OwnG w' w.heap.size w'.heap.size h' D) ∧ Below w.heap.size w w' := by
  obtain ⟨V, hV⟩ : ∃ V, ((w.alloc (.cells #[.int .i64 no, .int .i64 h.l, .slice h.a h.n h.c, .bool d, .int .i64 fi] 84)).alloc (.cells #[.int .i64 0, .int .i64 0, .slice none 0 0, .bool false, .int .i64 0] 51)).alloc (.cells #[.int .i64 0, .int .i64 0, .slice none 0 0, .bool false, .int .i64 0] 51) = V := ⟨_, rfl⟩
  have T0 : T3 w V 84 51 #[.int .i64 no, .int .i64 h.l, .slice h.a h.n h.c, .bool d, .int .i64 fi] #[.int .i64 0, .int .i64 0, .slice none 0 0, .bool false, .int .i64 0] #[.int .i64 0, .int .i64 0, .slice none 0 0, .bool false, .int .i64 0] := by rw [← hV]; exact T3.new _ _ _ _ _ _
  obtain ⟨V1, hV1⟩ : ∃ W, V.setCell ⟨w.heap.size + 1 + 1, 0, none⟩ (.int .i64 no) = W := ⟨_, rfl⟩
  have T1 : Hid (T3 w V1 84 51 #[.int .i64 no, .int .i64 h.l, .slice h.a h.n h.c, .bool d, .int .i64 fi] #[.int .i64 0, .int .i64 0, .slice none 0 0, .bool false, .int .i64 0] #[.int .i64 no, .int .i64 0, .slice none 0 0, .bool false, .int .i64 0]) := by unfold Hid; rw [← hV1]; exact T0.set 0 _ rfl
  obtain ⟨v0, v1, v2, v3, v4⟩ := box5 T0.a
  obtain ⟨x0, x1, x2, x3, x4⟩ := box5 T1.out.a
  obtain ⟨u0, u1, u2, u3, u4⟩ := box5 T0.o
  have t0 := T0.o.thaw 0
  have C := G.c_toPage h D V1 (r.below T1.out.bel) hf
  clear T0 r hf
  go_enter Tryd.func50, Tryd.ntmps50
  go_wp2_with fail
  refine C.mono ?_
  rintro e w2 ⟨⟨h', rfl, o2⟩, hb⟩
  have T2 : Hid (T3 w w2 84 51 #[.int .i64 no, .int .i64 h.l, .slice h.a h.n h.c, .bool d, .int .i64 fi] #[.int .i64 0, .int .i64 0, .slice none 0 0, .bool false, .int .i64 0] #[.int .i64 no, .int .i64 0, .slice none 0 0, .bool false, .int .i64 0]) := T1.out.below hb
  have l1 := T1.out.sz
  have O2 : Hid (G.OwnG w2 V1.heap.size w2.heap.size h' D) := o2
  have L2 : V1.heap.size ≤ w2.heap.size := hb.size
  clear v0 v1 v2 v3 v4 x0 x1 x2 x3 x4 u0 u1 u2 u3 u4 t0 C hb o2 hV1 hV
  obtain ⟨V3, hV3⟩ : ∃ W, w2.setCell ⟨w.heap.size + 1 + 1, 1, none⟩ (.int .i64 h'.l) = W := ⟨_, rfl⟩
  have T3' : Hid (T3 w V3 84 51 #[.int .i64 no, .int .i64 h.l, .slice h.a h.n h.c, .bool d, .int .i64 fi] #[.int .i64 0, .int .i64 0, .slice none 0 0, .bool false, .int .i64 0] #[.int .i64 no, .int .i64 h'.l, .slice none 0 0, .bool false, .int .i64 0]) := by unfold Hid; rw [← hV3]; exact T2.out.set 1 _ rfl
  obtain ⟨V4, hV4⟩ : ∃ W, V3.setCell ⟨w.heap.size + 1 + 1, 2, none⟩ (.slice h'.a h'.n h'.c) = W := ⟨_, rfl⟩
  have T4 : Hid (T3 w V4 84 51 #[.int .i64 no, .int .i64 h.l, .slice h.a h.n h.c, .bool d, .int .i64 fi] #[.int .i64 0, .int .i64 0, .slice none 0 0, .bool false, .int .i64 0] #[.int .i64 no, .int .i64 h'.l, .slice h'.a h'.n h'.c, .bool false, .int .i64 0]) := by unfold Hid; rw [← hV4]; exact T3'.out.set 2 _ rfl
  obtain ⟨V5, hV5⟩ : ∃ W, V4.setCell ⟨w.heap.size + 1 + 1, 3, none⟩ (.bool d) = W := ⟨_, rfl⟩
  have T5 : Hid (T3 w V5 84 51 #[.int .i64 no, .int .i64 h.l, .slice h.a h.n h.c, .bool d, .int .i64 fi] #[.int .i64 0, .int .i64 0, .slice none 0 0, .bool false, .int .i64 0] #[.int .i64 no, .int .i64 h'.l, .slice h'.a h'.n h'.c, .bool d, .int .i64 0]) := by unfold Hid; rw [← hV5]; exact T4.out.set 3 _ rfl
  obtain ⟨V6, hV6⟩ : ∃ W, V5.setCell ⟨w.heap.size + 1 + 1, 4, none⟩ (.int .i64 fi) = W := ⟨_, rfl⟩
  have T6 : Hid (T3 w V6 84 51 #[.int .i64 no, .int .i64 h.l, .slice h.a h.n h.c, .bool d, .int .i64 fi] #[.int .i64 0, .int .i64 0, .slice none 0 0, .bool false, .int .i64 0] #[.int .i64 no, .int .i64 h'.l, .slice h'.a h'.n h'.c, .bool d, .int .i64 fi]) := by unfold Hid; rw [← hV6]; exact T5.out.set 4 _ rfl
  have O6 : Hid (G.OwnG V6 V1.heap.size w2.heap.size h' D) := by
    unfold Hid
    rw [← hV6, ← hV5, ← hV4, ← hV3]
    exact O2.out.same (by simp) fun g h1 _ => by rw [Below.heap_setCell _ _ _ _ (by simp; omega), Below.heap_setCell _ _ _ _ (by simp; omega), Below.heap_setCell _ _ _ _ (by simp; omega), Below.heap_setCell _ _ _ _ (by simp; omega)]
  have a3 : V4.cell? ⟨w.heap.size, 3, none⟩ = some (.bool d) := T4.out.a.cell 3
  have a4 : V5.cell? ⟨w.heap.size, 4, none⟩ = some (.int .i64 fi) := T5.out.a.cell 4
  have c1 : w2.cell? ⟨w.heap.size + 1 + 1, 1, none⟩ = some (.int .i64 0) := T2.out.o.cell 1
  have c2 : V3.cell? ⟨w.heap.size + 1 + 1, 2, none⟩ = some (.slice none 0 0) := T3'.out.o.cell 2
  have c3 : V4.cell? ⟨w.heap.size + 1 + 1, 3, none⟩ = some (.bool false) := T4.out.o.cell 3
  have c4 : V5.cell? ⟨w.heap.size + 1 + 1, 4, none⟩ = some (.int .i64 0) := T5.out.o.cell 4
  have z1 := T2.out.o.thaw 1
  have z2 := T3'.out.o.thaw 2
  have z3 := T4.out.o.thaw 3
  have z4 := T5.out.o.thaw 4
  obtain ⟨y0, y1, y2, y3, y4⟩ := box5 T6.out.o
  obtain ⟨r0, r1, r2, r3, r4⟩ := box5 T6.out.r
  have s0 := T6.out.r.thaw 0
  have s1 := T6.out.r.thaw 1
  have s2 := T6.out.r.thaw 2
  have s3 := T6.out.r.thaw 3
  have s4 := T6.out.r.thaw 4
  clear T1 T2 T3' T4 T5 O2
  go_wp2
  refine ret5 Tryd.results50 rfl rfl (put5_box T6.out.r _ _ _ _ _) ⟨⟨h', rfl, ?_⟩, put5_below T6.out.bel (by omega) _ _ _ _ _⟩
  have := O6.out.same (w' := (((((V6.setCell ⟨w.heap.size + 1, 0, none⟩ (.int .i64 no)).setCell ⟨w.heap.size + 1, 1, none⟩ (.int .i64 h'.l)).setCell ⟨w.heap.size + 1, 2, none⟩ (.slice h'.a h'.n h'.c)).setCell ⟨w.heap.size + 1, 3, none⟩ (.bool d)).setCell ⟨w.heap.size + 1, 4, none⟩ (.int .i64 fi))) (by simp) (fun g h1 _ => put5_same V6 (w.heap.size + 1) g _ _ _ _ _ (by omega))
  exact this.wide (B' := w.heap.size) (by omega)
set_option maxRecDepth 100000 in
set_option maxHeartbeats 8000000 in
theorem c_eqF1 (no fi : Int) (d : Bool) (h h' : G.HG) (D : G.DG) (w : World) (r : G.RdG w h D) (r' : G.RdG w h' D) (hf : G.FitG D) :
    Calls Tryd.prog 59 #[.agg #[.int .i64 no, .int .i64 h.l, .slice h.a h.n h.c, .bool d, .int .i64 fi], .agg #[.int .i64 no, .int .i64 h'.l, .slice h'.a h'.n h'.c, .bool d, .int .i64 fi]] w fun e w' => e = .returned (.bool true) ∧ Below w.heap.size w w' := by
  obtain ⟨V, hV⟩ : ∃ V, (w.alloc (.cells #[.int .i64 no, .int .i64 h.l, .slice h.a h.n h.c, .bool d, .int .i64 fi] 51)).alloc (.cells #[.int .i64 no, .int .i64 h'.l, .slice h'.a h'.n h'.c, .bool d, .int .i64 fi] 51) = V := ⟨_, rfl⟩
  have HB : Hid (Below w.heap.size w V) := by unfold Hid; rw [← hV]; exact ((Below.refl _ _).alloc (Nat.le_refl _) _).alloc (by simp) _
  have bx1 : Hid (Box V w.heap.size 51 #[.int .i64 no, .int .i64 h.l, .slice h.a h.n h.c, .bool d, .int .i64 fi]) := by unfold Hid; rw [← hV]; exact (Box.new _ _ _).alloc _
  have bx2 : Hid (Box V (w.heap.size + 1) 51 #[.int .i64 no, .int .i64 h'.l, .slice h'.a h'.n h'.c, .bool d, .int .i64 fi]) := by unfold Hid; rw [← hV]; exact Box.new2 _ _ _ _
  obtain ⟨v0, v1, v2, v3, v4⟩ := box5 bx1.out
  obtain ⟨u0, u1, u2, u3, u4⟩ := box5 bx2.out
  have e0 : (no != no) = false := by simp
  have e1 : (d != d) = false := by simp
  have e2 : (fi != fi) = false := by simp
  have C := G.c_eqPage h h' D V (r.below HB.out) (r'.below HB.out) hf
  clear r r' hf
  go_enter Tryd.func59, Tryd.ntmps59
  go_wp2_with fail
  refine C.mono ?_
  rintro e w1 ⟨rfl, hb⟩
  have hb1 : Below w.heap.size w w1 := HB.out.trans (hb.mono HB.out.size)
  have by1 := bx1.out.belowS hb
  have by2 := bx2.out.belowS hb
  clear hb HB hV v0 v1 v2 v3 v4 u0 u1 u2 u3 u4 C bx1 bx2
  obtain ⟨v0, v1, v2, v3, v4⟩ := box5 by1
  obtain ⟨u0, u1, u2, u3, u4⟩ := box5 by2
  cases d
  all_goals
    go_wp2
    go_ret
    exact ⟨rfl, hb1⟩

end Go.Proofs.YtcokbogicbdoaaaDoor
