/-
  Right stores: a page of the disk: the walk of the program's readDiskPage.
-/
import Derived.Test.YtkpopingbbaomaaGreatDoorZzap
import Derived.Test.YtkpopingbbaomaaGreatDoorYtaq
import Derived.Test.YtkpopingbbaomaaGreatDoorZzaq
import Derived.Test.YtkpopingbbaomaaGreatDoorZzai
import Derived.Test.YtkpopingbbaomaaGreatDoorZzak
import Derived.Test.YtkpopingbbaomaaGreatDoorZzan
import Derived.Test.YtkpopingbbaomaaGreatDoorZzaf
import Derived.Test.YtkpopingbbaomaaGreatDoorZzaj
import Derived.Deep.RegionHeld3
namespace Go.Proofs.YtkpopingbbaomaaGreatDoor
open Go Go.RowKit
attribute [local go_sem ↓] Go.wp_at_zero Go.wp_at_succ

/-- The three blocks of a call that copies: its argument, its answer, and what it makes. -/
structure T3 (w V : World) (tA tR : TypeId) (xa xr xo : Array Value) : Prop where
  bel : Below w.heap.size w V
  a : Box V w.heap.size tA xa
  r : Box V (w.heap.size + 1) tR xr
  o : Box V (w.heap.size + 1 + 1) tR xo
  sz : w.heap.size + 1 + 1 + 1 ≤ V.heap.size
theorem T3.new (w : World) (tA tR : TypeId) (xa xr xo : Array Value) : T3 w (((w.alloc (.cells xa tA)).alloc (.cells xr tR)).alloc (.cells xo tR)) tA tR xa xr xo := by
  refine ⟨(((Below.refl _ _).alloc (Nat.le_refl _) _).alloc (by simp) _).alloc (by simp; omega) _, ((Box.new _ _ _).alloc _).alloc _, (Box.new2 _ _ _ _).alloc _, ?_, by simp⟩
  have := Box.new2 (w.alloc (.cells xa tA)) (.cells xr tR) xo tR
  rwa [show (w.alloc (.cells xa tA)).heap.size = w.heap.size + 1 by simp] at this
theorem T3.set {w V : World} {tA tR : TypeId} {xa xr xo : Array Value} (h : T3 w V tA tR xa xr xo) (i : Nat) (v : Value) {xo' : Array Value} (e : xo.setIfInBounds i v = xo') : T3 w (V.setCell ⟨w.heap.size + 1 + 1, i, none⟩ v) tA tR xa xr xo' := by
  refine ⟨h.bel.setCell (by simp; omega) _, h.a.setOther _ _ (by simp; omega), h.r.setOther _ _ (by simp), ?_, by simpa using h.sz⟩
  have := h.o.set i v
  rwa [e] at this
theorem T3.below {w V V' : World} {tA tR : TypeId} {xa xr xo : Array Value} (h : T3 w V tA tR xa xr xo) (hb : Below V.heap.size V V') : T3 w V' tA tR xa xr xo :=
  ⟨h.bel.trans (hb.mono h.bel.size), h.a.belowS hb, h.r.belowS hb, h.o.belowS hb, Nat.le_trans h.sz hb.size⟩
theorem loadVar5 {w : World} {r : Nat} {v0 v1 v2 v3 v4 : Value} (hb : Box w r 142 #[v0, v1, v2, v3, v4]) : (loadVar 142 ⟨r, 0, none⟩).run Tryz.prog w = .ok (.agg #[v0, v1, v2, v3, v4]) w := by
  obtain ⟨e0, e1, e2, e3, e4⟩ := box5 hb
  simp [go_sem, e0, e1, e2, e3, e4]
theorem ret5 {fn : Func} {p : Tmp} (h : fn.results = #[.cell p 142]) {R : Ending → World → Prop} {a : Act} {w : World} {r : Nat} {v0 v1 v2 v3 v4 : Value} (hp : a.tmps.getD p undef = .pointer (some ⟨r, 0, none⟩)) (hd : a.defers = []) (hb : Box w r 142 #[v0, v1, v2, v3, v4]) (hR : R (.returned (.agg #[v0, v1, v2, v3, v4])) w) : bodyPost Tryz.prog fn R .ret a w := by
  refine bodyPost_ret ?_ hd hR
  have hp' : a.tmps[p]?.getD undef = .pointer (some ⟨r, 0, none⟩) := by simpa using hp
  simp only [results, h]
  simp [hp', asAddr, loadVar5 hb]
theorem put5_box {V : World} {r : Nat} {t : TypeId} {x0 x1 x2 x3 x4 : Value} (h : Box V r t #[x0, x1, x2, x3, x4]) (v0 v1 v2 v3 v4 : Value) : Box (((((V.setCell ⟨r, 0, none⟩ (v0)).setCell ⟨r, 1, none⟩ (v1)).setCell ⟨r, 2, none⟩ (v2)).setCell ⟨r, 3, none⟩ (v3)).setCell ⟨r, 4, none⟩ (v4)) r t #[v0, v1, v2, v3, v4] := by
  have := ((((h.set 0 v0).set 1 v1).set 2 v2).set 3 v3).set 4 v4
  simpa using this
theorem put5_same (V : World) (r g : Nat) (v0 v1 v2 v3 v4 : Value) (hg : g ≠ r) : (((((V.setCell ⟨r, 0, none⟩ (v0)).setCell ⟨r, 1, none⟩ (v1)).setCell ⟨r, 2, none⟩ (v2)).setCell ⟨r, 3, none⟩ (v3)).setCell ⟨r, 4, none⟩ (v4)).heap[g]? = V.heap[g]? := by
  rw [Below.heap_setCell _ _ _ _ hg, Below.heap_setCell _ _ _ _ hg, Below.heap_setCell _ _ _ _ hg, Below.heap_setCell _ _ _ _ hg, Below.heap_setCell _ _ _ _ hg]
theorem put5_below {B : Nat} {w V : World} (hb : Below B w V) {r : Nat} (hr : B ≤ r) (v0 v1 v2 v3 v4 : Value) : Below B w (((((V.setCell ⟨r, 0, none⟩ (v0)).setCell ⟨r, 1, none⟩ (v1)).setCell ⟨r, 2, none⟩ (v2)).setCell ⟨r, 3, none⟩ (v3)).setCell ⟨r, 4, none⟩ (v4)) := ((((hb.setCell hr _).setCell hr _).setCell hr _).setCell hr _).setCell hr _
set_option maxRecDepth 100000 in
set_option maxHeartbeats 8000000 in
theorem c_szPage2 (h : G.HG) (D : G.DG) (left : Int) (w : World) (r : G.RdG w h D) (m0 : h.n ≤ maxLen) (s0 : ∀ s ∈ D.S, s.size ≤ maxLen) (hl0 : 0 ≤ left) (hl1 : left ≤ 1048576) :
    Calls Tryz.prog 243 #[.agg #[.int .i64 h.l, .slice h.a h.n h.c], .int .i64 left] w fun e w' => (∃ z : Int, e = .returned (.int .i64 z) ∧ z ≤ left ∧ (0 ≤ z → G.FitG D)) ∧ Below w.heap.size w w' := by
  have k0 := r.len
  obtain ⟨rl, r0⟩ := r
  obtain ⟨l, a, n, c⟩ := h
  simp only at *
  subst k0 rl
  have R0 : Hid (RdV w a D.S.length (D.S.map Value.string)) := r0
  have S0 : Hid (∀ s ∈ D.S, s.size ≤ maxLen) := s0
  clear r0 s0
  obtain ⟨V, hV⟩ : ∃ V, w.alloc (.cells #[.int .i64 D.L, .slice a D.S.length c] 217) = V := ⟨_, rfl⟩
  have HB : Hid (Below w.heap.size w V) := by unfold Hid; rw [← hV]; exact (Below.refl _ _).alloc (Nat.le_refl _) _
  have bx1 : Box V w.heap.size 217 #[.int .i64 D.L, .slice a D.S.length c] := by rw [← hV]; exact Box.new _ _ _
  obtain ⟨v0, v1⟩ := G.box2 bx1
  clear bx1
  go_enter Tryz.func243, Tryz.ntmps243
  go_wp2_with fail
  refine (c_szS a _ c D.S left V (R0.out.below HB.out) m0 S0.out hl0 hl1).mono ?_
  rintro e w1 ⟨rfl, hq⟩
  have hb1 := HB.out
  rw [← hq] at hb1
  clear hq HB hV v0 v1
  obtain ⟨z1, hz1⟩ : ∃ z, z = sizeS left D.S.length D.S := ⟨_, rfl⟩
  rw [← hz1]
  by_cases hn1 : z1 < 0
  · clear hz1
    go_wp2
    go_ret
    exact ⟨⟨_, rfl, by omega, fun h => absurd h (by omega)⟩, hb1⟩
  · have q1 : z1 ≤ left ∧ Hid (G.FitG D) := by
      unfold sizeS at hz1
      by_cases h1 : left - D.S.length < 0
      · rw [if_pos h1] at hz1; omega
      · rw [if_neg h1] at hz1
        have := szL_ok D.S (left - D.S.length) (by omega) (by omega)
        exact ⟨by omega, by omega, fun s h => by have := this.2 s h; omega⟩
    clear hz1
    go_wp2
    go_ret
    exact ⟨⟨_, rfl, q1.1, fun _ => q1.2.out⟩, hb1⟩
set_option maxRecDepth 100000 in
set_option maxHeartbeats 8000000 in
theorem c_szFr (no fi : Int) (d : Bool) (h : G.HG) (D : G.DG) (left : Int) (w : World) (r : G.RdG w h D) (m0 : h.n ≤ maxLen) (s0 : ∀ s ∈ D.S, s.size ≤ maxLen) (hl0 : 0 ≤ left) (hl1 : left ≤ 1048576) :
    Calls Tryz.prog 177 #[.agg #[.int .i64 no, .int .i64 h.l, .slice h.a h.n h.c, .bool d, .int .i64 fi], .int .i64 left] w fun e w' => (∃ z : Int, e = .returned (.int .i64 z) ∧ z ≤ left ∧ (0 ≤ z → G.FitG D)) ∧ Below w.heap.size w w' := by
  obtain ⟨V, hV⟩ : ∃ V, w.alloc (.cells #[.int .i64 no, .int .i64 h.l, .slice h.a h.n h.c, .bool d, .int .i64 fi] 219) = V := ⟨_, rfl⟩
  have HB : Hid (Below w.heap.size w V) := by unfold Hid; rw [← hV]; exact (Below.refl _ _).alloc (Nat.le_refl _) _
  have bx1 : Box V w.heap.size 219 #[.int .i64 no, .int .i64 h.l, .slice h.a h.n h.c, .bool d, .int .i64 fi] := by rw [← hV]; exact Box.new _ _ _
  obtain ⟨v0, v1, v2, v3, v4⟩ := box5 bx1
  have C := c_szPage2 h D left V (r.below HB.out) m0 s0 hl0 hl1
  clear bx1 r m0 s0
  go_enter Tryz.func177, Tryz.ntmps177
  go_wp2_with fail
  refine C.mono ?_
  rintro e w1 ⟨⟨z, rfl, hz, hf⟩, hb⟩
  have hb1 : Below w.heap.size w w1 := HB.out.trans (hb.mono HB.out.size)
  have HF : Hid (0 ≤ z → G.FitG D) := hf
  clear hf hb HB hV v0 v1 v2 v3 v4 C
  by_cases hn : z < 0
  · go_wp2
    go_ret
    exact ⟨⟨_, rfl, by omega, fun h => absurd h (by omega)⟩, hb1⟩
  · go_wp2
    go_ret
    exact ⟨⟨_, rfl, hz, HF.out⟩, hb1⟩
set_option maxRecDepth 100000 in
set_option maxHeartbeats 8000000 in
theorem c_toFr (no fi : Int) (d : Bool) (h : G.HG) (D : G.DG) (w : World) (r : G.RdG w h D) (hf : G.FitG D) :
    Calls Tryz.prog 182 #[.agg #[.int .i64 no, .int .i64 h.l, .slice h.a h.n h.c, .bool d, .int .i64 fi]] w fun e w' => (∃ h' : G.HG, e = .returned (.agg #[.int .i64 no, .int .i64 h'.l, .slice h'.a h'.n h'.c, .bool d, .int .i64 fi]) ∧ G.OwnG w' w.heap.size w'.heap.size h' D) ∧ Below w.heap.size w w' := by
  obtain ⟨V, hV⟩ : ∃ V, ((w.alloc (.cells #[.int .i64 no, .int .i64 h.l, .slice h.a h.n h.c, .bool d, .int .i64 fi] 219)).alloc (.cells #[.int .i64 0, .int .i64 0, .slice none 0 0, .bool false, .int .i64 0] 142)).alloc (.cells #[.int .i64 0, .int .i64 0, .slice none 0 0, .bool false, .int .i64 0] 142) = V := ⟨_, rfl⟩
  have T0 : T3 w V 219 142 #[.int .i64 no, .int .i64 h.l, .slice h.a h.n h.c, .bool d, .int .i64 fi] #[.int .i64 0, .int .i64 0, .slice none 0 0, .bool false, .int .i64 0] #[.int .i64 0, .int .i64 0, .slice none 0 0, .bool false, .int .i64 0] := by rw [← hV]; exact T3.new _ _ _ _ _ _
  obtain ⟨V1, hV1⟩ : ∃ W, V.setCell ⟨w.heap.size + 1 + 1, 0, none⟩ (.int .i64 no) = W := ⟨_, rfl⟩
  have T1 : Hid (T3 w V1 219 142 #[.int .i64 no, .int .i64 h.l, .slice h.a h.n h.c, .bool d, .int .i64 fi] #[.int .i64 0, .int .i64 0, .slice none 0 0, .bool false, .int .i64 0] #[.int .i64 no, .int .i64 0, .slice none 0 0, .bool false, .int .i64 0]) := by unfold Hid; rw [← hV1]; exact T0.set 0 _ rfl
  obtain ⟨v0, v1, v2, v3, v4⟩ := box5 T0.a
  obtain ⟨x0, x1, x2, x3, x4⟩ := box5 T1.out.a
  obtain ⟨u0, u1, u2, u3, u4⟩ := box5 T0.o
  have t0 := T0.o.thaw 0
  have C := G.c_toPage h D V1 (r.below T1.out.bel) hf
  clear T0 r hf
  go_enter Tryz.func182, Tryz.ntmps182
  go_wp2_with fail
  refine C.mono ?_
  rintro e w2 ⟨⟨h', rfl, o2⟩, hb⟩
  have T2 : Hid (T3 w w2 219 142 #[.int .i64 no, .int .i64 h.l, .slice h.a h.n h.c, .bool d, .int .i64 fi] #[.int .i64 0, .int .i64 0, .slice none 0 0, .bool false, .int .i64 0] #[.int .i64 no, .int .i64 0, .slice none 0 0, .bool false, .int .i64 0]) := T1.out.below hb
  have l1 := T1.out.sz
  have O2 : Hid (G.OwnG w2 V1.heap.size w2.heap.size h' D) := o2
  have L2 : V1.heap.size ≤ w2.heap.size := hb.size
  clear v0 v1 v2 v3 v4 x0 x1 x2 x3 x4 u0 u1 u2 u3 u4 t0 C hb o2 hV1 hV
  obtain ⟨V3, hV3⟩ : ∃ W, w2.setCell ⟨w.heap.size + 1 + 1, 1, none⟩ (.int .i64 h'.l) = W := ⟨_, rfl⟩
  have T3' : Hid (T3 w V3 219 142 #[.int .i64 no, .int .i64 h.l, .slice h.a h.n h.c, .bool d, .int .i64 fi] #[.int .i64 0, .int .i64 0, .slice none 0 0, .bool false, .int .i64 0] #[.int .i64 no, .int .i64 h'.l, .slice none 0 0, .bool false, .int .i64 0]) := by unfold Hid; rw [← hV3]; exact T2.out.set 1 _ rfl
  obtain ⟨V4, hV4⟩ : ∃ W, V3.setCell ⟨w.heap.size + 1 + 1, 2, none⟩ (.slice h'.a h'.n h'.c) = W := ⟨_, rfl⟩
  have T4 : Hid (T3 w V4 219 142 #[.int .i64 no, .int .i64 h.l, .slice h.a h.n h.c, .bool d, .int .i64 fi] #[.int .i64 0, .int .i64 0, .slice none 0 0, .bool false, .int .i64 0] #[.int .i64 no, .int .i64 h'.l, .slice h'.a h'.n h'.c, .bool false, .int .i64 0]) := by unfold Hid; rw [← hV4]; exact T3'.out.set 2 _ rfl
  obtain ⟨V5, hV5⟩ : ∃ W, V4.setCell ⟨w.heap.size + 1 + 1, 3, none⟩ (.bool d) = W := ⟨_, rfl⟩
  have T5 : Hid (T3 w V5 219 142 #[.int .i64 no, .int .i64 h.l, .slice h.a h.n h.c, .bool d, .int .i64 fi] #[.int .i64 0, .int .i64 0, .slice none 0 0, .bool false, .int .i64 0] #[.int .i64 no, .int .i64 h'.l, .slice h'.a h'.n h'.c, .bool d, .int .i64 0]) := by unfold Hid; rw [← hV5]; exact T4.out.set 3 _ rfl
  obtain ⟨V6, hV6⟩ : ∃ W, V5.setCell ⟨w.heap.size + 1 + 1, 4, none⟩ (.int .i64 fi) = W := ⟨_, rfl⟩
  have T6 : Hid (T3 w V6 219 142 #[.int .i64 no, .int .i64 h.l, .slice h.a h.n h.c, .bool d, .int .i64 fi] #[.int .i64 0, .int .i64 0, .slice none 0 0, .bool false, .int .i64 0] #[.int .i64 no, .int .i64 h'.l, .slice h'.a h'.n h'.c, .bool d, .int .i64 fi]) := by unfold Hid; rw [← hV6]; exact T5.out.set 4 _ rfl
  have O6 : Hid (G.OwnG V6 V1.heap.size w2.heap.size h' D) := by
    unfold Hid
    rw [← hV6, ← hV5, ← hV4, ← hV3]
    exact O2.out.same (by simp) fun g h1 _ => by rw [Below.heap_setCell _ _ _ _ (by simp; omega), Below.heap_setCell _ _ _ _ (by simp; omega), Below.heap_setCell _ _ _ _ (by simp; omega), Below.heap_setCell _ _ _ _ (by simp; omega)]
  have a3 : V4.cell? ⟨w.heap.size, 3, none⟩ = some (.bool d) := T4.out.a.cell 3
  have a4 : V5.cell? ⟨w.heap.size, 4, none⟩ = some (.int .i64 fi) := T5.out.a.cell 4
  have c1 : w2.cell? ⟨w.heap.size + 1 + 1, 1, none⟩ = some (.int .i64 0) := T2.out.o.cell 1
  have c2 : V3.cell? ⟨w.heap.size + 1 + 1, 2, none⟩ = some (.slice none 0 0) := T3'.out.o.cell 2
  have c3 : V4.cell? ⟨w.heap.size + 1 + 1, 3, none⟩ = some (.bool false) := T4.out.o.cell 3
  have c4 : V5.cell? ⟨w.heap.size + 1 + 1, 4, none⟩ = some (.int .i64 0) := T5.out.o.cell 4
  have z1 := T2.out.o.thaw 1
  have z2 := T3'.out.o.thaw 2
  have z3 := T4.out.o.thaw 3
  have z4 := T5.out.o.thaw 4
  obtain ⟨y0, y1, y2, y3, y4⟩ := box5 T6.out.o
  obtain ⟨r0, r1, r2, r3, r4⟩ := box5 T6.out.r
  have s0 := T6.out.r.thaw 0
  have s1 := T6.out.r.thaw 1
  have s2 := T6.out.r.thaw 2
  have s3 := T6.out.r.thaw 3
  have s4 := T6.out.r.thaw 4
  clear T1 T2 T3' T4 T5 O2
  go_wp2
  refine ret5 Tryz.results182 rfl rfl (put5_box T6.out.r _ _ _ _ _) ⟨⟨h', rfl, ?_⟩, put5_below T6.out.bel (by omega) _ _ _ _ _⟩
  have := O6.out.same (w' := (((((V6.setCell ⟨w.heap.size + 1, 0, none⟩ (.int .i64 no)).setCell ⟨w.heap.size + 1, 1, none⟩ (.int .i64 h'.l)).setCell ⟨w.heap.size + 1, 2, none⟩ (.slice h'.a h'.n h'.c)).setCell ⟨w.heap.size + 1, 3, none⟩ (.bool d)).setCell ⟨w.heap.size + 1, 4, none⟩ (.int .i64 fi))) (by simp) (fun g h1 _ => put5_same V6 (w.heap.size + 1) g _ _ _ _ _ (by omega))
  exact this.wide (B' := w.heap.size) (by omega)
set_option maxRecDepth 100000 in
set_option maxHeartbeats 8000000 in
theorem c_eqF1 (no fi : Int) (d : Bool) (h h' : G.HG) (D : G.DG) (w : World) (r : G.RdG w h D) (r' : G.RdG w h' D) (hf : G.FitG D) :
    Calls Tryz.prog 190 #[.agg #[.int .i64 no, .int .i64 h.l, .slice h.a h.n h.c, .bool d, .int .i64 fi], .agg #[.int .i64 no, .int .i64 h'.l, .slice h'.a h'.n h'.c, .bool d, .int .i64 fi]] w fun e w' => e = .returned (.bool true) ∧ Below w.heap.size w w' := by
  obtain ⟨V, hV⟩ : ∃ V, (w.alloc (.cells #[.int .i64 no, .int .i64 h.l, .slice h.a h.n h.c, .bool d, .int .i64 fi] 142)).alloc (.cells #[.int .i64 no, .int .i64 h'.l, .slice h'.a h'.n h'.c, .bool d, .int .i64 fi] 142) = V := ⟨_, rfl⟩
  have HB : Hid (Below w.heap.size w V) := by unfold Hid; rw [← hV]; exact ((Below.refl _ _).alloc (Nat.le_refl _) _).alloc (by simp) _
  have bx1 : Hid (Box V w.heap.size 142 #[.int .i64 no, .int .i64 h.l, .slice h.a h.n h.c, .bool d, .int .i64 fi]) := by unfold Hid; rw [← hV]; exact (Box.new _ _ _).alloc _
  have bx2 : Hid (Box V (w.heap.size + 1) 142 #[.int .i64 no, .int .i64 h'.l, .slice h'.a h'.n h'.c, .bool d, .int .i64 fi]) := by unfold Hid; rw [← hV]; exact Box.new2 _ _ _ _
  obtain ⟨v0, v1, v2, v3, v4⟩ := box5 bx1.out
  obtain ⟨u0, u1, u2, u3, u4⟩ := box5 bx2.out
  have e0 : (no != no) = false := by simp
  have e1 : (d != d) = false := by simp
  have e2 : (fi != fi) = false := by simp
  have C := G.c_eqPage h h' D V (r.below HB.out) (r'.below HB.out) hf
  clear r r' hf
  go_enter Tryz.func190, Tryz.ntmps190
  go_wp2_with fail
  refine C.mono ?_
  rintro e w1 ⟨rfl, hb⟩
  have hb1 : Below w.heap.size w w1 := HB.out.trans (hb.mono HB.out.size)
  have by1 := bx1.out.belowS hb
  have by2 := bx2.out.belowS hb
  clear hb HB hV v0 v1 v2 v3 v4 u0 u1 u2 u3 u4 C bx1 bx2
  obtain ⟨v0, v1, v2, v3, v4⟩ := box5 by1
  obtain ⟨u0, u1, u2, u3, u4⟩ := box5 by2
  cases d
  all_goals
    go_wp2
    go_ret
    exact ⟨rfl, hb1⟩

end Go.Proofs.YtkpopingbbaomaaGreatDoor
namespace Go.Proofs.YtkpopingbbaomaaGreatDoor
open Go Go.RowKit
attribute [local go_sem ↓] Go.wp_at_zero Go.wp_at_succ

/-- The record that a sector's text is, if it is one. -/
def rcO (s : ByteArray) : Option DR := if unsB (numsT s) then rrD (headZ (numsT s)) else none
theorem rc_some {s : ByteArray} {D : DR} (hs : s.size ≤ 65536) (h : rcO s = some D) : rdC2 (numsT s) = 0 ∧ rdR2 (numsT s) = D := by
  unfold rcO at h
  split at h
  · rename_i hu
    exact rq0 (by rw [nums_len]; omega) hu h
  · cases h
theorem rc_none {s : ByteArray} (hs : s.size ≤ 65536) (h : rcO s = none) : ∃ c, rdC2 (numsT s) = c ∧ rdR2 (numsT s) = zeroR ∧ (c != 0) = true := by
  unfold rcO at h
  have hl : ¬ 65536 < (numsT s).length := by rw [nums_len]; omega
  split at h
  · rename_i hu
    exact ⟨3, (rq3 hl hu h).1, (rq3 hl hu h).2, rfl⟩
  · rename_i hu
    exact ⟨8, (rq8 hl (by simpa using hu)).1, (rq8 hl (by simpa using hu)).2, rfl⟩
theorem rr_ok {x : List Int} {D : DR} (h : rrD x = some D) : okLR D = true := by
  unfold rrD at h
  split at h
  · cases h
  · split at h
    · split at h
      · split at h
        · rename_i hk; cases h; exact hk
        · cases h
      · cases h
    · cases h
theorem rc_ok {s : ByteArray} {D : DR} (h : rcO s = some D) : okLR D = true := by
  unfold rcO at h
  split at h
  · exact rr_ok h
  · cases h
theorem rc_rng {s : ByteArray} {D : DR} (h : rcO s = some D) : (1 ≤ D.e ∧ D.e ≤ 60) ∧ (1 ≤ D.l ∧ D.l ≤ 60) := by
  have := rc_ok h
  unfold okLR inB at this
  simp only [Bool.and_eq_true, decide_eq_true_eq] at this
  exact ⟨⟨by omega, by omega⟩, ⟨by omega, by omega⟩⟩
def lastE (acc : List DR) : Int := (acc.getLast?.map (·.e)).getD 0
theorem lastE_nil : lastE [] = 0 := rfl
theorem lastE_app (acc : List DR) (r : DR) : lastE (acc ++ [r]) = r.e := by unfold lastE; rw [List.getLast?_append]; rfl
theorem lastE_get (acc : List DR) (p : Nat) (h : acc.length = p + 1) : lastE acc = (acc.getD p zeroR).e := by
  unfold lastE
  rw [List.getLast?_eq_getElem?, h, List.getD_eq_getElem?_getD, Nat.add_sub_cancel, List.getElem?_eq_getElem (by omega)]
  rfl
/-- The next record, if there is one. -/
def stepL (T : Nat → ByteArray) (n0 : Nat) (ep : Int) (acc : List DR) : Option DR :=
  if 9 + acc.length < n0 then (match rcO (T (9 + acc.length)) with | some r => if r.l = (acc.length : Int) + 1 ∧ lastE acc ≤ r.e ∧ r.e ≤ ep then some r else none | none => none) else none
def logL (T : Nat → ByteArray) (n0 : Nat) (ep : Int) : Nat → List DR → List DR
  | 0, acc => acc
  | f + 1, acc => match stepL T n0 ep acc with | some r => logL T n0 ep f (acc ++ [r]) | none => acc
theorem st_far {T : Nat → ByteArray} {n0 : Nat} {ep : Int} {acc : List DR} {k : Nat} (hk : acc.length = k) (h : ¬ 9 + k < n0) : stepL T n0 ep acc = none := by subst hk; unfold stepL; rw [if_neg h]
theorem st_none {T : Nat → ByteArray} {n0 : Nat} {ep : Int} {acc : List DR} {k : Nat} (hk : acc.length = k) (h : rcO (T (9 + k)) = none) : stepL T n0 ep acc = none := by subst hk; unfold stepL; rw [h]; split <;> rfl
theorem st_bad {T : Nat → ByteArray} {n0 : Nat} {ep : Int} {acc : List DR} {k : Nat} (hk : acc.length = k) {r : DR} (h : rcO (T (9 + k)) = some r) (hb : ¬ (r.l = (k : Int) + 1 ∧ lastE acc ≤ r.e ∧ r.e ≤ ep)) : stepL T n0 ep acc = none := by
  subst hk; unfold stepL; rw [h]; split
  · exact if_neg hb
  · rfl
theorem st_good {T : Nat → ByteArray} {n0 : Nat} {ep : Int} {acc : List DR} {k : Nat} (hk : acc.length = k) (h9 : 9 + k < n0) {r : DR} (h : rcO (T (9 + k)) = some r) (hb : r.l = (k : Int) + 1 ∧ lastE acc ≤ r.e ∧ r.e ≤ ep) : stepL T n0 ep acc = some r := by
  subst hk; unfold stepL; rw [if_pos h9, h]; exact if_pos hb
theorem log_end {T : Nat → ByteArray} {n0 : Nat} {ep : Int} {acc R : List DR} {k : Nat} (h9 : k ≤ 100) (HL : logL T n0 ep (200 - k) acc = R) (hs : stepL T n0 ep acc = none) : R = acc := by
  rw [show 200 - k = (199 - k) + 1 by omega] at HL
  rw [← HL]
  unfold logL
  rw [hs]
theorem log_more {T : Nat → ByteArray} {n0 : Nat} {ep : Int} {acc R : List DR} {k : Nat} (h9 : k ≤ 100) (HL : logL T n0 ep (200 - k) acc = R) {r : DR} (hs : stepL T n0 ep acc = some r) : logL T n0 ep (200 - (k + 1)) (acc ++ [r]) = R := by
  rw [show 200 - k = (200 - (k + 1)) + 1 by omega] at HL
  rw [← HL]
  conv => rhs; unfold logL
  rw [hs]
def logR (D : DD) (ep : Int) : List DR := if okD D && inB ep 0 60 then logL (rdS D.S D.C) D.S.length ep 200 [] else []
def logC (D : DD) (ep : Int) : Int := if okD D then (if inB ep 0 60 then 0 else 4) else 1
theorem lg_bad {D : DD} {ep : Int} (h : okD D = false) : logR D ep = [] ∧ logC D ep = 1 := by unfold logR logC; rw [h]; exact ⟨rfl, rfl⟩
theorem lg_ep {D : DD} {ep : Int} (h : okD D = true) (h' : inB ep 0 60 = false) : logR D ep = [] ∧ logC D ep = 4 := by unfold logR logC; rw [h, h']; exact ⟨rfl, rfl⟩
theorem lg_yes {D : DD} {ep : Int} (h : okD D = true) (h' : inB ep 0 60 = true) : logL (rdS D.S D.C) D.S.length ep 200 [] = logR D ep ∧ logC D ep = 0 := by unfold logR logC; rw [h, h']; exact ⟨rfl, rfl⟩
theorem ok_parts {D : DD} (h : okD D = true) : (D.S.length ≤ 100 ∧ D.C.length ≤ 500) ∧ (∀ s ∈ D.S, s.size ≤ 160) ∧ ∀ p ∈ D.C, p.2.size ≤ 160 := by
  unfold okD at h
  simp only [Bool.and_eq_true, decide_eq_true_eq, List.all_eq_true] at h
  refine ⟨⟨h.1.2.1, h.1.2.2.1⟩, h.2.1, fun p hp => ?_⟩
  have := h.2.2.1 p hp
  unfold goodC at this
  simp only [Bool.and_eq_true, decide_eq_true_eq] at this
  exact this.2
theorem rdS_size {S : List ByteArray} {C : List PP} {j : Nat} (h0 : ∀ s ∈ S, s.size ≤ 160) (h1 : ∀ p ∈ C, p.2.size ≤ 160) : (rdS S C j).size ≤ 160 := by
  cases hf : fdB (bkL C C.length C.length) j with
  | none =>
    rw [rdS_miss hf, List.getD_eq_getElem?_getD]
    cases hs : S[j]? with
    | none => exact Nat.zero_le _
    | some s => exact h0 s (List.mem_of_getElem? hs)
  | some y =>
    rw [rdS_hit (Nat.le_refl _) hf]
    unfold fdB at hf
    have hm := List.mem_of_find?_eq_some hf
    unfold bkL at hm
    obtain ⟨i, hi, rfl⟩ := List.mem_map.1 hm
    have hi' := List.mem_range.1 hi
    unfold bkF
    dsimp only
    refine h1 _ ?_
    rw [List.getD_eq_getElem?_getD, List.getElem?_eq_getElem (by omega)]
    exact List.getElem_mem _
theorem infoQm : (Tryz.prog.info? 78).map (fun i => (i.zero, i.size, i.bytes)) = some (some (.agg #[.int .i64 0, .int .i64 0, .int .i64 0, .int .i64 0, .int .i64 0, .int .i64 0, .int .i64 0, .int .i64 0, .string ⟨#[]⟩, .string ⟨#[]⟩]), 10, 96) := by kernel_rfl
theorem cQ_one (v : DR) : ∀ u ∈ cQ v, u.oneCell' = true := by
  intro u hu
  unfold cQ at hu
  simp only [List.mem_cons, List.not_mem_nil, or_false] at hu
  rcases hu with rfl | rfl | rfl | rfl | rfl | rfl | rfl | rfl | rfl | rfl <;> rfl
theorem box_newQ {w : World} {g : Nat} {v : DR} {ty : TypeId} (hb : Box w g ty (agR v)) : ∀ j u, (cQ v)[j]? = some u → w.cell? ((⟨g, 0, none⟩ : Addr).add j) = some u := by
  intro j u h
  have e : (⟨g, 0, none⟩ : Addr).add j = ⟨g, j, none⟩ := by unfold Addr.add; split <;> simp_all
  rw [e, hb.cell]
  unfold cQ at h
  unfold agR
  simpa using h

end Go.Proofs.YtkpopingbbaomaaGreatDoor
namespace Go.Proofs.YtkpopingbbaomaaGreatDoor
open Go Go.RowKit
attribute [local go_sem ↓] Go.wp_at_zero Go.wp_at_succ

/-- The page that a sector's text is, if it is one. -/
def pgO (no : Int) (s : ByteArray) : Option G.DG := if s.toList.isEmpty then some G.newG else if unsB (numsT s) then G.rpD no (headZ (numsT s)) else none
theorem pg_new {no : Int} {s : ByteArray} (h : s.toList.isEmpty = true) : pgO no s = some G.newG := by unfold pgO; rw [h]; rfl
theorem pg_at {no : Int} {s : ByteArray} (hs : s.size ≤ 65536) (h : s.toList.isEmpty = false) : (G.rdC no (numsT s) = 0 ↔ (pgO no s).isSome = true) ∧ ∀ P, pgO no s = some P → G.rdR no (numsT s) = P := by
  have hl : ¬ 65536 < (numsT s).length := by rw [nums_len]; omega
  unfold pgO G.rdC G.rdR
  rw [h, if_neg hl, if_neg hl]
  cases hu : unsB (numsT s)
  · simp
  · cases hr : G.rpD no (headZ (numsT s)) with
    | none => simp
    | some P => simp [G.rpP]
set_option maxRecDepth 100000 in
set_option maxHeartbeats 4000000 in
theorem c_readDP (h : HD) (D : DD) (p : Nat) (w : World) (r : RdD w h D) (hok : okD D = true) (hp : 1 + p < h.n0) (ht : TabH w) :
    Calls Tryz.prog 209 #[.agg #[.slice h.a0 h.n0 h.c0, .slice h.a1 h.n1 h.c1, .bool h.b, .slice h.a2 h.n2 h.c2], .int .i64 (p : Int)] w fun e w' => (∃ (h' : G.HG) (c : Int), e = .returned (.tuple #[.agg #[.int .i64 h'.l, .slice h'.a h'.n h'.c], .int .i64 c]) ∧ (c = 0 ↔ (pgO p (rdS D.S D.C (1 + p))).isSome = true) ∧ ∀ P, pgO p (rdS D.S D.C (1 + p)) = some P → h'.l = P.L) ∧ Below w.heap.size w w' := by
  have hn0 : h.n0 ≤ 100 := by have := (ok_parts hok).1.1; have := r.l0; omega
  have hn1 : h.n1 ≤ 500 := by have := (ok_parts hok).1.2; have := r.l1; omega
  obtain ⟨V, hV⟩ : ∃ V, (w.alloc (.cells #[.slice h.a0 h.n0 h.c0, .slice h.a1 h.n1 h.c1, .bool h.b, .slice h.a2 h.n2 h.c2] 42)).alloc (.cells #[.int .i64 0, .slice none 0 0] 140) = V := ⟨_, rfl⟩
  have HB : Hid (Below w.heap.size w V) := by unfold Hid; rw [← hV]; exact ((Below.refl _ _).alloc (Nat.le_refl _) _).alloc (by simp) _
  have X : Hid (Box V w.heap.size 42 #[.slice h.a0 h.n0 h.c0, .slice h.a1 h.n1 h.c1, .bool h.b, .slice h.a2 h.n2 h.c2]) := by unfold Hid; rw [← hV]; exact (Box.new _ _ _).alloc _
  have Y : Hid (Box V (w.heap.size + 1) 140 #[.int .i64 0, .slice none 0 0]) := by
    unfold Hid; rw [← hV]
    have := Box.new (w.alloc (.cells #[.slice h.a0 h.n0 h.c0, .slice h.a1 h.n1 h.c1, .bool h.b, .slice h.a2 h.n2 h.c2] 42)) #[.int .i64 0, .slice none 0 0] 140
    rwa [World.size_alloc] at this
  have HT : Hid (TabH w) := ht
  obtain ⟨s, hs⟩ : ∃ s, s = rdS D.S D.C (1 + p) := ⟨_, rfl⟩
  have hsz : s.size ≤ 160 := by rw [hs]; exact rdS_size (ok_parts hok).2.1 (ok_parts hok).2.2
  have RS := c_readSector h.a0 h.n0 h.c0 h.a1 h.n1 h.c1 h.b h.a2 h.n2 h.c2 D.S D.C (1 + p) V (r.2.1.below HB.out) (r.2.2.1.below HB.out) hp (by omega) (by omega)
  rw [← hs] at RS ⊢
  have RSx : Hid (∀ x : Int, x = 1 + (p : Int) → Calls Tryz.prog 237 #[.agg #[.slice h.a0 h.n0 h.c0, .slice h.a1 h.n1 h.c1, .bool h.b, .slice h.a2 h.n2 h.c2], .int .i64 x] V fun e W' => e = .returned (.string s) ∧ Below V.heap.size V W') := fun x hx => by
    rw [hx, show (1 + (p : Int)) = ((1 + p : Nat) : Int) by omega]; exact RS
  clear RS hs r ht hok
  obtain ⟨x0, x1, x2, x3⟩ := box4 X.out
  go_enter Tryz.func209, Tryz.ntmps209
  go_wp2_with fail
  refine (RSx.out _ (by omega)).mono ?_
  rintro e w1 ⟨rfl, hb1⟩
  have B1 : Hid (Below w.heap.size w w1) := HB.out.trans (hb1.mono HB.out.size)
  have Y1 : Hid (Box w1 (w.heap.size + 1) 140 #[.int .i64 0, .slice none 0 0]) := Y.out.belowS hb1
  clear hb1 HB X Y hV RSx x0 x1 x2 x3
  cases he : s.toList.isEmpty
  · have hcv : ∀ W : World, (convert 9 237 (.string s)).run Tryz.prog W = .ok (.slice (some ⟨W.heap.size, 0, none⟩) s.size (grownCap W s.size 0 5)) (W.drew.alloc (.cells (bytesRow s (grownCap W s.size 0 5)) 5 ((bytesRow s (grownCap W s.size 0 5)).size, (bytesRow s (grownCap W s.size 0 5)).size + 1))) := fun W => run_bytes_of_string (P := Tryz.prog) W 9 237 5 s Tryz.underlying9 Tryz.underlying237 Tryz.underlying5
    have CR : Hid (∀ (c : Nat) (fr : Nat × Nat), s.size ≤ c → Calls Tryz.prog 271 #[.int .i64 (p : Int), .slice (some ⟨w1.heap.size, 0, none⟩) s.size c] (w1.drew.alloc (.cells (bytesRow s c) 5 fr)) fun e w' => (∃ h' : G.HG, e = .returned (.tuple #[.agg #[.int .i64 h'.l, .slice h'.a h'.n h'.c], .int .i64 (G.rdC p (numsT s))]) ∧ G.OwnG w' (w1.drew.alloc (.cells (bytesRow s c) 5 fr)).heap.size w'.heap.size h' (G.rdR p (numsT s))) ∧ Below (w1.drew.alloc (.cells (bytesRow s c) 5 fr)).heap.size (w1.drew.alloc (.cells (bytesRow s c) 5 fr)) w') := fun c fr hc =>
      G.c_implRP p (some ⟨w1.heap.size, 0, none⟩) s.size c (numsT s) (w1.drew.alloc (.cells (bytesRow s c) 5 fr)) (by
        have := conv_rdV (W := w1.drew) (zs := numsT s) (c := c) (fr := fr) (nums_bytes s)
        rw [nums_get, nums_len] at this
        exact this) (nums_bytes s) (by omega) hc (HT.out.below ((B1.out.drew).alloc (by have := B1.out.size; simpa using this) _))
    have HP : Hid (_ ∧ _) := pg_at (no := p) (s := s) (by omega) he
    have hne : (s.toList == []) = false := by cases hh : s.toList with | nil => rw [hh] at he; cases he | cons _ _ => rfl
    go_wp2_with fail
    refine (CR.out _ _ (grownCap_ge _ _ _ _)).mono ?_
    rintro e w2 ⟨⟨h2, rfl, o2⟩, hb2⟩
    have HL2 : Hid (h2.l = (G.rdR p (numsT s)).L) := o2.1
    have BA : Hid (Below w1.heap.size w1 w2) := ((Below.refl _ _).drew.alloc (Nat.le_refl _) _).trans (hb2.mono (by simp))
    have B2 : Hid (Below w.heap.size w w2) := B1.out.trans (BA.out.mono B1.out.size)
    have Y2 : Hid (Box w2 (w.heap.size + 1) 140 #[.int .i64 0, .slice none 0 0]) := Y1.out.belowS BA.out
    clear hb2 hcv CR o2 BA B1 Y1
    obtain ⟨u0, u1⟩ := G.box2 Y2.out
    have t0 := Y2.out.thaw 0
    have t1 := Y2.out.thaw 1
    go_wp2
    refine G.retG2 Tryz.results209 rfl rfl rfl (G.put2_box Y2.out _ _) ⟨⟨h2, _, rfl, HP.out.1, fun P hP => by rw [HL2.out, HP.out.2 P hP]⟩, G.put2_below B2.out (by omega) _ _⟩
  · have HP : Hid (pgO p s = some G.newG) := pg_new he
    have hse : s.toList = [] := List.isEmpty_iff.1 he
    clear he
    go_wp2_with fail
    refine (G.c_implNew w1).mono ?_
    rintro e w2 ⟨⟨h2, rfl, o2⟩, hb2⟩
    have HL2 : Hid (h2.l = G.newG.L) := o2.1
    have B2 : Hid (Below w.heap.size w w2) := B1.out.trans (hb2.mono B1.out.size)
    have Y2 : Hid (Box w2 (w.heap.size + 1) 140 #[.int .i64 0, .slice none 0 0]) := Y1.out.belowS hb2
    clear hb2 o2 B1 Y1
    obtain ⟨u0, u1⟩ := G.box2 Y2.out
    have t0 := Y2.out.thaw 0
    have t1 := Y2.out.thaw 1
    go_wp2
    refine G.retG2 Tryz.results209 rfl rfl rfl (G.put2_box Y2.out _ _) ⟨⟨h2, 0, rfl, by rw [HP.out]; simp, fun P hP => by rw [HP.out] at hP; cases hP; exact HL2.out⟩, G.put2_below B2.out (by omega) _ _⟩

end Go.Proofs.YtkpopingbbaomaaGreatDoor
