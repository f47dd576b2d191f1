/-
  Engines: their sizes, copies and comparisons.
-/
import Derived.Test.YtfibdpfhfgnbiaaGreatDoorYteq
import Derived.Test.YtfibdpfhfgnbiaaGreatDoorZzap
import Derived.Test.YtfibdpfhfgnbiaaGreatDoorZzas
namespace Go.Proofs.YtfibdpfhfgnbiaaGreatDoor
open Go Go.RowKit
attribute [local go_sem ↓] Go.wp_at_zero Go.wp_at_succ

theorem box14 {w : World} {g : Nat} {t : TypeId} {v0 v1 v2 v3 v4 v5 v6 v7 v8 v9 v10 v11 v12 v13 : Value} (h : Box w g t #[v0, v1, v2, v3, v4, v5, v6, v7, v8, v9, v10, v11, v12, v13]) : w.cell? ⟨g, 0, none⟩ = some v0 ∧ w.cell? ⟨g, 1, none⟩ = some v1 ∧ w.cell? ⟨g, 2, none⟩ = some v2 ∧ w.cell? ⟨g, 3, none⟩ = some v3 ∧ w.cell? ⟨g, 4, none⟩ = some v4 ∧ w.cell? ⟨g, 5, none⟩ = some v5 ∧ w.cell? ⟨g, 6, none⟩ = some v6 ∧ w.cell? ⟨g, 7, none⟩ = some v7 ∧ w.cell? ⟨g, 8, none⟩ = some v8 ∧ w.cell? ⟨g, 9, none⟩ = some v9 ∧ w.cell? ⟨g, 10, none⟩ = some v10 ∧ w.cell? ⟨g, 11, none⟩ = some v11 ∧ w.cell? ⟨g, 12, none⟩ = some v12 ∧ w.cell? ⟨g, 13, none⟩ = some v13 :=
  ⟨h.cell 0, h.cell 1, h.cell 2, h.cell 3, h.cell 4, h.cell 5, h.cell 6, h.cell 7, h.cell 8, h.cell 9, h.cell 10, h.cell 11, h.cell 12, h.cell 13⟩
theorem loadVar14 {w : World} {r : Nat} {v0 v1 v2 v3 v4 v5 v6 v7 v8 v9 v10 v11 v12 v13 : Value} (hb : Box w r 53 #[v0, v1, v2, v3, v4, v5, v6, v7, v8, v9, v10, v11, v12, v13]) : (loadVar 53 ⟨r, 0, none⟩).run Tryz.prog w = .ok (.agg #[v0, v1, v2, v3, v4, v5, v6, v7, v8, v9, v10, v11, v12, v13]) w := by
  obtain ⟨x0, x1, x2, x3, x4, x5, x6, x7, x8, x9, x10, x11, x12, x13⟩ := box14 hb
  simp [go_sem, x0, x1, x2, x3, x4, x5, x6, x7, x8, x9, x10, x11, x12, x13]
theorem ret14 {fn : Func} {p : Tmp} (h : fn.results = #[.cell p 53]) {R : Ending → World → Prop} {a : Act} {w : World} {r : Nat} {v0 v1 v2 v3 v4 v5 v6 v7 v8 v9 v10 v11 v12 v13 : Value} (hp : a.tmps.getD p undef = .pointer (some ⟨r, 0, none⟩)) (hd : a.defers = []) (hb : Box w r 53 #[v0, v1, v2, v3, v4, v5, v6, v7, v8, v9, v10, v11, v12, v13]) (hR : R (.returned (.agg #[v0, v1, v2, v3, v4, v5, v6, v7, v8, v9, v10, v11, v12, v13])) w) : bodyPost Tryz.prog fn R .ret a w := by
  refine bodyPost_ret ?_ hd hR
  have hp' : a.tmps[p]?.getD undef = .pointer (some ⟨r, 0, none⟩) := by simpa using hp
  simp only [results, h]
  simp [hp', asAddr, loadVar14 hb]
theorem put14_box {V : World} {r : Nat} {t : TypeId} {x0 x1 x2 x3 x4 x5 x6 x7 x8 x9 x10 x11 x12 x13 : Value} (h : Box V r t #[x0, x1, x2, x3, x4, x5, x6, x7, x8, x9, x10, x11, x12, x13]) (v0 v1 v2 v3 v4 v5 v6 v7 v8 v9 v10 v11 v12 v13 : Value) : Box ((((((((((((((V.setCell ⟨r, 0, none⟩ (v0)).setCell ⟨r, 1, none⟩ (v1)).setCell ⟨r, 2, none⟩ (v2)).setCell ⟨r, 3, none⟩ (v3)).setCell ⟨r, 4, none⟩ (v4)).setCell ⟨r, 5, none⟩ (v5)).setCell ⟨r, 6, none⟩ (v6)).setCell ⟨r, 7, none⟩ (v7)).setCell ⟨r, 8, none⟩ (v8)).setCell ⟨r, 9, none⟩ (v9)).setCell ⟨r, 10, none⟩ (v10)).setCell ⟨r, 11, none⟩ (v11)).setCell ⟨r, 12, none⟩ (v12)).setCell ⟨r, 13, none⟩ (v13)) r t #[v0, v1, v2, v3, v4, v5, v6, v7, v8, v9, v10, v11, v12, v13] := by
  have := (((((((((((((h.set 0 v0).set 1 v1).set 2 v2).set 3 v3).set 4 v4).set 5 v5).set 6 v6).set 7 v7).set 8 v8).set 9 v9).set 10 v10).set 11 v11).set 12 v12).set 13 v13
  simpa using this
theorem put14_same (V : World) (r g : Nat) (v0 v1 v2 v3 v4 v5 v6 v7 v8 v9 v10 v11 v12 v13 : Value) (hg : g ≠ r) : ((((((((((((((V.setCell ⟨r, 0, none⟩ (v0)).setCell ⟨r, 1, none⟩ (v1)).setCell ⟨r, 2, none⟩ (v2)).setCell ⟨r, 3, none⟩ (v3)).setCell ⟨r, 4, none⟩ (v4)).setCell ⟨r, 5, none⟩ (v5)).setCell ⟨r, 6, none⟩ (v6)).setCell ⟨r, 7, none⟩ (v7)).setCell ⟨r, 8, none⟩ (v8)).setCell ⟨r, 9, none⟩ (v9)).setCell ⟨r, 10, none⟩ (v10)).setCell ⟨r, 11, none⟩ (v11)).setCell ⟨r, 12, none⟩ (v12)).setCell ⟨r, 13, none⟩ (v13)).heap[g]? = V.heap[g]? := by
  rw [Below.heap_setCell _ _ _ _ hg, Below.heap_setCell _ _ _ _ hg, Below.heap_setCell _ _ _ _ hg, Below.heap_setCell _ _ _ _ hg, Below.heap_setCell _ _ _ _ hg, Below.heap_setCell _ _ _ _ hg, Below.heap_setCell _ _ _ _ hg, Below.heap_setCell _ _ _ _ hg, Below.heap_setCell _ _ _ _ hg, Below.heap_setCell _ _ _ _ hg, Below.heap_setCell _ _ _ _ hg, Below.heap_setCell _ _ _ _ hg, Below.heap_setCell _ _ _ _ hg, Below.heap_setCell _ _ _ _ hg]
theorem put14_below {B : Nat} {w V : World} (hb : Below B w V) {r : Nat} (hr : B ≤ r) (v0 v1 v2 v3 v4 v5 v6 v7 v8 v9 v10 v11 v12 v13 : Value) : Below B w ((((((((((((((V.setCell ⟨r, 0, none⟩ (v0)).setCell ⟨r, 1, none⟩ (v1)).setCell ⟨r, 2, none⟩ (v2)).setCell ⟨r, 3, none⟩ (v3)).setCell ⟨r, 4, none⟩ (v4)).setCell ⟨r, 5, none⟩ (v5)).setCell ⟨r, 6, none⟩ (v6)).setCell ⟨r, 7, none⟩ (v7)).setCell ⟨r, 8, none⟩ (v8)).setCell ⟨r, 9, none⟩ (v9)).setCell ⟨r, 10, none⟩ (v10)).setCell ⟨r, 11, none⟩ (v11)).setCell ⟨r, 12, none⟩ (v12)).setCell ⟨r, 13, none⟩ (v13)) := (((((((((((((hb.setCell hr _).setCell hr _).setCell hr _).setCell hr _).setCell hr _).setCell hr _).setCell hr _).setCell hr _).setCell hr _).setCell hr _).setCell hr _).setCell hr _).setCell hr _).setCell hr _
/-- What fits within the laws' room. -/
def FitE (D : DD) (ln : Nat) (Lg : List DR) (fn : Nat) (F : List FF) (T : List X.WK) (K : List L.LK) (Wt : List L.WK) : Prop := FitS D ln Lg fn F ∧ T.length ≤ 1048576 ∧ K.length ≤ 1048576 ∧ Wt.length ≤ 1048576
/-- What an engine that lies in memory reads as. -/
def RdE (w : World) (h : HD) (D : DD) (la : Option Addr) (ln : Nat) (Lg : List DR) (fa : Option Addr) (fn : Nat) (F : List FF) (ta : Option Addr) (T : List X.WK) (k : L.HL) (K : List L.LK) (Wt : List L.WK) : Prop :=
  RdD w h D ∧ RdQ w la ln Lg ∧ RdF w fa fn F ∧ X.RdW w ta T.length T ∧ L.RdL w k K Wt
theorem RdE.below {w w' : World} {h : HD} {D : DD} {la : Option Addr} {ln : Nat} {Lg : List DR} {fa : Option Addr} {fn : Nat} {F : List FF} {ta : Option Addr} {T : List X.WK} {k : L.HL} {K : List L.LK} {Wt : List L.WK} (r : RdE w h D la ln Lg fa fn F ta T k K Wt) (hb : Below w.heap.size w w') : RdE w' h D la ln Lg fa fn F ta T k K Wt :=
  ⟨r.1.below hb, r.2.1.below hb, r.2.2.1.below hb, r.2.2.2.1.below hb, r.2.2.2.2.below hb⟩
/-- What the sizes of one that came in are bound by. -/
def MaxE (h : HD) (D : DD) (ln : Nat) (Lg : List DR) (fn : Nat) (F : List FF) (T : List X.WK) (K : List L.LK) (Wt : List L.WK) : Prop :=
  (h.n0 ≤ maxLen ∧ h.n1 ≤ maxLen ∧ h.n2 ≤ maxLen ∧ (∀ s ∈ D.S, s.size ≤ maxLen) ∧ ∀ p ∈ D.C, p.2.size ≤ maxLen) ∧ (ln ≤ maxLen ∧ ∀ v ∈ Lg, v.b.size ≤ maxLen ∧ v.a.size ≤ maxLen) ∧ (fn ≤ maxLen ∧ ∀ i, i < fn → (F.getD i zeroF).h.n ≤ maxLen ∧ ∀ s ∈ (F.getD i zeroF).D.S, s.size ≤ maxLen) ∧ T.length ≤ maxLen ∧ K.length ≤ maxLen ∧ Wt.length ≤ maxLen
set_option maxRecDepth 100000 in
set_option maxHeartbeats 4000000 in
theorem c_szL2 (h : L.HL) (vs : List L.LK) (ws : List L.WK) (left : Int) (w : World) (m0 : vs.length ≤ maxLen) (m1 : ws.length ≤ maxLen) (h0 : 0 ≤ left) (h1 : left ≤ 1048576) :
    Calls Tryz.prog 50 #[.agg #[.slice h.a0 vs.length h.c0, .slice h.a1 ws.length h.c1], .int .i64 left] w fun e w' => (∃ z : Int, e = .returned (.int .i64 z) ∧ z ≤ left ∧ (0 ≤ z → vs.length ≤ 1048576 ∧ ws.length ≤ 1048576)) ∧ Below w.heap.size w w' := by
  obtain ⟨V, hV⟩ : ∃ V, w.alloc (.cells #[.slice h.a0 vs.length h.c0, .slice h.a1 ws.length h.c1] 35) = V := ⟨_, rfl⟩
  have B : Hid (Below w.heap.size w V) := by unfold Hid; rw [← hV]; exact (Below.refl _ _).alloc (Nat.le_refl _) _
  have X : Hid (Box V w.heap.size 35 #[.slice h.a0 vs.length h.c0, .slice h.a1 ws.length h.c1]) := by unfold Hid; rw [← hV]; exact Box.new _ _ _
  obtain ⟨x0, x1⟩ := L.box2 X.out
  have C1 := L.c_szK h.a0 vs.length h.c0 left V m0 h0 h1
  go_enter Tryz.func50, Tryz.ntmps50
  go_wp2_with fail
  refine C1.mono ?_
  rintro e w1 ⟨rfl, rfl⟩
  unfold L.sizeK
  by_cases n0 : left - vs.length < 0
  · rw [if_pos n0]
    go_wp2
    go_ret
    exact ⟨⟨-1, rfl, by omega, fun h => by omega⟩, B.out⟩
  rw [if_neg n0]
  have C2 := L.c_szW h.a1 ws.length h.c1 (left - vs.length) w1 m1 (by omega) (by omega)
  go_wp2_with fail
  refine C2.mono ?_
  rintro e w1 ⟨rfl, rfl⟩
  unfold L.sizeW
  by_cases n1 : left - vs.length - ws.length < 0
  · rw [if_pos n1]
    go_wp2
    go_ret
    exact ⟨⟨-1, rfl, by omega, fun h => by omega⟩, B.out⟩
  rw [if_neg n1]
  go_wp2
  go_ret
  exact ⟨⟨_, rfl, by omega, fun h => by omega⟩, B.out⟩
set_option maxRecDepth 100000 in
set_option maxHeartbeats 4000000 in
theorem c_szEN (h : HD) (D : DD) (ep : Int) (la : Option Addr) (ln lc : Nat) (Lg : List DR) (su : Int) (fa : Option Addr) (fn fc : Nat) (F : List FF) (ha : Int) (up : Bool) (ta : Option Addr) (tc : Nat) (T : List X.WK) (k : L.HL) (K : List L.LK) (Wt : List L.WK) (nx : Int) (left : Int) (w : World) (r : RdE w h D la ln Lg fa fn F ta T k K Wt) (m : MaxE h D ln Lg fn F T K Wt) (hl0 : 0 ≤ left) (hl1 : left ≤ 1048576) :
    Calls Tryz.prog 13 #[.agg #[.slice h.a0 h.n0 h.c0, .slice h.a1 h.n1 h.c1, .bool h.b, .slice h.a2 h.n2 h.c2, .int .i64 ep, .slice la ln lc, .int .i64 su, .slice fa fn fc, .int .i64 ha, .bool up, .slice ta T.length tc, .slice k.a0 K.length k.c0, .slice k.a1 Wt.length k.c1, .int .i64 nx], .int .i64 left] w fun e w' => (∃ z : Int, e = .returned (.int .i64 z) ∧ z ≤ left ∧ (0 ≤ z → FitE D ln Lg fn F T K Wt)) ∧ Below w.heap.size w w' := by
  obtain ⟨V, hV⟩ : ∃ V, w.alloc (.cells #[.slice h.a0 h.n0 h.c0, .slice h.a1 h.n1 h.c1, .bool h.b, .slice h.a2 h.n2 h.c2, .int .i64 ep, .slice la ln lc, .int .i64 su, .slice fa fn fc, .int .i64 ha, .bool up, .slice ta T.length tc, .slice k.a0 K.length k.c0, .slice k.a1 Wt.length k.c1, .int .i64 nx] 37) = V := ⟨_, rfl⟩
  have B0 : Hid (Below w.heap.size w V) := by unfold Hid; rw [← hV]; exact (Below.refl _ _).alloc (Nat.le_refl _) _
  have X0 : Hid (Box V w.heap.size 37 #[.slice h.a0 h.n0 h.c0, .slice h.a1 h.n1 h.c1, .bool h.b, .slice h.a2 h.n2 h.c2, .int .i64 ep, .slice la ln lc, .int .i64 su, .slice fa fn fc, .int .i64 ha, .bool up, .slice ta T.length tc, .slice k.a0 K.length k.c0, .slice k.a1 Wt.length k.c1, .int .i64 nx]) := by unfold Hid; rw [← hV]; exact Box.new _ _ _
  obtain ⟨⟨a1, a2, a3, a4, a5⟩, ⟨b1, b2⟩, ⟨c1, c2⟩, m4, m5, m6⟩ := m
  have rb := r.below B0.out
  have C1 := c_szST h D ep la ln lc Lg su fa fn fc F ha left V rb.1 a1 a2 a3 a4 a5 rb.2.1 b1 b2 rb.2.2.1 c1 c2 hl0 hl1
  clear r rb a1 a2 a3 a4 a5 b1 b2 c1 c2
  obtain ⟨x0, x1, x2, x3, x4, x5, x6, x7, x8, x9, x10, x11, x12, x13⟩ := box14 X0.out
  go_enter Tryz.func13, Tryz.ntmps13
  go_wp2_with fail
  refine C1.mono ?_
  rintro e w1 ⟨⟨z1, rfl, hz1, hf1⟩, hb⟩
  have B1 : Hid (Below w.heap.size w w1) := B0.out.trans (hb.mono B0.out.size)
  have X1 : Hid (Box w1 w.heap.size 37 #[.slice h.a0 h.n0 h.c0, .slice h.a1 h.n1 h.c1, .bool h.b, .slice h.a2 h.n2 h.c2, .int .i64 ep, .slice la ln lc, .int .i64 su, .slice fa fn fc, .int .i64 ha, .bool up, .slice ta T.length tc, .slice k.a0 K.length k.c0, .slice k.a1 Wt.length k.c1, .int .i64 nx]) := X0.out.belowS hb
  have F1 : Hid (0 ≤ z1 → FitS D ln Lg fn F) := hf1
  clear hb hf1 C1 B0 X0 hV x0 x1 x2 x3 x4 x5 x6 x7 x8 x9 x10 x11 x12 x13
  by_cases n1 : z1 < 0
  · go_wp2
    go_ret
    exact ⟨⟨_, rfl, by omega, fun h => absurd h (by omega)⟩, B1.out⟩
  obtain ⟨x0, x1, x2, x3, x4, x5, x6, x7, x8, x9, x10, x11, x12, x13⟩ := box14 X1.out
  have C2 := X.c_szW ta T.length tc z1 w1 m4 (by omega) (by omega)
  go_wp2_with fail
  refine C2.mono ?_
  rintro e w2 ⟨rfl, hq⟩
  have hq' := hq.symm
  subst hq'
  clear hq C2
  unfold X.sizeW
  by_cases n2 : z1 - T.length < 0
  · rw [if_pos n2]
    go_wp2
    go_ret
    exact ⟨⟨_, rfl, by omega, fun h => absurd h (by omega)⟩, B1.out⟩
  rw [if_neg n2]
  have C3 := c_szL2 k K Wt (z1 - T.length) w1 m5 m6 (by omega) (by omega)
  go_wp2_with fail
  refine C3.mono ?_
  rintro e w3 ⟨⟨z3, rfl, hz3, hf3⟩, hb⟩
  have B3 : Hid (Below w.heap.size w w3) := B1.out.trans (hb.mono B1.out.size)
  have F3 : Hid (0 ≤ z3 → K.length ≤ 1048576 ∧ Wt.length ≤ 1048576) := hf3
  have F2 : Hid (T.length ≤ 1048576) := by unfold Hid; omega
  clear hb hf3 C3 B1 X1 x0 x1 x2 x3 x4 x5 x6 x7 x8 x9 x10 x11 x12 x13
  by_cases n3 : z3 < 0
  · go_wp2
    go_ret
    exact ⟨⟨_, rfl, by omega, fun h => absurd h (by omega)⟩, B3.out⟩
  · go_wp2
    go_ret
    exact ⟨⟨_, rfl, by omega, fun _ => ⟨F1.out (by omega), F2.out, F3.out (by omega)⟩⟩, B3.out⟩
set_option maxRecDepth 100000 in
set_option maxHeartbeats 4000000 in
theorem c_toEN (h : HD) (D : DD) (ep : Int) (la : Option Addr) (ln lc : Nat) (Lg : List DR) (su : Int) (fa : Option Addr) (fn fc : Nat) (F : List FF) (ha : Int) (up : Bool) (ta : Option Addr) (tc : Nat) (T : List X.WK) (k : L.HL) (K : List L.LK) (Wt : List L.WK) (nx : Int) (w : World) (r : RdE w h D la ln Lg fa fn F ta T k K Wt) (hf : FitE D ln Lg fn F T K Wt) :
    Calls Tryz.prog 15 #[.agg #[.slice h.a0 h.n0 h.c0, .slice h.a1 h.n1 h.c1, .bool h.b, .slice h.a2 h.n2 h.c2, .int .i64 ep, .slice la ln lc, .int .i64 su, .slice fa fn fc, .int .i64 ha, .bool up, .slice ta T.length tc, .slice k.a0 K.length k.c0, .slice k.a1 Wt.length k.c1, .int .i64 nx]] w fun e w' => (∃ (h' : HD) (la' : Option Addr) (lc' : Nat) (fa' : Option Addr) (fc' : Nat) (gs : List FF) (ta' : Option Addr) (tc' : Nat) (k' : L.HL), e = .returned (.agg #[.slice h'.a0 h'.n0 h'.c0, .slice h'.a1 h'.n1 h'.c1, .bool h'.b, .slice h'.a2 h'.n2 h'.c2, .int .i64 ep, .slice la' ln lc', .int .i64 su, .slice fa' fn fc', .int .i64 ha, .bool up, .slice ta' T.length tc', .slice k'.a0 K.length k'.c0, .slice k'.a1 Wt.length k'.c1, .int .i64 nx]) ∧ SameF F gs ∧ RdE w' h' D la' ln Lg fa' fn gs ta' T k' K Wt) ∧ Below w.heap.size w w' := by
  obtain ⟨V, hV⟩ : ∃ V, ((w.alloc (.cells #[.slice h.a0 h.n0 h.c0, .slice h.a1 h.n1 h.c1, .bool h.b, .slice h.a2 h.n2 h.c2, .int .i64 ep, .slice la ln lc, .int .i64 su, .slice fa fn fc, .int .i64 ha, .bool up, .slice ta T.length tc, .slice k.a0 K.length k.c0, .slice k.a1 Wt.length k.c1, .int .i64 nx] 37)).alloc (.cells #[.slice none 0 0, .slice none 0 0, .bool false, .slice none 0 0, .int .i64 0, .slice none 0 0, .int .i64 0, .slice none 0 0, .int .i64 0, .bool false, .slice none 0 0, .slice none 0 0, .slice none 0 0, .int .i64 0] 53)).alloc (.cells #[.slice none 0 0, .slice none 0 0, .bool false, .slice none 0 0, .int .i64 0, .slice none 0 0, .int .i64 0, .slice none 0 0, .int .i64 0, .bool false, .slice none 0 0, .slice none 0 0, .slice none 0 0, .int .i64 0] 53) = V := ⟨_, rfl⟩
  have T0 : Hid (T3 w V 37 53 #[.slice h.a0 h.n0 h.c0, .slice h.a1 h.n1 h.c1, .bool h.b, .slice h.a2 h.n2 h.c2, .int .i64 ep, .slice la ln lc, .int .i64 su, .slice fa fn fc, .int .i64 ha, .bool up, .slice ta T.length tc, .slice k.a0 K.length k.c0, .slice k.a1 Wt.length k.c1, .int .i64 nx] #[.slice none 0 0, .slice none 0 0, .bool false, .slice none 0 0, .int .i64 0, .slice none 0 0, .int .i64 0, .slice none 0 0, .int .i64 0, .bool false, .slice none 0 0, .slice none 0 0, .slice none 0 0, .int .i64 0] #[.slice none 0 0, .slice none 0 0, .bool false, .slice none 0 0, .int .i64 0, .slice none 0 0, .int .i64 0, .slice none 0 0, .int .i64 0, .bool false, .slice none 0 0, .slice none 0 0, .slice none 0 0, .int .i64 0]) := by unfold Hid; rw [← hV]; exact T3.new _ _ _ _ _ _
  have rb := r.below T0.out.bel
  have C1 := c_toST h D ep la ln lc Lg su fa fn fc F ha V rb.1 rb.2.1 rb.2.2.1 hf.1
  have C2 : Hid (∀ W, Below w.heap.size w W → Calls Tryz.prog 57 #[.slice ta T.length tc] W fun e w' => e = .returned (.slice (some ⟨W.heap.size, 0, none⟩) T.length T.length) ∧ w'.ownsRow W.heap.size 95 2 (.slice (some ⟨W.heap.size, 0, none⟩) T.length T.length) T.length (X.cellsW T) ∧ Below W.heap.size W w') := fun W hW => X.c_toW ta T.length tc T W (r.2.2.2.1.below hW) hf.2.1
  have C3 : Hid (∀ W, Below w.heap.size w W → Calls Tryz.prog 58 #[.agg #[.slice k.a0 K.length k.c0, .slice k.a1 Wt.length k.c1]] W fun e w' => (∃ h' : L.HL, e = .returned (.agg #[.slice h'.a0 K.length h'.c0, .slice h'.a1 Wt.length h'.c1]) ∧ L.OwnL w' W.heap.size h' K Wt) ∧ Below W.heap.size W w') := fun W hW => L.c_toL k K Wt W (r.2.2.2.2.below hW) hf.2.2.1 hf.2.2.2
  clear r rb hf
  obtain ⟨x0, x1, x2, x3, x4, x5, x6, x7, x8, x9, x10, x11, x12, x13⟩ := box14 T0.out.a
  have s0 := T0.out.sz
  go_enter Tryz.func15, Tryz.ntmps15
  go_wp2_with fail
  refine C1.mono ?_
  rintro e w1 ⟨⟨h', la', lc', fa', fc', gs, rfl, hsm, o1⟩, hb⟩
  have T1 : Hid (T3 w w1 37 53 #[.slice h.a0 h.n0 h.c0, .slice h.a1 h.n1 h.c1, .bool h.b, .slice h.a2 h.n2 h.c2, .int .i64 ep, .slice la ln lc, .int .i64 su, .slice fa fn fc, .int .i64 ha, .bool up, .slice ta T.length tc, .slice k.a0 K.length k.c0, .slice k.a1 Wt.length k.c1, .int .i64 nx] #[.slice none 0 0, .slice none 0 0, .bool false, .slice none 0 0, .int .i64 0, .slice none 0 0, .int .i64 0, .slice none 0 0, .int .i64 0, .bool false, .slice none 0 0, .slice none 0 0, .slice none 0 0, .int .i64 0] #[.slice none 0 0, .slice none 0 0, .bool false, .slice none 0 0, .int .i64 0, .slice none 0 0, .int .i64 0, .slice none 0 0, .int .i64 0, .bool false, .slice none 0 0, .slice none 0 0, .slice none 0 0, .int .i64 0]) := T0.out.below hb
  have O1 : Hid (OwnS w1 V.heap.size w1.heap.size h' D la' ln lc' Lg fa' fn fc' gs) := o1
  have HSM : Hid (SameF F gs) := hsm
  have s1 : V.heap.size ≤ w1.heap.size := hb.size
  clear hb o1 hsm C1 T0 hV x0 x1 x2 x3 x4 x5 x6 x7 x8 x9 x10 x11 x12 x13
  obtain ⟨Va0, hVa0⟩ : ∃ W, w1.setCell ⟨w.heap.size + 1 + 1, 0, none⟩ (.slice h'.a0 h'.n0 h'.c0) = W := ⟨_, rfl⟩
  have Ta0 : Hid (T3 w Va0 37 53 #[.slice h.a0 h.n0 h.c0, .slice h.a1 h.n1 h.c1, .bool h.b, .slice h.a2 h.n2 h.c2, .int .i64 ep, .slice la ln lc, .int .i64 su, .slice fa fn fc, .int .i64 ha, .bool up, .slice ta T.length tc, .slice k.a0 K.length k.c0, .slice k.a1 Wt.length k.c1, .int .i64 nx] #[.slice none 0 0, .slice none 0 0, .bool false, .slice none 0 0, .int .i64 0, .slice none 0 0, .int .i64 0, .slice none 0 0, .int .i64 0, .bool false, .slice none 0 0, .slice none 0 0, .slice none 0 0, .int .i64 0] #[.slice h'.a0 h'.n0 h'.c0, .slice none 0 0, .bool false, .slice none 0 0, .int .i64 0, .slice none 0 0, .int .i64 0, .slice none 0 0, .int .i64 0, .bool false, .slice none 0 0, .slice none 0 0, .slice none 0 0, .int .i64 0]) := by unfold Hid; rw [← hVa0]; exact T1.out.set 0 _ rfl
  have c0 : w1.cell? ⟨w.heap.size + 1 + 1, 0, none⟩ = some (.slice none 0 0) := T1.out.o.cell 0
  have z0 := T1.out.o.thaw 0
  obtain ⟨Va1, hVa1⟩ : ∃ W, Va0.setCell ⟨w.heap.size + 1 + 1, 1, none⟩ (.slice h'.a1 h'.n1 h'.c1) = W := ⟨_, rfl⟩
  have Ta1 : Hid (T3 w Va1 37 53 #[.slice h.a0 h.n0 h.c0, .slice h.a1 h.n1 h.c1, .bool h.b, .slice h.a2 h.n2 h.c2, .int .i64 ep, .slice la ln lc, .int .i64 su, .slice fa fn fc, .int .i64 ha, .bool up, .slice ta T.length tc, .slice k.a0 K.length k.c0, .slice k.a1 Wt.length k.c1, .int .i64 nx] #[.slice none 0 0, .slice none 0 0, .bool false, .slice none 0 0, .int .i64 0, .slice none 0 0, .int .i64 0, .slice none 0 0, .int .i64 0, .bool false, .slice none 0 0, .slice none 0 0, .slice none 0 0, .int .i64 0] #[.slice h'.a0 h'.n0 h'.c0, .slice h'.a1 h'.n1 h'.c1, .bool false, .slice none 0 0, .int .i64 0, .slice none 0 0, .int .i64 0, .slice none 0 0, .int .i64 0, .bool false, .slice none 0 0, .slice none 0 0, .slice none 0 0, .int .i64 0]) := by unfold Hid; rw [← hVa1]; exact Ta0.out.set 1 _ rfl
  have c1 : Va0.cell? ⟨w.heap.size + 1 + 1, 1, none⟩ = some (.slice none 0 0) := Ta0.out.o.cell 1
  have z1 := Ta0.out.o.thaw 1
  obtain ⟨Va2, hVa2⟩ : ∃ W, Va1.setCell ⟨w.heap.size + 1 + 1, 2, none⟩ (.bool h'.b) = W := ⟨_, rfl⟩
  have Ta2 : Hid (T3 w Va2 37 53 #[.slice h.a0 h.n0 h.c0, .slice h.a1 h.n1 h.c1, .bool h.b, .slice h.a2 h.n2 h.c2, .int .i64 ep, .slice la ln lc, .int .i64 su, .slice fa fn fc, .int .i64 ha, .bool up, .slice ta T.length tc, .slice k.a0 K.length k.c0, .slice k.a1 Wt.length k.c1, .int .i64 nx] #[.slice none 0 0, .slice none 0 0, .bool false, .slice none 0 0, .int .i64 0, .slice none 0 0, .int .i64 0, .slice none 0 0, .int .i64 0, .bool false, .slice none 0 0, .slice none 0 0, .slice none 0 0, .int .i64 0] #[.slice h'.a0 h'.n0 h'.c0, .slice h'.a1 h'.n1 h'.c1, .bool h'.b, .slice none 0 0, .int .i64 0, .slice none 0 0, .int .i64 0, .slice none 0 0, .int .i64 0, .bool false, .slice none 0 0, .slice none 0 0, .slice none 0 0, .int .i64 0]) := by unfold Hid; rw [← hVa2]; exact Ta1.out.set 2 _ rfl
  have c2 : Va1.cell? ⟨w.heap.size + 1 + 1, 2, none⟩ = some (.bool false) := Ta1.out.o.cell 2
  have z2 := Ta1.out.o.thaw 2
  obtain ⟨Va3, hVa3⟩ : ∃ W, Va2.setCell ⟨w.heap.size + 1 + 1, 3, none⟩ (.slice h'.a2 h'.n2 h'.c2) = W := ⟨_, rfl⟩
  have Ta3 : Hid (T3 w Va3 37 53 #[.slice h.a0 h.n0 h.c0, .slice h.a1 h.n1 h.c1, .bool h.b, .slice h.a2 h.n2 h.c2, .int .i64 ep, .slice la ln lc, .int .i64 su, .slice fa fn fc, .int .i64 ha, .bool up, .slice ta T.length tc, .slice k.a0 K.length k.c0, .slice k.a1 Wt.length k.c1, .int .i64 nx] #[.slice none 0 0, .slice none 0 0, .bool false, .slice none 0 0, .int .i64 0, .slice none 0 0, .int .i64 0, .slice none 0 0, .int .i64 0, .bool false, .slice none 0 0, .slice none 0 0, .slice none 0 0, .int .i64 0] #[.slice h'.a0 h'.n0 h'.c0, .slice h'.a1 h'.n1 h'.c1, .bool h'.b, .slice h'.a2 h'.n2 h'.c2, .int .i64 0, .slice none 0 0, .int .i64 0, .slice none 0 0, .int .i64 0, .bool false, .slice none 0 0, .slice none 0 0, .slice none 0 0, .int .i64 0]) := by unfold Hid; rw [← hVa3]; exact Ta2.out.set 3 _ rfl
  have c3 : Va2.cell? ⟨w.heap.size + 1 + 1, 3, none⟩ = some (.slice none 0 0) := Ta2.out.o.cell 3
  have z3 := Ta2.out.o.thaw 3
  obtain ⟨Va4, hVa4⟩ : ∃ W, Va3.setCell ⟨w.heap.size + 1 + 1, 4, none⟩ (.int .i64 ep) = W := ⟨_, rfl⟩
  have Ta4 : Hid (T3 w Va4 37 53 #[.slice h.a0 h.n0 h.c0, .slice h.a1 h.n1 h.c1, .bool h.b, .slice h.a2 h.n2 h.c2, .int .i64 ep, .slice la ln lc, .int .i64 su, .slice fa fn fc, .int .i64 ha, .bool up, .slice ta T.length tc, .slice k.a0 K.length k.c0, .slice k.a1 Wt.length k.c1, .int .i64 nx] #[.slice none 0 0, .slice none 0 0, .bool false, .slice none 0 0, .int .i64 0, .slice none 0 0, .int .i64 0, .slice none 0 0, .int .i64 0, .bool false, .slice none 0 0, .slice none 0 0, .slice none 0 0, .int .i64 0] #[.slice h'.a0 h'.n0 h'.c0, .slice h'.a1 h'.n1 h'.c1, .bool h'.b, .slice h'.a2 h'.n2 h'.c2, .int .i64 ep, .slice none 0 0, .int .i64 0, .slice none 0 0, .int .i64 0, .bool false, .slice none 0 0, .slice none 0 0, .slice none 0 0, .int .i64 0]) := by unfold Hid; rw [← hVa4]; exact Ta3.out.set 4 _ rfl
  have c4 : Va3.cell? ⟨w.heap.size + 1 + 1, 4, none⟩ = some (.int .i64 0) := Ta3.out.o.cell 4
  have z4 := Ta3.out.o.thaw 4
  obtain ⟨Va5, hVa5⟩ : ∃ W, Va4.setCell ⟨w.heap.size + 1 + 1, 5, none⟩ (.slice la' ln lc') = W := ⟨_, rfl⟩
  have Ta5 : Hid (T3 w Va5 37 53 #[.slice h.a0 h.n0 h.c0, .slice h.a1 h.n1 h.c1, .bool h.b, .slice h.a2 h.n2 h.c2, .int .i64 ep, .slice la ln lc, .int .i64 su, .slice fa fn fc, .int .i64 ha, .bool up, .slice ta T.length tc, .slice k.a0 K.length k.c0, .slice k.a1 Wt.length k.c1, .int .i64 nx] #[.slice none 0 0, .slice none 0 0, .bool false, .slice none 0 0, .int .i64 0, .slice none 0 0, .int .i64 0, .slice none 0 0, .int .i64 0, .bool false, .slice none 0 0, .slice none 0 0, .slice none 0 0, .int .i64 0] #[.slice h'.a0 h'.n0 h'.c0, .slice h'.a1 h'.n1 h'.c1, .bool h'.b, .slice h'.a2 h'.n2 h'.c2, .int .i64 ep, .slice la' ln lc', .int .i64 0, .slice none 0 0, .int .i64 0, .bool false, .slice none 0 0, .slice none 0 0, .slice none 0 0, .int .i64 0]) := by unfold Hid; rw [← hVa5]; exact Ta4.out.set 5 _ rfl
  have c5 : Va4.cell? ⟨w.heap.size + 1 + 1, 5, none⟩ = some (.slice none 0 0) := Ta4.out.o.cell 5
  have z5 := Ta4.out.o.thaw 5
  obtain ⟨Va6, hVa6⟩ : ∃ W, Va5.setCell ⟨w.heap.size + 1 + 1, 6, none⟩ (.int .i64 su) = W := ⟨_, rfl⟩
  have Ta6 : Hid (T3 w Va6 37 53 #[.slice h.a0 h.n0 h.c0, .slice h.a1 h.n1 h.c1, .bool h.b, .slice h.a2 h.n2 h.c2, .int .i64 ep, .slice la ln lc, .int .i64 su, .slice fa fn fc, .int .i64 ha, .bool up, .slice ta T.length tc, .slice k.a0 K.length k.c0, .slice k.a1 Wt.length k.c1, .int .i64 nx] #[.slice none 0 0, .slice none 0 0, .bool false, .slice none 0 0, .int .i64 0, .slice none 0 0, .int .i64 0, .slice none 0 0, .int .i64 0, .bool false, .slice none 0 0, .slice none 0 0, .slice none 0 0, .int .i64 0] #[.slice h'.a0 h'.n0 h'.c0, .slice h'.a1 h'.n1 h'.c1, .bool h'.b, .slice h'.a2 h'.n2 h'.c2, .int .i64 ep, .slice la' ln lc', .int .i64 su, .slice none 0 0, .int .i64 0, .bool false, .slice none 0 0, .slice none 0 0, .slice none 0 0, .int .i64 0]) := by unfold Hid; rw [← hVa6]; exact Ta5.out.set 6 _ rfl
  have c6 : Va5.cell? ⟨w.heap.size + 1 + 1, 6, none⟩ = some (.int .i64 0) := Ta5.out.o.cell 6
  have z6 := Ta5.out.o.thaw 6
  obtain ⟨Va7, hVa7⟩ : ∃ W, Va6.setCell ⟨w.heap.size + 1 + 1, 7, none⟩ (.slice fa' fn fc') = W := ⟨_, rfl⟩
  have Ta7 : Hid (T3 w Va7 37 53 #[.slice h.a0 h.n0 h.c0, .slice h.a1 h.n1 h.c1, .bool h.b, .slice h.a2 h.n2 h.c2, .int .i64 ep, .slice la ln lc, .int .i64 su, .slice fa fn fc, .int .i64 ha, .bool up, .slice ta T.length tc, .slice k.a0 K.length k.c0, .slice k.a1 Wt.length k.c1, .int .i64 nx] #[.slice none 0 0, .slice none 0 0, .bool false, .slice none 0 0, .int .i64 0, .slice none 0 0, .int .i64 0, .slice none 0 0, .int .i64 0, .bool false, .slice none 0 0, .slice none 0 0, .slice none 0 0, .int .i64 0] #[.slice h'.a0 h'.n0 h'.c0, .slice h'.a1 h'.n1 h'.c1, .bool h'.b, .slice h'.a2 h'.n2 h'.c2, .int .i64 ep, .slice la' ln lc', .int .i64 su, .slice fa' fn fc', .int .i64 0, .bool false, .slice none 0 0, .slice none 0 0, .slice none 0 0, .int .i64 0]) := by unfold Hid; rw [← hVa7]; exact Ta6.out.set 7 _ rfl
  have c7 : Va6.cell? ⟨w.heap.size + 1 + 1, 7, none⟩ = some (.slice none 0 0) := Ta6.out.o.cell 7
  have z7 := Ta6.out.o.thaw 7
  obtain ⟨Va8, hVa8⟩ : ∃ W, Va7.setCell ⟨w.heap.size + 1 + 1, 8, none⟩ (.int .i64 ha) = W := ⟨_, rfl⟩
  have Ta8 : Hid (T3 w Va8 37 53 #[.slice h.a0 h.n0 h.c0, .slice h.a1 h.n1 h.c1, .bool h.b, .slice h.a2 h.n2 h.c2, .int .i64 ep, .slice la ln lc, .int .i64 su, .slice fa fn fc, .int .i64 ha, .bool up, .slice ta T.length tc, .slice k.a0 K.length k.c0, .slice k.a1 Wt.length k.c1, .int .i64 nx] #[.slice none 0 0, .slice none 0 0, .bool false, .slice none 0 0, .int .i64 0, .slice none 0 0, .int .i64 0, .slice none 0 0, .int .i64 0, .bool false, .slice none 0 0, .slice none 0 0, .slice none 0 0, .int .i64 0] #[.slice h'.a0 h'.n0 h'.c0, .slice h'.a1 h'.n1 h'.c1, .bool h'.b, .slice h'.a2 h'.n2 h'.c2, .int .i64 ep, .slice la' ln lc', .int .i64 su, .slice fa' fn fc', .int .i64 ha, .bool false, .slice none 0 0, .slice none 0 0, .slice none 0 0, .int .i64 0]) := by unfold Hid; rw [← hVa8]; exact Ta7.out.set 8 _ rfl
  have c8 : Va7.cell? ⟨w.heap.size + 1 + 1, 8, none⟩ = some (.int .i64 0) := Ta7.out.o.cell 8
  have z8 := Ta7.out.o.thaw 8
  obtain ⟨Va9, hVa9⟩ : ∃ W, Va8.setCell ⟨w.heap.size + 1 + 1, 9, none⟩ (.bool up) = W := ⟨_, rfl⟩
  have Ta9 : Hid (T3 w Va9 37 53 #[.slice h.a0 h.n0 h.c0, .slice h.a1 h.n1 h.c1, .bool h.b, .slice h.a2 h.n2 h.c2, .int .i64 ep, .slice la ln lc, .int .i64 su, .slice fa fn fc, .int .i64 ha, .bool up, .slice ta T.length tc, .slice k.a0 K.length k.c0, .slice k.a1 Wt.length k.c1, .int .i64 nx] #[.slice none 0 0, .slice none 0 0, .bool false, .slice none 0 0, .int .i64 0, .slice none 0 0, .int .i64 0, .slice none 0 0, .int .i64 0, .bool false, .slice none 0 0, .slice none 0 0, .slice none 0 0, .int .i64 0] #[.slice h'.a0 h'.n0 h'.c0, .slice h'.a1 h'.n1 h'.c1, .bool h'.b, .slice h'.a2 h'.n2 h'.c2, .int .i64 ep, .slice la' ln lc', .int .i64 su, .slice fa' fn fc', .int .i64 ha, .bool up, .slice none 0 0, .slice none 0 0, .slice none 0 0, .int .i64 0]) := by unfold Hid; rw [← hVa9]; exact Ta8.out.set 9 _ rfl
  have c9 : Va8.cell? ⟨w.heap.size + 1 + 1, 9, none⟩ = some (.bool false) := Ta8.out.o.cell 9
  have z9 := Ta8.out.o.thaw 9
  have a9 : Va8.cell? ⟨w.heap.size, 9, none⟩ = some (.bool up) := Ta8.out.a.cell 9
  have a10 : Va9.cell? ⟨w.heap.size, 10, none⟩ = some (.slice ta T.length tc) := Ta9.out.a.cell 10
  have sa : w1.heap.size ≤ Va9.heap.size ∧ Va9.heap.size ≤ w1.heap.size := by rw [← hVa9, ← hVa8, ← hVa7, ← hVa6, ← hVa5, ← hVa4, ← hVa3, ← hVa2, ← hVa1, ← hVa0]; simp
  have K1 : Hid (∀ g, V.heap.size ≤ g → Va9.heap[g]? = w1.heap[g]?) := fun g hg => by
    rw [← hVa9, ← hVa8, ← hVa7, ← hVa6, ← hVa5, ← hVa4, ← hVa3, ← hVa2, ← hVa1, ← hVa0, Below.heap_setCell _ _ _ _ (by simp; omega), Below.heap_setCell _ _ _ _ (by simp; omega), Below.heap_setCell _ _ _ _ (by simp; omega), Below.heap_setCell _ _ _ _ (by simp; omega), Below.heap_setCell _ _ _ _ (by simp; omega), Below.heap_setCell _ _ _ _ (by simp; omega), Below.heap_setCell _ _ _ _ (by simp; omega), Below.heap_setCell _ _ _ _ (by simp; omega), Below.heap_setCell _ _ _ _ (by simp; omega), Below.heap_setCell _ _ _ _ (by simp; omega)]
  have O2 : Hid (OwnS Va9 V.heap.size w1.heap.size h' D la' ln lc' Lg fa' fn fc' gs) := O1.out.same (by omega) fun g h1 _ => K1.out g h1
  have C2' := C2.out Va9 Ta9.out.bel
  clear K1 O1 T1 Ta0 Ta1 Ta2 Ta3 Ta4 Ta5 Ta6 Ta7 Ta8 C2
  go_wp2_with fail
  refine C2'.mono ?_
  rintro e w2 ⟨rfl, oq, hb⟩
  obtain ⟨q, hq⟩ : ∃ q, Va9.heap.size = q := ⟨_, rfl⟩
  rw [hq] at oq
  have T2 : Hid (T3 w w2 37 53 #[.slice h.a0 h.n0 h.c0, .slice h.a1 h.n1 h.c1, .bool h.b, .slice h.a2 h.n2 h.c2, .int .i64 ep, .slice la ln lc, .int .i64 su, .slice fa fn fc, .int .i64 ha, .bool up, .slice ta T.length tc, .slice k.a0 K.length k.c0, .slice k.a1 Wt.length k.c1, .int .i64 nx] #[.slice none 0 0, .slice none 0 0, .bool false, .slice none 0 0, .int .i64 0, .slice none 0 0, .int .i64 0, .slice none 0 0, .int .i64 0, .bool false, .slice none 0 0, .slice none 0 0, .slice none 0 0, .int .i64 0] #[.slice h'.a0 h'.n0 h'.c0, .slice h'.a1 h'.n1 h'.c1, .bool h'.b, .slice h'.a2 h'.n2 h'.c2, .int .i64 ep, .slice la' ln lc', .int .i64 su, .slice fa' fn fc', .int .i64 ha, .bool up, .slice none 0 0, .slice none 0 0, .slice none 0 0, .int .i64 0]) := Ta9.out.below hb
  have O3 : Hid (OwnS w2 V.heap.size w1.heap.size h' D la' ln lc' Lg fa' fn fc' gs) := O2.out.below hb
  have Q3 : Hid (w2.ownsRow q 95 2 (.slice (some ⟨q, 0, none⟩) T.length T.length) T.length (X.cellsW T)) := oq
  have sq : q < w2.heap.size := oq.lt q rfl |>.2
  have s2 : w1.heap.size ≤ q ∧ q ≤ w1.heap.size := by omega
  rw [hq]
  clear hq sa hb oq C2' O2 Ta9 a9 a10 c0 z0 hVa0 c1 z1 hVa1 c2 z2 hVa2 c3 z3 hVa3 c4 z4 hVa4 c5 z5 hVa5 c6 z6 hVa6 c7 z7 hVa7 c8 z8 hVa8 c9 z9 hVa9
  obtain ⟨Vb, hVb⟩ : ∃ W, w2.setCell ⟨w.heap.size + 1 + 1, 10, none⟩ (.slice (some ⟨q, 0, none⟩) T.length T.length) = W := ⟨_, rfl⟩
  have Tb : Hid (T3 w Vb 37 53 #[.slice h.a0 h.n0 h.c0, .slice h.a1 h.n1 h.c1, .bool h.b, .slice h.a2 h.n2 h.c2, .int .i64 ep, .slice la ln lc, .int .i64 su, .slice fa fn fc, .int .i64 ha, .bool up, .slice ta T.length tc, .slice k.a0 K.length k.c0, .slice k.a1 Wt.length k.c1, .int .i64 nx] #[.slice none 0 0, .slice none 0 0, .bool false, .slice none 0 0, .int .i64 0, .slice none 0 0, .int .i64 0, .slice none 0 0, .int .i64 0, .bool false, .slice none 0 0, .slice none 0 0, .slice none 0 0, .int .i64 0] #[.slice h'.a0 h'.n0 h'.c0, .slice h'.a1 h'.n1 h'.c1, .bool h'.b, .slice h'.a2 h'.n2 h'.c2, .int .i64 ep, .slice la' ln lc', .int .i64 su, .slice fa' fn fc', .int .i64 ha, .bool up, .slice (some ⟨q, 0, none⟩) T.length T.length, .slice none 0 0, .slice none 0 0, .int .i64 0]) := by unfold Hid; rw [← hVb]; exact T2.out.set 10 _ rfl
  have c10 : w2.cell? ⟨w.heap.size + 1 + 1, 10, none⟩ = some (.slice none 0 0) := T2.out.o.cell 10
  have z10 := T2.out.o.thaw 10
  have a11 : Vb.cell? ⟨w.heap.size, 11, none⟩ = some (.slice k.a0 K.length k.c0) := Tb.out.a.cell 11
  have a12 : Vb.cell? ⟨w.heap.size, 12, none⟩ = some (.slice k.a1 Wt.length k.c1) := Tb.out.a.cell 12
  have sb : w2.heap.size ≤ Vb.heap.size ∧ Vb.heap.size ≤ w2.heap.size := by rw [← hVb]; simp
  have K2 : Hid (∀ g, V.heap.size ≤ g → Vb.heap[g]? = w2.heap[g]?) := fun g hg => by
    rw [← hVb, Below.heap_setCell _ _ _ _ (by simp; omega)]
  have O4 : Hid (OwnS Vb V.heap.size w1.heap.size h' D la' ln lc' Lg fa' fn fc' gs) := O3.out.same (by omega) fun g h1 _ => K2.out g h1
  have Q4 : Hid (Vb.ownsRow q 95 2 (.slice (some ⟨q, 0, none⟩) T.length T.length) T.length (X.cellsW T)) := own_same Q3.out fun g e => by
    rw [ob_slice] at e
    have e' : q = g := by simpa [ob] using e
    exact K2.out g (by omega)
  have C3' := C3.out Vb Tb.out.bel
  clear K2 O3 Q3 T2 C3
  go_wp2_with fail
  refine C3'.mono ?_
  rintro e w3 ⟨⟨k', rfl, ok⟩, hb⟩
  have T4 : Hid (T3 w w3 37 53 #[.slice h.a0 h.n0 h.c0, .slice h.a1 h.n1 h.c1, .bool h.b, .slice h.a2 h.n2 h.c2, .int .i64 ep, .slice la ln lc, .int .i64 su, .slice fa fn fc, .int .i64 ha, .bool up, .slice ta T.length tc, .slice k.a0 K.length k.c0, .slice k.a1 Wt.length k.c1, .int .i64 nx] #[.slice none 0 0, .slice none 0 0, .bool false, .slice none 0 0, .int .i64 0, .slice none 0 0, .int .i64 0, .slice none 0 0, .int .i64 0, .bool false, .slice none 0 0, .slice none 0 0, .slice none 0 0, .int .i64 0] #[.slice h'.a0 h'.n0 h'.c0, .slice h'.a1 h'.n1 h'.c1, .bool h'.b, .slice h'.a2 h'.n2 h'.c2, .int .i64 ep, .slice la' ln lc', .int .i64 su, .slice fa' fn fc', .int .i64 ha, .bool up, .slice (some ⟨q, 0, none⟩) T.length T.length, .slice none 0 0, .slice none 0 0, .int .i64 0]) := Tb.out.below hb
  have O5 : Hid (OwnS w3 V.heap.size w1.heap.size h' D la' ln lc' Lg fa' fn fc' gs) := O4.out.below hb
  have Q5 : Hid (w3.ownsRow q 95 2 (.slice (some ⟨q, 0, none⟩) T.length T.length) T.length (X.cellsW T)) := own_below Q4.out hb
  have K5 : Hid (L.OwnL w3 Vb.heap.size k' K Wt) := ok
  have s3 : Vb.heap.size ≤ w3.heap.size := hb.size
  clear hb ok C3' O4 Q4 Tb a11 a12 c10 z10 hVb
  obtain ⟨Vc11, hVc11⟩ : ∃ W, w3.setCell ⟨w.heap.size + 1 + 1, 11, none⟩ (.slice k'.a0 K.length k'.c0) = W := ⟨_, rfl⟩
  have Tc11 : Hid (T3 w Vc11 37 53 #[.slice h.a0 h.n0 h.c0, .slice h.a1 h.n1 h.c1, .bool h.b, .slice h.a2 h.n2 h.c2, .int .i64 ep, .slice la ln lc, .int .i64 su, .slice fa fn fc, .int .i64 ha, .bool up, .slice ta T.length tc, .slice k.a0 K.length k.c0, .slice k.a1 Wt.length k.c1, .int .i64 nx] #[.slice none 0 0, .slice none 0 0, .bool false, .slice none 0 0, .int .i64 0, .slice none 0 0, .int .i64 0, .slice none 0 0, .int .i64 0, .bool false, .slice none 0 0, .slice none 0 0, .slice none 0 0, .int .i64 0] #[.slice h'.a0 h'.n0 h'.c0, .slice h'.a1 h'.n1 h'.c1, .bool h'.b, .slice h'.a2 h'.n2 h'.c2, .int .i64 ep, .slice la' ln lc', .int .i64 su, .slice fa' fn fc', .int .i64 ha, .bool up, .slice (some ⟨q, 0, none⟩) T.length T.length, .slice k'.a0 K.length k'.c0, .slice none 0 0, .int .i64 0]) := by unfold Hid; rw [← hVc11]; exact T4.out.set 11 _ rfl
  have c11 : w3.cell? ⟨w.heap.size + 1 + 1, 11, none⟩ = some (.slice none 0 0) := T4.out.o.cell 11
  have z11 := T4.out.o.thaw 11
  obtain ⟨Vc12, hVc12⟩ : ∃ W, Vc11.setCell ⟨w.heap.size + 1 + 1, 12, none⟩ (.slice k'.a1 Wt.length k'.c1) = W := ⟨_, rfl⟩
  have Tc12 : Hid (T3 w Vc12 37 53 #[.slice h.a0 h.n0 h.c0, .slice h.a1 h.n1 h.c1, .bool h.b, .slice h.a2 h.n2 h.c2, .int .i64 ep, .slice la ln lc, .int .i64 su, .slice fa fn fc, .int .i64 ha, .bool up, .slice ta T.length tc, .slice k.a0 K.length k.c0, .slice k.a1 Wt.length k.c1, .int .i64 nx] #[.slice none 0 0, .slice none 0 0, .bool false, .slice none 0 0, .int .i64 0, .slice none 0 0, .int .i64 0, .slice none 0 0, .int .i64 0, .bool false, .slice none 0 0, .slice none 0 0, .slice none 0 0, .int .i64 0] #[.slice h'.a0 h'.n0 h'.c0, .slice h'.a1 h'.n1 h'.c1, .bool h'.b, .slice h'.a2 h'.n2 h'.c2, .int .i64 ep, .slice la' ln lc', .int .i64 su, .slice fa' fn fc', .int .i64 ha, .bool up, .slice (some ⟨q, 0, none⟩) T.length T.length, .slice k'.a0 K.length k'.c0, .slice k'.a1 Wt.length k'.c1, .int .i64 0]) := by unfold Hid; rw [← hVc12]; exact Tc11.out.set 12 _ rfl
  have c12 : Vc11.cell? ⟨w.heap.size + 1 + 1, 12, none⟩ = some (.slice none 0 0) := Tc11.out.o.cell 12
  have z12 := Tc11.out.o.thaw 12
  obtain ⟨Vc13, hVc13⟩ : ∃ W, Vc12.setCell ⟨w.heap.size + 1 + 1, 13, none⟩ (.int .i64 nx) = W := ⟨_, rfl⟩
  have Tc13 : Hid (T3 w Vc13 37 53 #[.slice h.a0 h.n0 h.c0, .slice h.a1 h.n1 h.c1, .bool h.b, .slice h.a2 h.n2 h.c2, .int .i64 ep, .slice la ln lc, .int .i64 su, .slice fa fn fc, .int .i64 ha, .bool up, .slice ta T.length tc, .slice k.a0 K.length k.c0, .slice k.a1 Wt.length k.c1, .int .i64 nx] #[.slice none 0 0, .slice none 0 0, .bool false, .slice none 0 0, .int .i64 0, .slice none 0 0, .int .i64 0, .slice none 0 0, .int .i64 0, .bool false, .slice none 0 0, .slice none 0 0, .slice none 0 0, .int .i64 0] #[.slice h'.a0 h'.n0 h'.c0, .slice h'.a1 h'.n1 h'.c1, .bool h'.b, .slice h'.a2 h'.n2 h'.c2, .int .i64 ep, .slice la' ln lc', .int .i64 su, .slice fa' fn fc', .int .i64 ha, .bool up, .slice (some ⟨q, 0, none⟩) T.length T.length, .slice k'.a0 K.length k'.c0, .slice k'.a1 Wt.length k'.c1, .int .i64 nx]) := by unfold Hid; rw [← hVc13]; exact Tc12.out.set 13 _ rfl
  have c13 : Vc12.cell? ⟨w.heap.size + 1 + 1, 13, none⟩ = some (.int .i64 0) := Tc12.out.o.cell 13
  have z13 := Tc12.out.o.thaw 13
  have a13 : Vc12.cell? ⟨w.heap.size, 13, none⟩ = some (.int .i64 nx) := Tc12.out.a.cell 13
  have sc : w3.heap.size ≤ Vc13.heap.size ∧ Vc13.heap.size ≤ w3.heap.size := by rw [← hVc13, ← hVc12, ← hVc11]; simp
  have K3 : Hid (∀ g, V.heap.size ≤ g → ((((((((((((((Vc13.setCell ⟨w.heap.size + 1, 0, none⟩ (.slice h'.a0 h'.n0 h'.c0)).setCell ⟨w.heap.size + 1, 1, none⟩ (.slice h'.a1 h'.n1 h'.c1)).setCell ⟨w.heap.size + 1, 2, none⟩ (.bool h'.b)).setCell ⟨w.heap.size + 1, 3, none⟩ (.slice h'.a2 h'.n2 h'.c2)).setCell ⟨w.heap.size + 1, 4, none⟩ (.int .i64 ep)).setCell ⟨w.heap.size + 1, 5, none⟩ (.slice la' ln lc')).setCell ⟨w.heap.size + 1, 6, none⟩ (.int .i64 su)).setCell ⟨w.heap.size + 1, 7, none⟩ (.slice fa' fn fc')).setCell ⟨w.heap.size + 1, 8, none⟩ (.int .i64 ha)).setCell ⟨w.heap.size + 1, 9, none⟩ (.bool up)).setCell ⟨w.heap.size + 1, 10, none⟩ (.slice (some ⟨q, 0, none⟩) T.length T.length)).setCell ⟨w.heap.size + 1, 11, none⟩ (.slice k'.a0 K.length k'.c0)).setCell ⟨w.heap.size + 1, 12, none⟩ (.slice k'.a1 Wt.length k'.c1)).setCell ⟨w.heap.size + 1, 13, none⟩ (.int .i64 nx)).heap[g]? = w3.heap[g]?) := fun g hg => by
    rw [put14_same _ _ _ _ _ _ _ _ _ _ _ _ _ _ _ _ _ (by omega), ← hVc13, ← hVc12, ← hVc11, Below.heap_setCell _ _ _ _ (by simp; omega), Below.heap_setCell _ _ _ _ (by simp; omega), Below.heap_setCell _ _ _ _ (by simp; omega)]
  have sz : ((((((((((((((Vc13.setCell ⟨w.heap.size + 1, 0, none⟩ (.slice h'.a0 h'.n0 h'.c0)).setCell ⟨w.heap.size + 1, 1, none⟩ (.slice h'.a1 h'.n1 h'.c1)).setCell ⟨w.heap.size + 1, 2, none⟩ (.bool h'.b)).setCell ⟨w.heap.size + 1, 3, none⟩ (.slice h'.a2 h'.n2 h'.c2)).setCell ⟨w.heap.size + 1, 4, none⟩ (.int .i64 ep)).setCell ⟨w.heap.size + 1, 5, none⟩ (.slice la' ln lc')).setCell ⟨w.heap.size + 1, 6, none⟩ (.int .i64 su)).setCell ⟨w.heap.size + 1, 7, none⟩ (.slice fa' fn fc')).setCell ⟨w.heap.size + 1, 8, none⟩ (.int .i64 ha)).setCell ⟨w.heap.size + 1, 9, none⟩ (.bool up)).setCell ⟨w.heap.size + 1, 10, none⟩ (.slice (some ⟨q, 0, none⟩) T.length T.length)).setCell ⟨w.heap.size + 1, 11, none⟩ (.slice k'.a0 K.length k'.c0)).setCell ⟨w.heap.size + 1, 12, none⟩ (.slice k'.a1 Wt.length k'.c1)).setCell ⟨w.heap.size + 1, 13, none⟩ (.int .i64 nx)).heap.size = Vc13.heap.size := by simp
  have HRE : Hid (RdE ((((((((((((((Vc13.setCell ⟨w.heap.size + 1, 0, none⟩ (.slice h'.a0 h'.n0 h'.c0)).setCell ⟨w.heap.size + 1, 1, none⟩ (.slice h'.a1 h'.n1 h'.c1)).setCell ⟨w.heap.size + 1, 2, none⟩ (.bool h'.b)).setCell ⟨w.heap.size + 1, 3, none⟩ (.slice h'.a2 h'.n2 h'.c2)).setCell ⟨w.heap.size + 1, 4, none⟩ (.int .i64 ep)).setCell ⟨w.heap.size + 1, 5, none⟩ (.slice la' ln lc')).setCell ⟨w.heap.size + 1, 6, none⟩ (.int .i64 su)).setCell ⟨w.heap.size + 1, 7, none⟩ (.slice fa' fn fc')).setCell ⟨w.heap.size + 1, 8, none⟩ (.int .i64 ha)).setCell ⟨w.heap.size + 1, 9, none⟩ (.bool up)).setCell ⟨w.heap.size + 1, 10, none⟩ (.slice (some ⟨q, 0, none⟩) T.length T.length)).setCell ⟨w.heap.size + 1, 11, none⟩ (.slice k'.a0 K.length k'.c0)).setCell ⟨w.heap.size + 1, 12, none⟩ (.slice k'.a1 Wt.length k'.c1)).setCell ⟨w.heap.size + 1, 13, none⟩ (.int .i64 nx)) h' D la' ln Lg fa' fn gs (some ⟨q, 0, none⟩) T k' K Wt) := by
    unfold Hid
    have o6 := O5.out.same (w' := ((((((((((((((Vc13.setCell ⟨w.heap.size + 1, 0, none⟩ (.slice h'.a0 h'.n0 h'.c0)).setCell ⟨w.heap.size + 1, 1, none⟩ (.slice h'.a1 h'.n1 h'.c1)).setCell ⟨w.heap.size + 1, 2, none⟩ (.bool h'.b)).setCell ⟨w.heap.size + 1, 3, none⟩ (.slice h'.a2 h'.n2 h'.c2)).setCell ⟨w.heap.size + 1, 4, none⟩ (.int .i64 ep)).setCell ⟨w.heap.size + 1, 5, none⟩ (.slice la' ln lc')).setCell ⟨w.heap.size + 1, 6, none⟩ (.int .i64 su)).setCell ⟨w.heap.size + 1, 7, none⟩ (.slice fa' fn fc')).setCell ⟨w.heap.size + 1, 8, none⟩ (.int .i64 ha)).setCell ⟨w.heap.size + 1, 9, none⟩ (.bool up)).setCell ⟨w.heap.size + 1, 10, none⟩ (.slice (some ⟨q, 0, none⟩) T.length T.length)).setCell ⟨w.heap.size + 1, 11, none⟩ (.slice k'.a0 K.length k'.c0)).setCell ⟨w.heap.size + 1, 12, none⟩ (.slice k'.a1 Wt.length k'.c1)).setCell ⟨w.heap.size + 1, 13, none⟩ (.int .i64 nx))) (by omega) fun g h1 _ => K3.out g h1
    have q6 : (((((((((((((((Vc13.setCell ⟨w.heap.size + 1, 0, none⟩ (.slice h'.a0 h'.n0 h'.c0)).setCell ⟨w.heap.size + 1, 1, none⟩ (.slice h'.a1 h'.n1 h'.c1)).setCell ⟨w.heap.size + 1, 2, none⟩ (.bool h'.b)).setCell ⟨w.heap.size + 1, 3, none⟩ (.slice h'.a2 h'.n2 h'.c2)).setCell ⟨w.heap.size + 1, 4, none⟩ (.int .i64 ep)).setCell ⟨w.heap.size + 1, 5, none⟩ (.slice la' ln lc')).setCell ⟨w.heap.size + 1, 6, none⟩ (.int .i64 su)).setCell ⟨w.heap.size + 1, 7, none⟩ (.slice fa' fn fc')).setCell ⟨w.heap.size + 1, 8, none⟩ (.int .i64 ha)).setCell ⟨w.heap.size + 1, 9, none⟩ (.bool up)).setCell ⟨w.heap.size + 1, 10, none⟩ (.slice (some ⟨q, 0, none⟩) T.length T.length)).setCell ⟨w.heap.size + 1, 11, none⟩ (.slice k'.a0 K.length k'.c0)).setCell ⟨w.heap.size + 1, 12, none⟩ (.slice k'.a1 Wt.length k'.c1)).setCell ⟨w.heap.size + 1, 13, none⟩ (.int .i64 nx))).ownsRow q 95 2 (.slice (some ⟨q, 0, none⟩) T.length T.length) T.length (X.cellsW T) := own_same Q5.out fun g e => by
      rw [ob_slice] at e
      have e' : q = g := by simpa [ob] using e
      exact K3.out g (by omega)
    have k6 : L.OwnL (((((((((((((((Vc13.setCell ⟨w.heap.size + 1, 0, none⟩ (.slice h'.a0 h'.n0 h'.c0)).setCell ⟨w.heap.size + 1, 1, none⟩ (.slice h'.a1 h'.n1 h'.c1)).setCell ⟨w.heap.size + 1, 2, none⟩ (.bool h'.b)).setCell ⟨w.heap.size + 1, 3, none⟩ (.slice h'.a2 h'.n2 h'.c2)).setCell ⟨w.heap.size + 1, 4, none⟩ (.int .i64 ep)).setCell ⟨w.heap.size + 1, 5, none⟩ (.slice la' ln lc')).setCell ⟨w.heap.size + 1, 6, none⟩ (.int .i64 su)).setCell ⟨w.heap.size + 1, 7, none⟩ (.slice fa' fn fc')).setCell ⟨w.heap.size + 1, 8, none⟩ (.int .i64 ha)).setCell ⟨w.heap.size + 1, 9, none⟩ (.bool up)).setCell ⟨w.heap.size + 1, 10, none⟩ (.slice (some ⟨q, 0, none⟩) T.length T.length)).setCell ⟨w.heap.size + 1, 11, none⟩ (.slice k'.a0 K.length k'.c0)).setCell ⟨w.heap.size + 1, 12, none⟩ (.slice k'.a1 Wt.length k'.c1)).setCell ⟨w.heap.size + 1, 13, none⟩ (.int .i64 nx))) Vb.heap.size k' K Wt := ⟨own_same K5.out.1 fun g e => K3.out g (by have := K5.out.1.lt g e; omega), own_same K5.out.2.1 fun g e => K3.out g (by have := K5.out.2.1.lt g e; omega), K5.out.2.2⟩
    exact ⟨o6.rd.1, o6.rd.2.1, o6.rd.2.2, X.RdW.own q6, k6.rd⟩
  clear sz
  obtain ⟨y0, y1, y2, y3, y4, y5, y6, y7, y8, y9, y10, y11, y12, y13⟩ := box14 Tc13.out.o
  obtain ⟨r0, r1, r2, r3, r4, r5, r6, r7, r8, r9, r10, r11, r12, r13⟩ := box14 Tc13.out.r
  have t0 := Tc13.out.r.thaw 0
  have t1 := Tc13.out.r.thaw 1
  have t2 := Tc13.out.r.thaw 2
  have t3 := Tc13.out.r.thaw 3
  have t4 := Tc13.out.r.thaw 4
  have t5 := Tc13.out.r.thaw 5
  have t6 := Tc13.out.r.thaw 6
  have t7 := Tc13.out.r.thaw 7
  have t8 := Tc13.out.r.thaw 8
  have t9 := Tc13.out.r.thaw 9
  have t10 := Tc13.out.r.thaw 10
  have t11 := Tc13.out.r.thaw 11
  have t12 := Tc13.out.r.thaw 12
  have t13 := Tc13.out.r.thaw 13
  clear K3 O5 Q5 K5 T4 Tc11 Tc12
  go_wp2
  refine ret14 Tryz.results15 rfl rfl (put14_box Tc13.out.r _ _ _ _ _ _ _ _ _ _ _ _ _ _) ⟨⟨h', la', lc', fa', fc', gs, some ⟨q, 0, none⟩, T.length, k', rfl, HSM.out, HRE.out⟩, put14_below Tc13.out.bel (by omega) _ _ _ _ _ _ _ _ _ _ _ _ _ _⟩
set_option maxRecDepth 100000 in
set_option maxHeartbeats 4000000 in
theorem c_eqEN (h h' : HD) (D : DD) (ep : Int) (la la' : Option Addr) (ln lc lc' : Nat) (Lg : List DR) (su : Int) (fa fa' : Option Addr) (fn fc fc' : Nat) (F F' : List FF) (ha : Int) (up : Bool) (ta ta' : Option Addr) (tc tc' : Nat) (T : List X.WK) (k k' : L.HL) (K : List L.LK) (Wt : List L.WK) (nx : Int) (w : World) (r : RdE w h D la ln Lg fa fn F ta T k K Wt) (r' : RdE w h' D la' ln Lg fa' fn F' ta' T k' K Wt) (hs : SameF F F') (hf : FitE D ln Lg fn F T K Wt) :
    Calls Tryz.prog 17 #[.agg #[.slice h.a0 h.n0 h.c0, .slice h.a1 h.n1 h.c1, .bool h.b, .slice h.a2 h.n2 h.c2, .int .i64 ep, .slice la ln lc, .int .i64 su, .slice fa fn fc, .int .i64 ha, .bool up, .slice ta T.length tc, .slice k.a0 K.length k.c0, .slice k.a1 Wt.length k.c1, .int .i64 nx], .agg #[.slice h'.a0 h'.n0 h'.c0, .slice h'.a1 h'.n1 h'.c1, .bool h'.b, .slice h'.a2 h'.n2 h'.c2, .int .i64 ep, .slice la' ln lc', .int .i64 su, .slice fa' fn fc', .int .i64 ha, .bool up, .slice ta' T.length tc', .slice k'.a0 K.length k'.c0, .slice k'.a1 Wt.length k'.c1, .int .i64 nx]] w fun e w' => e = .returned (.bool true) ∧ Below w.heap.size w w' := by
  obtain ⟨V, hV⟩ : ∃ V, (w.alloc (.cells #[.slice h.a0 h.n0 h.c0, .slice h.a1 h.n1 h.c1, .bool h.b, .slice h.a2 h.n2 h.c2, .int .i64 ep, .slice la ln lc, .int .i64 su, .slice fa fn fc, .int .i64 ha, .bool up, .slice ta T.length tc, .slice k.a0 K.length k.c0, .slice k.a1 Wt.length k.c1, .int .i64 nx] 53)).alloc (.cells #[.slice h'.a0 h'.n0 h'.c0, .slice h'.a1 h'.n1 h'.c1, .bool h'.b, .slice h'.a2 h'.n2 h'.c2, .int .i64 ep, .slice la' ln lc', .int .i64 su, .slice fa' fn fc', .int .i64 ha, .bool up, .slice ta' T.length tc', .slice k'.a0 K.length k'.c0, .slice k'.a1 Wt.length k'.c1, .int .i64 nx] 53) = V := ⟨_, rfl⟩
  have B0 : Hid (Below w.heap.size w V) := by unfold Hid; rw [← hV]; exact ((Below.refl _ _).alloc (Nat.le_refl _) _).alloc (by simp) _
  have X0 : Hid (Box V w.heap.size 53 #[.slice h.a0 h.n0 h.c0, .slice h.a1 h.n1 h.c1, .bool h.b, .slice h.a2 h.n2 h.c2, .int .i64 ep, .slice la ln lc, .int .i64 su, .slice fa fn fc, .int .i64 ha, .bool up, .slice ta T.length tc, .slice k.a0 K.length k.c0, .slice k.a1 Wt.length k.c1, .int .i64 nx]) := by unfold Hid; rw [← hV]; exact (Box.new _ _ _).alloc _
  have Y0 : Hid (Box V (w.heap.size + 1) 53 #[.slice h'.a0 h'.n0 h'.c0, .slice h'.a1 h'.n1 h'.c1, .bool h'.b, .slice h'.a2 h'.n2 h'.c2, .int .i64 ep, .slice la' ln lc', .int .i64 su, .slice fa' fn fc', .int .i64 ha, .bool up, .slice ta' T.length tc', .slice k'.a0 K.length k'.c0, .slice k'.a1 Wt.length k'.c1, .int .i64 nx]) := by unfold Hid; rw [← hV]; exact Box.new2 _ _ _ _
  have rb := r.below B0.out
  have rb' := r'.below B0.out
  have C1 := c_eqST h h' D ep la la' ln lc lc' Lg su fa fa' fn fc fc' F F' ha V rb.1 rb'.1 rb.2.1 rb'.2.1 rb.2.2.1 rb'.2.2.1 hs hf.1
  have C2 : Hid (∀ W, Below w.heap.size w W → Calls Tryz.prog 65 #[.slice ta T.length tc, .slice ta' T.length tc'] W fun e w' => e = .returned (.bool true) ∧ Below W.heap.size W w') := fun W hW => X.c_eqW ta ta' T.length tc tc' T W (r.2.2.2.1.below hW) (r'.2.2.2.1.below hW) hf.2.1
  have C3 : Hid (∀ W, Below w.heap.size w W → Calls Tryz.prog 66 #[.agg #[.slice k.a0 K.length k.c0, .slice k.a1 Wt.length k.c1], .agg #[.slice k'.a0 K.length k'.c0, .slice k'.a1 Wt.length k'.c1]] W fun e w' => e = .returned (.bool true) ∧ Below W.heap.size W w') := fun W hW => L.c_eqL k k' K Wt W (r.2.2.2.2.below hW) (r'.2.2.2.2.below hW) hf.2.2.1 hf.2.2.2
  have n1 : (up != up) = false := by simp
  have n2 : (nx != nx) = false := by simp
  clear r r' rb rb' hs hf
  obtain ⟨x0, x1, x2, x3, x4, x5, x6, x7, x8, x9, x10, x11, x12, x13⟩ := box14 X0.out
  obtain ⟨y0, y1, y2, y3, y4, y5, y6, y7, y8, y9, y10, y11, y12, y13⟩ := box14 Y0.out
  go_enter Tryz.func17, Tryz.ntmps17
  go_wp2_with fail
  refine C1.mono ?_
  rintro e w1 ⟨rfl, hb⟩
  have B1 : Hid (Below w.heap.size w w1) := B0.out.trans (hb.mono B0.out.size)
  have X1 : Hid (Box w1 w.heap.size 53 #[.slice h.a0 h.n0 h.c0, .slice h.a1 h.n1 h.c1, .bool h.b, .slice h.a2 h.n2 h.c2, .int .i64 ep, .slice la ln lc, .int .i64 su, .slice fa fn fc, .int .i64 ha, .bool up, .slice ta T.length tc, .slice k.a0 K.length k.c0, .slice k.a1 Wt.length k.c1, .int .i64 nx]) := X0.out.belowS hb
  have Y1 : Hid (Box w1 (w.heap.size + 1) 53 #[.slice h'.a0 h'.n0 h'.c0, .slice h'.a1 h'.n1 h'.c1, .bool h'.b, .slice h'.a2 h'.n2 h'.c2, .int .i64 ep, .slice la' ln lc', .int .i64 su, .slice fa' fn fc', .int .i64 ha, .bool up, .slice ta' T.length tc', .slice k'.a0 K.length k'.c0, .slice k'.a1 Wt.length k'.c1, .int .i64 nx]) := Y0.out.belowS hb
  clear hb C1 hV B0 X0 Y0 x0 x1 x2 x3 x4 x5 x6 x7 x8 x9 x10 x11 x12 x13 y0 y1 y2 y3 y4 y5 y6 y7 y8 y9 y10 y11 y12 y13
  obtain ⟨x0, x1, x2, x3, x4, x5, x6, x7, x8, x9, x10, x11, x12, x13⟩ := box14 X1.out
  obtain ⟨y0, y1, y2, y3, y4, y5, y6, y7, y8, y9, y10, y11, y12, y13⟩ := box14 Y1.out
  go_wp2_with fail
  refine (C2.out w1 B1.out).mono ?_
  rintro e w2 ⟨rfl, hb⟩
  have B2 : Hid (Below w.heap.size w w2) := B1.out.trans (hb.mono B1.out.size)
  have X2 : Hid (Box w2 w.heap.size 53 #[.slice h.a0 h.n0 h.c0, .slice h.a1 h.n1 h.c1, .bool h.b, .slice h.a2 h.n2 h.c2, .int .i64 ep, .slice la ln lc, .int .i64 su, .slice fa fn fc, .int .i64 ha, .bool up, .slice ta T.length tc, .slice k.a0 K.length k.c0, .slice k.a1 Wt.length k.c1, .int .i64 nx]) := X1.out.belowS hb
  have Y2 : Hid (Box w2 (w.heap.size + 1) 53 #[.slice h'.a0 h'.n0 h'.c0, .slice h'.a1 h'.n1 h'.c1, .bool h'.b, .slice h'.a2 h'.n2 h'.c2, .int .i64 ep, .slice la' ln lc', .int .i64 su, .slice fa' fn fc', .int .i64 ha, .bool up, .slice ta' T.length tc', .slice k'.a0 K.length k'.c0, .slice k'.a1 Wt.length k'.c1, .int .i64 nx]) := Y1.out.belowS hb
  clear hb C2 B1 X1 Y1 x0 x1 x2 x3 x4 x5 x6 x7 x8 x9 x10 x11 x12 x13 y0 y1 y2 y3 y4 y5 y6 y7 y8 y9 y10 y11 y12 y13
  obtain ⟨x0, x1, x2, x3, x4, x5, x6, x7, x8, x9, x10, x11, x12, x13⟩ := box14 X2.out
  obtain ⟨y0, y1, y2, y3, y4, y5, y6, y7, y8, y9, y10, y11, y12, y13⟩ := box14 Y2.out
  go_wp2_with fail
  refine (C3.out w2 B2.out).mono ?_
  rintro e w3 ⟨rfl, hb⟩
  have B3 : Hid (Below w.heap.size w w3) := B2.out.trans (hb.mono B2.out.size)
  have X3 : Hid (Box w3 w.heap.size 53 #[.slice h.a0 h.n0 h.c0, .slice h.a1 h.n1 h.c1, .bool h.b, .slice h.a2 h.n2 h.c2, .int .i64 ep, .slice la ln lc, .int .i64 su, .slice fa fn fc, .int .i64 ha, .bool up, .slice ta T.length tc, .slice k.a0 K.length k.c0, .slice k.a1 Wt.length k.c1, .int .i64 nx]) := X2.out.belowS hb
  have Y3 : Hid (Box w3 (w.heap.size + 1) 53 #[.slice h'.a0 h'.n0 h'.c0, .slice h'.a1 h'.n1 h'.c1, .bool h'.b, .slice h'.a2 h'.n2 h'.c2, .int .i64 ep, .slice la' ln lc', .int .i64 su, .slice fa' fn fc', .int .i64 ha, .bool up, .slice ta' T.length tc', .slice k'.a0 K.length k'.c0, .slice k'.a1 Wt.length k'.c1, .int .i64 nx]) := Y2.out.belowS hb
  clear hb C3 B2 X2 Y2 x0 x1 x2 x3 x4 x5 x6 x7 x8 x9 x10 x11 x12 x13 y0 y1 y2 y3 y4 y5 y6 y7 y8 y9 y10 y11 y12 y13
  obtain ⟨x0, x1, x2, x3, x4, x5, x6, x7, x8, x9, x10, x11, x12, x13⟩ := box14 X3.out
  obtain ⟨y0, y1, y2, y3, y4, y5, y6, y7, y8, y9, y10, y11, y12, y13⟩ := box14 Y3.out
  cases up
  all_goals
    go_wp2
    go_ret
    exact ⟨rfl, B3.out⟩

end Go.Proofs.YtfibdpfhfgnbiaaGreatDoor
