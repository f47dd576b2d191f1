/-
  Statements: their sizes, copies and comparisons.
-/
import Derived.Test.YtknjglgellhchaaDoorSa
import Derived.Deep.RegionHeld3
namespace Go.Proofs.YtknjglgellhchaaDoor
open Go Go.RowKit
attribute [local go_sem ↓] Go.wp_at_zero Go.wp_at_succ

/-- The three blocks of a call that copies: its argument, its answer, and what it makes. -/
structure T3 (w V : World) (tA tR : TypeId) (xa xr xo : Array Value) : Prop where
  bel : Below w.heap.size w V
  a : Box V w.heap.size tA xa
  r : Box V (w.heap.size + 1) tR xr
  o : Box V (w.heap.size + 1 + 1) tR xo
  sz : w.heap.size + 1 + 1 + 1 ≤ V.heap.size
theorem T3.new (w : World) (tA tR : TypeId) (xa xr xo : Array Value) : T3 w (((w.alloc (.cells xa tA)).alloc (.cells xr tR)).alloc (.cells xo tR)) tA tR xa xr xo := by
  refine ⟨(((Below.refl _ _).alloc (Nat.le_refl _) _).alloc (by simp) _).alloc (by simp; omega) _, ((Box.new _ _ _).alloc _).alloc _, (Box.new2 _ _ _ _).alloc _, ?_, by simp⟩
  have := Box.new2 (w.alloc (.cells xa tA)) (.cells xr tR) xo tR
  rwa [show (w.alloc (.cells xa tA)).heap.size = w.heap.size + 1 by simp] at this
theorem T3.set {w V : World} {tA tR : TypeId} {xa xr xo : Array Value} (h : T3 w V tA tR xa xr xo) (i : Nat) (v : Value) {xo' : Array Value} (e : xo.setIfInBounds i v = xo') : T3 w (V.setCell ⟨w.heap.size + 1 + 1, i, none⟩ v) tA tR xa xr xo' := by
  refine ⟨h.bel.setCell (by simp; omega) _, h.a.setOther _ _ (by simp; omega), h.r.setOther _ _ (by simp), ?_, by simpa using h.sz⟩
  have := h.o.set i v
  rwa [e] at this
theorem T3.below {w V V' : World} {tA tR : TypeId} {xa xr xo : Array Value} (h : T3 w V tA tR xa xr xo) (hb : Below V.heap.size V V') : T3 w V' tA tR xa xr xo :=
  ⟨h.bel.trans (hb.mono h.bel.size), h.a.belowS hb, h.r.belowS hb, h.o.belowS hb, Nat.le_trans h.sz hb.size⟩
theorem box14 {w : World} {g : Nat} {t : TypeId} {v0 v1 v2 v3 v4 v5 v6 v7 v8 v9 v10 v11 v12 v13 : Value} (h : Box w g t #[v0, v1, v2, v3, v4, v5, v6, v7, v8, v9, v10, v11, v12, v13]) : w.cell? ⟨g, 0, none⟩ = some v0 ∧ w.cell? ⟨g, 1, none⟩ = some v1 ∧ w.cell? ⟨g, 2, none⟩ = some v2 ∧ w.cell? ⟨g, 3, none⟩ = some v3 ∧ w.cell? ⟨g, 4, none⟩ = some v4 ∧ w.cell? ⟨g, 5, none⟩ = some v5 ∧ w.cell? ⟨g, 6, none⟩ = some v6 ∧ w.cell? ⟨g, 7, none⟩ = some v7 ∧ w.cell? ⟨g, 8, none⟩ = some v8 ∧ w.cell? ⟨g, 9, none⟩ = some v9 ∧ w.cell? ⟨g, 10, none⟩ = some v10 ∧ w.cell? ⟨g, 11, none⟩ = some v11 ∧ w.cell? ⟨g, 12, none⟩ = some v12 ∧ w.cell? ⟨g, 13, none⟩ = some v13 := ⟨h.cell 0, h.cell 1, h.cell 2, h.cell 3, h.cell 4, h.cell 5, h.cell 6, h.cell 7, h.cell 8, h.cell 9, h.cell 10, h.cell 11, h.cell 12, h.cell 13⟩
theorem put14_box {w : World} {g : Nat} {t : TypeId} {x0 x1 x2 x3 x4 x5 x6 x7 x8 x9 x10 x11 x12 x13 : Value} (h : Box w g t #[x0, x1, x2, x3, x4, x5, x6, x7, x8, x9, x10, x11, x12, x13]) (v0 v1 v2 v3 v4 v5 v6 v7 v8 v9 v10 v11 v12 v13 : Value) : Box (((((((((((((((w.setCell ⟨g, 0, none⟩ (v0)).setCell ⟨g, 1, none⟩ (v1)).setCell ⟨g, 2, none⟩ (v2)).setCell ⟨g, 3, none⟩ (v3)).setCell ⟨g, 4, none⟩ (v4)).setCell ⟨g, 5, none⟩ (v5)).setCell ⟨g, 6, none⟩ (v6)).setCell ⟨g, 7, none⟩ (v7)).setCell ⟨g, 8, none⟩ (v8)).setCell ⟨g, 9, none⟩ (v9)).setCell ⟨g, 10, none⟩ (v10)).setCell ⟨g, 11, none⟩ (v11)).setCell ⟨g, 12, none⟩ (v12)).setCell ⟨g, 13, none⟩ (v13))) g t #[v0, v1, v2, v3, v4, v5, v6, v7, v8, v9, v10, v11, v12, v13] := by
  have k := ((((((((((((((h.set 0 v0).set 1 v1).set 2 v2).set 3 v3).set 4 v4).set 5 v5).set 6 v6).set 7 v7).set 8 v8).set 9 v9).set 10 v10).set 11 v11).set 12 v12).set 13 v13)
  simpa using k
theorem put14_below {a w : World} {g B : Nat} (h : Below B a w) (hg : B ≤ g) (v0 v1 v2 v3 v4 v5 v6 v7 v8 v9 v10 v11 v12 v13 : Value) : Below B a (((((((((((((((w.setCell ⟨g, 0, none⟩ (v0)).setCell ⟨g, 1, none⟩ (v1)).setCell ⟨g, 2, none⟩ (v2)).setCell ⟨g, 3, none⟩ (v3)).setCell ⟨g, 4, none⟩ (v4)).setCell ⟨g, 5, none⟩ (v5)).setCell ⟨g, 6, none⟩ (v6)).setCell ⟨g, 7, none⟩ (v7)).setCell ⟨g, 8, none⟩ (v8)).setCell ⟨g, 9, none⟩ (v9)).setCell ⟨g, 10, none⟩ (v10)).setCell ⟨g, 11, none⟩ (v11)).setCell ⟨g, 12, none⟩ (v12)).setCell ⟨g, 13, none⟩ (v13))) := ((((((((((((((h.setCell hg _).setCell hg _).setCell hg _).setCell hg _).setCell hg _).setCell hg _).setCell hg _).setCell hg _).setCell hg _).setCell hg _).setCell hg _).setCell hg _).setCell hg _).setCell hg _)
theorem put14_same (V : World) (r g : Nat) (v0 v1 v2 v3 v4 v5 v6 v7 v8 v9 v10 v11 v12 v13 : Value) (hg : g ≠ r) : ((((((((((((((V.setCell ⟨r, 0, none⟩ (v0)).setCell ⟨r, 1, none⟩ (v1)).setCell ⟨r, 2, none⟩ (v2)).setCell ⟨r, 3, none⟩ (v3)).setCell ⟨r, 4, none⟩ (v4)).setCell ⟨r, 5, none⟩ (v5)).setCell ⟨r, 6, none⟩ (v6)).setCell ⟨r, 7, none⟩ (v7)).setCell ⟨r, 8, none⟩ (v8)).setCell ⟨r, 9, none⟩ (v9)).setCell ⟨r, 10, none⟩ (v10)).setCell ⟨r, 11, none⟩ (v11)).setCell ⟨r, 12, none⟩ (v12)).setCell ⟨r, 13, none⟩ (v13)).heap[g]? = V.heap[g]? := by
  rw [Below.heap_setCell _ _ _ _ hg, Below.heap_setCell _ _ _ _ hg, Below.heap_setCell _ _ _ _ hg, Below.heap_setCell _ _ _ _ hg, Below.heap_setCell _ _ _ _ hg, Below.heap_setCell _ _ _ _ hg, Below.heap_setCell _ _ _ _ hg, Below.heap_setCell _ _ _ _ hg, Below.heap_setCell _ _ _ _ hg, Below.heap_setCell _ _ _ _ hg, Below.heap_setCell _ _ _ _ hg, Below.heap_setCell _ _ _ _ hg, Below.heap_setCell _ _ _ _ hg, Below.heap_setCell _ _ _ _ hg]
theorem loadVar14 {w : World} {r : Nat} {v0 v1 v2 v3 v4 v5 v6 v7 v8 v9 v10 v11 v12 v13 : Value} (hb : Box w r 52 #[v0, v1, v2, v3, v4, v5, v6, v7, v8, v9, v10, v11, v12, v13]) : (loadVar 52 ⟨r, 0, none⟩).run Tryd.prog w = .ok (.agg #[v0, v1, v2, v3, v4, v5, v6, v7, v8, v9, v10, v11, v12, v13]) w := by
  obtain ⟨x0, x1, x2, x3, x4, x5, x6, x7, x8, x9, x10, x11, x12, x13⟩ := box14 hb
  simp [go_sem, x0, x1, x2, x3, x4, x5, x6, x7, x8, x9, x10, x11, x12, x13]
theorem ret14 {fn : Func} {p : Tmp} (h : fn.results = #[.cell p 52]) {R : Ending → World → Prop} {a : Act} {w : World} {r : Nat} {v0 v1 v2 v3 v4 v5 v6 v7 v8 v9 v10 v11 v12 v13 : Value} (hp : a.tmps.getD p undef = .pointer (some ⟨r, 0, none⟩)) (hd : a.defers = []) (hb : Box w r 52 #[v0, v1, v2, v3, v4, v5, v6, v7, v8, v9, v10, v11, v12, v13]) (hR : R (.returned (.agg #[v0, v1, v2, v3, v4, v5, v6, v7, v8, v9, v10, v11, v12, v13])) w) : bodyPost Tryd.prog fn R .ret a w := by
  refine bodyPost_ret ?_ hd hR
  have hp' : a.tmps[p]?.getD undef = .pointer (some ⟨r, 0, none⟩) := by simpa using hp
  simp only [results, h]
  simp [hp', asAddr, loadVar14 hb]
set_option maxRecDepth 100000 in
set_option maxHeartbeats 4000000 in
theorem World.ownsRow.mono {w : World} {base base' e size n : Nat} {v : Value} {xs : List Value} (h : w.ownsRow base e size v n xs) (hb : base' ≤ base) : w.ownsRow base' e size v n xs := by
  refine ⟨h.1, ?_⟩
  rcases h.2 with h | ⟨g, cap, cur, h1, h2, h3⟩
  · exact .inl h
  · exact .inr ⟨g, cap, cur, h1, by omega, h3⟩
set_option maxRecDepth 100000 in
set_option maxHeartbeats 4000000 in
theorem c_toX2 (a : Option Addr) (n c : Nat) (L : List EN) (w : World) (hr : RdE w a n L) (hn : n ≤ 1048576) :
    Calls Tryd.prog 9 #[.agg #[.slice a n c]] w fun e w' => (∃ b : Nat, e = .returned (.agg #[.slice (some ⟨b, 0, none⟩) n n]) ∧ w'.ownsRow w.heap.size 101 7 (.slice (some ⟨b, 0, none⟩) n n) n (cellsE L)) ∧ Below w.heap.size w w' := by
  obtain ⟨V, hV⟩ : ∃ V, ((w.alloc (.cells #[.slice a n c] 24)).alloc (.cells #[.slice none 0 0] 30)).alloc (.cells #[.slice none 0 0] 30) = V := ⟨_, rfl⟩
  have B0 : Below w.heap.size w V := by rw [← hV]; exact (((Below.refl _ _).alloc (Nat.le_refl _) _).alloc (by simp) _).alloc (by simp; omega) _
  have X0 : Box V (w.heap.size + 1) 30 #[.slice none 0 0] := by rw [← hV]; exact (Box.new2 _ _ _ _).alloc _
  have Y0 : Box V (w.heap.size + 1 + 1) 30 #[.slice none 0 0] := by rw [← hV]; have := Box.new2 (w.alloc (.cells #[.slice a n c] 24)) (.cells #[.slice none 0 0] 30) #[.slice none 0 0] 30; simpa using this
  have A0 : Box V w.heap.size 24 #[.slice a n c] := by rw [← hV]; exact ((Box.new _ _ _).alloc _).alloc _
  have a0 : V.cell? ⟨w.heap.size, 0, none⟩ = some (.slice a n c) := A0.cell 0
  clear A0
  have C := c_toE a n c L V (hr.below B0) hn
  clear hr
  go_enter Tryd.func9, Tryd.ntmps9
  go_wp2_with fail
  refine C.mono ?_
  rintro e w1 ⟨rfl, ho, hb⟩
  have B1 : Hid (Below w.heap.size w w1) := B0.trans (hb.mono B0.size)
  have X1 : Box w1 (w.heap.size + 1) 30 #[.slice none 0 0] := X0.belowS hb
  have Y1 : Box w1 (w.heap.size + 1 + 1) 30 #[.slice none 0 0] := Y0.belowS hb
  have sV : w.heap.size + 1 + 1 < V.heap.size := Y0.lt
  have s1 : V.heap.size ≤ w1.heap.size := hb.size
  have x0 : w1.cell? ⟨w.heap.size + 1, 0, none⟩ = some (.slice none 0 0) := X1.cell 0
  have y0 : w1.cell? ⟨w.heap.size + 1 + 1, 0, none⟩ = some (.slice none 0 0) := Y1.cell 0
  have tx := X1.thaw 0
  have ty := Y1.thaw 0
  have X2 : Hid (∀ v u, Box ((w1.setCell ⟨w.heap.size + 1 + 1, 0, none⟩ v).setCell ⟨w.heap.size + 1, 0, none⟩ u) (w.heap.size + 1) 30 #[u]) := fun v u => by
    have := ((X1.setOther ⟨w.heap.size + 1 + 1, 0, none⟩ v (by simp)).set 0 u)
    simpa using this
  have HO : Hid (w1.ownsRow V.heap.size 101 7 (.slice (some ⟨V.heap.size, 0, none⟩) n n) n (cellsE L)) := ho
  have B1s : w.heap.size ≤ V.heap.size := by omega
  clear hb hV B0 X0 Y0 C X1 Y1 ho a0
  go_wp2
  refine ret1 Tryd.results9 rfl rfl (X2.out _ _) ⟨⟨_, rfl, ?_⟩, (B1.out.setCell (by simp; omega) _).setCell (by simp) _⟩
  refine World.ownsRow.mono (own_same HO.out fun g e => ?_) B1s
  have e' : V.heap.size = g := Option.some.inj e
  rw [Below.heap_setCell _ _ _ _ (by simp; omega), Below.heap_setCell _ _ _ _ (by simp; omega)]
set_option maxRecDepth 100000 in
set_option maxHeartbeats 4000000 in
theorem c_szStmt (k tb i : Int) (u v : VV) (c : Int) (sa : Option Addr) (sn sc : Nat) (wa : Option Addr) (wn wc : Nat) (o : Int) (d : Bool) (LS LW : List EN) (w : World) (h1 : u.2.2.size ≤ maxLen) (h2 : v.2.2.size ≤ maxLen) (s1 : sn ≤ maxLen) (s2 : RdE w sa sn LS) (s3 : ∀ x ∈ LS, x.t.size ≤ maxLen) (w1 : wn ≤ maxLen) (w2 : RdE w wa wn LW) (w3 : ∀ x ∈ LW, x.t.size ≤ maxLen) (left : Int) (l0 : 0 ≤ left) (l1 : left ≤ 1048576) :
    Calls Tryd.prog 17 #[.agg #[.int .i64 k, .int .i64 tb, .int .i64 i, .int .i64 u.1, .int .i64 u.2.1, .string u.2.2, .int .i64 v.1, .int .i64 v.2.1, .string v.2.2, .int .i64 c, .slice sa sn sc, .slice wa wn wc, .int .i64 o, .bool d], .int .i64 left] w fun e w' => (∃ z : Int, e = .returned (.int .i64 z) ∧ (0 ≤ z → sn ≤ 1048576 ∧ wn ≤ 1048576)) ∧ Below w.heap.size w w' := by
  obtain ⟨V, hV⟩ : ∃ V, w.alloc (.cells #[.int .i64 k, .int .i64 tb, .int .i64 i, .int .i64 u.1, .int .i64 u.2.1, .string u.2.2, .int .i64 v.1, .int .i64 v.2.1, .string v.2.2, .int .i64 c, .slice sa sn sc, .slice wa wn wc, .int .i64 o, .bool d] 45) = V := ⟨_, rfl⟩
  have BV : Hid (Below w.heap.size w V) := by unfold Hid; rw [← hV]; exact (Below.refl _ _).alloc (Nat.le_refl _) _
  have X : Hid (Box V w.heap.size 45 #[.int .i64 k, .int .i64 tb, .int .i64 i, .int .i64 u.1, .int .i64 u.2.1, .string u.2.2, .int .i64 v.1, .int .i64 v.2.1, .string v.2.2, .int .i64 c, .slice sa sn sc, .slice wa wn wc, .int .i64 o, .bool d]) := by unfold Hid; rw [← hV]; exact Box.new _ _ _
  obtain ⟨x0, x1, x2, x3, x4, x5, x6, x7, x8, x9, x10, x11, x12, x13⟩ := box14 X.out
  have C0 := c_szRowL i u v left V h1 h2 l0 l1
  have C1 : Hid (∀ (z : Int) W, 0 ≤ z → z ≤ 1048576 → Below w.heap.size w W → Calls Tryd.prog 7 #[.agg #[.slice sa sn sc], .int .i64 z] W fun e w' => (∃ z' : Int, e = .returned (.int .i64 z') ∧ z' ≤ z ∧ (0 ≤ z' → sn ≤ 1048576)) ∧ Below W.heap.size W w') := fun z W a b h => c_szX sa sn sc LS z W (s2.below h) s1 s3 a b
  have C2 : Hid (∀ (z : Int) W, 0 ≤ z → z ≤ 1048576 → Below w.heap.size w W → Calls Tryd.prog 7 #[.agg #[.slice wa wn wc], .int .i64 z] W fun e w' => (∃ z' : Int, e = .returned (.int .i64 z') ∧ z' ≤ z ∧ (0 ≤ z' → wn ≤ 1048576)) ∧ Below W.heap.size W w') := fun z W a b h => c_szX wa wn wc LW z W (w2.below h) w1 w3 a b
  clear h1 h2 s1 s2 s3 w1 w2 w3
  go_enter Tryd.func17, Tryd.ntmps17
  go_wp2_with fail
  refine C0.mono ?_
  rintro e W1 ⟨⟨z1, rfl, hz1⟩, hb⟩
  have B1 : Hid (Below w.heap.size w W1) := BV.out.trans (hb.mono BV.out.size)
  have X1 : Hid (Box W1 w.heap.size 45 #[.int .i64 k, .int .i64 tb, .int .i64 i, .int .i64 u.1, .int .i64 u.2.1, .string u.2.2, .int .i64 v.1, .int .i64 v.2.1, .string v.2.2, .int .i64 c, .slice sa sn sc, .slice wa wn wc, .int .i64 o, .bool d]) := X.out.belowS hb
  clear hb hV x0 x1 x2 x3 x4 x5 x6 x7 x8 x9 x10 x11 x12 x13 C0 BV X
  by_cases n1 : z1 < 0
  · go_wp2
    go_ret
    exact ⟨⟨_, rfl, fun h => absurd h (by omega)⟩, B1.out⟩
  obtain ⟨x0, x1, x2, x3, x4, x5, x6, x7, x8, x9, x10, x11, x12, x13⟩ := box14 X1.out
  have C1' := C1.out z1 W1 (by omega) (by omega) B1.out
  clear C1
  go_wp2_with fail
  refine C1'.mono ?_
  rintro e W2 ⟨⟨z2, rfl, hz2, hs⟩, hb⟩
  have B2 : Hid (Below w.heap.size w W2) := B1.out.trans (hb.mono B1.out.size)
  have X2 : Hid (Box W2 w.heap.size 45 #[.int .i64 k, .int .i64 tb, .int .i64 i, .int .i64 u.1, .int .i64 u.2.1, .string u.2.2, .int .i64 v.1, .int .i64 v.2.1, .string v.2.2, .int .i64 c, .slice sa sn sc, .slice wa wn wc, .int .i64 o, .bool d]) := X1.out.belowS hb
  have HS : Hid (0 ≤ z2 → sn ≤ 1048576) := hs
  clear hb x0 x1 x2 x3 x4 x5 x6 x7 x8 x9 x10 x11 x12 x13 C1' B1 X1 hs
  by_cases n2 : z2 < 0
  · go_wp2
    go_ret
    exact ⟨⟨_, rfl, fun h => absurd h (by omega)⟩, B2.out⟩
  obtain ⟨x0, x1, x2, x3, x4, x5, x6, x7, x8, x9, x10, x11, x12, x13⟩ := box14 X2.out
  have C2' := C2.out z2 W2 (by omega) (by omega) B2.out
  clear C2
  go_wp2_with fail
  refine C2'.mono ?_
  rintro e W3 ⟨⟨z3, rfl, hz3, hs⟩, hb⟩
  have B3 : Hid (Below w.heap.size w W3) := B2.out.trans (hb.mono B2.out.size)
  have HW : Hid (0 ≤ z3 → wn ≤ 1048576) := hs
  clear hb x0 x1 x2 x3 x4 x5 x6 x7 x8 x9 x10 x11 x12 x13 C2' B2 X2 hs
  by_cases n3 : z3 < 0
  · go_wp2
    go_ret
    exact ⟨⟨_, rfl, fun h => absurd h (by omega)⟩, B3.out⟩
  · go_wp2
    go_ret
    exact ⟨⟨_, rfl, fun h => ⟨HS.out (by omega), HW.out h⟩⟩, B3.out⟩
set_option maxRecDepth 100000 in
set_option maxHeartbeats 4000000 in
theorem c_eqStmt (k tb i : Int) (u v : VV) (c : Int) (sa : Option Addr) (sn sc : Nat) (wa : Option Addr) (wn wc : Nat) (o : Int) (d : Bool) (sa' : Option Addr) (sc' : Nat) (wa' : Option Addr) (wc' : Nat) (LS LW : List EN) (w : World) (s2 : RdE w sa sn LS) (s2' : RdE w sa' sn LS) (hs : sn ≤ 1048576) (w2 : RdE w wa wn LW) (w2' : RdE w wa' wn LW) (hw : wn ≤ 1048576) :
    Calls Tryd.prog 21 #[.agg #[.int .i64 k, .int .i64 tb, .int .i64 i, .int .i64 u.1, .int .i64 u.2.1, .string u.2.2, .int .i64 v.1, .int .i64 v.2.1, .string v.2.2, .int .i64 c, .slice sa sn sc, .slice wa wn wc, .int .i64 o, .bool d], .agg #[.int .i64 k, .int .i64 tb, .int .i64 i, .int .i64 u.1, .int .i64 u.2.1, .string u.2.2, .int .i64 v.1, .int .i64 v.2.1, .string v.2.2, .int .i64 c, .slice sa' sn sc', .slice wa' wn wc', .int .i64 o, .bool d]] w fun e w' => e = .returned (.bool true) ∧ Below w.heap.size w w' := by
  obtain ⟨V, hV⟩ : ∃ V, (w.alloc (.cells #[.int .i64 k, .int .i64 tb, .int .i64 i, .int .i64 u.1, .int .i64 u.2.1, .string u.2.2, .int .i64 v.1, .int .i64 v.2.1, .string v.2.2, .int .i64 c, .slice sa sn sc, .slice wa wn wc, .int .i64 o, .bool d] 52)).alloc (.cells #[.int .i64 k, .int .i64 tb, .int .i64 i, .int .i64 u.1, .int .i64 u.2.1, .string u.2.2, .int .i64 v.1, .int .i64 v.2.1, .string v.2.2, .int .i64 c, .slice sa' sn sc', .slice wa' wn wc', .int .i64 o, .bool d] 52) = V := ⟨_, rfl⟩
  have BV : Hid (Below w.heap.size w V) := by unfold Hid; rw [← hV]; exact ((Below.refl _ _).alloc (Nat.le_refl _) _).alloc (by simp) _
  have X : Hid (Box V w.heap.size 52 #[.int .i64 k, .int .i64 tb, .int .i64 i, .int .i64 u.1, .int .i64 u.2.1, .string u.2.2, .int .i64 v.1, .int .i64 v.2.1, .string v.2.2, .int .i64 c, .slice sa sn sc, .slice wa wn wc, .int .i64 o, .bool d]) := by unfold Hid; rw [← hV]; exact (Box.new _ _ _).alloc _
  have Y : Hid (Box V (w.heap.size + 1) 52 #[.int .i64 k, .int .i64 tb, .int .i64 i, .int .i64 u.1, .int .i64 u.2.1, .string u.2.2, .int .i64 v.1, .int .i64 v.2.1, .string v.2.2, .int .i64 c, .slice sa' sn sc', .slice wa' wn wc', .int .i64 o, .bool d]) := by unfold Hid; rw [← hV]; exact Box.new2 _ _ _ _
  have C1 : Hid (∀ W, Below w.heap.size w W → Calls Tryd.prog 11 #[.agg #[.slice sa sn sc], .agg #[.slice sa' sn sc']] W fun e w' => e = .returned (.bool true) ∧ Below W.heap.size W w') := fun W h => c_eqX sa sa' sn sc sc' LS W (s2.below h) (s2'.below h) hs
  have C2 : Hid (∀ W, Below w.heap.size w W → Calls Tryd.prog 11 #[.agg #[.slice wa wn wc], .agg #[.slice wa' wn wc']] W fun e w' => e = .returned (.bool true) ∧ Below W.heap.size W w') := fun W h => c_eqX wa wa' wn wc wc' LW W (w2.below h) (w2'.below h) hw
  have C0 := c_eqRow i u v V
  have e1 : (k != k) = false := by simp
  have e2 : (tb != tb) = false := by simp
  have e3 : (c != c) = false := by simp
  have e4 : (o != o) = false := by simp
  have e5 : (d != d) = false := by simp
  clear s2 s2' w2 w2' hs hw
  obtain ⟨x0, x1, x2, x3, x4, x5, x6, x7, x8, x9, x10, x11, x12, x13⟩ := box14 X.out
  obtain ⟨y0, y1, y2, y3, y4, y5, y6, y7, y8, y9, y10, y11, y12, y13⟩ := box14 Y.out
  go_enter Tryd.func21, Tryd.ntmps21
  go_wp2_with fail
  refine C0.mono ?_
  rintro e W1 ⟨rfl, hb⟩
  have B1 : Hid (Below w.heap.size w W1) := BV.out.trans (hb.mono BV.out.size)
  have X1 : Hid (Box W1 w.heap.size 52 #[.int .i64 k, .int .i64 tb, .int .i64 i, .int .i64 u.1, .int .i64 u.2.1, .string u.2.2, .int .i64 v.1, .int .i64 v.2.1, .string v.2.2, .int .i64 c, .slice sa sn sc, .slice wa wn wc, .int .i64 o, .bool d]) := X.out.belowS hb
  have Y1 : Hid (Box W1 (w.heap.size + 1) 52 #[.int .i64 k, .int .i64 tb, .int .i64 i, .int .i64 u.1, .int .i64 u.2.1, .string u.2.2, .int .i64 v.1, .int .i64 v.2.1, .string v.2.2, .int .i64 c, .slice sa' sn sc', .slice wa' wn wc', .int .i64 o, .bool d]) := Y.out.belowS hb
  clear hb hV x0 x1 x2 x3 x4 x5 x6 x7 x8 x9 x10 x11 x12 x13 y0 y1 y2 y3 y4 y5 y6 y7 y8 y9 y10 y11 y12 y13 C0 BV X Y
  obtain ⟨x0, x1, x2, x3, x4, x5, x6, x7, x8, x9, x10, x11, x12, x13⟩ := box14 X1.out
  obtain ⟨y0, y1, y2, y3, y4, y5, y6, y7, y8, y9, y10, y11, y12, y13⟩ := box14 Y1.out
  have C1' := C1.out W1 B1.out
  clear C1
  go_wp2_with fail
  refine C1'.mono ?_
  rintro e W2 ⟨rfl, hb⟩
  have B2 : Hid (Below w.heap.size w W2) := B1.out.trans (hb.mono B1.out.size)
  have X2 : Hid (Box W2 w.heap.size 52 #[.int .i64 k, .int .i64 tb, .int .i64 i, .int .i64 u.1, .int .i64 u.2.1, .string u.2.2, .int .i64 v.1, .int .i64 v.2.1, .string v.2.2, .int .i64 c, .slice sa sn sc, .slice wa wn wc, .int .i64 o, .bool d]) := X1.out.belowS hb
  have Y2 : Hid (Box W2 (w.heap.size + 1) 52 #[.int .i64 k, .int .i64 tb, .int .i64 i, .int .i64 u.1, .int .i64 u.2.1, .string u.2.2, .int .i64 v.1, .int .i64 v.2.1, .string v.2.2, .int .i64 c, .slice sa' sn sc', .slice wa' wn wc', .int .i64 o, .bool d]) := Y1.out.belowS hb
  clear hb x0 x1 x2 x3 x4 x5 x6 x7 x8 x9 x10 x11 x12 x13 y0 y1 y2 y3 y4 y5 y6 y7 y8 y9 y10 y11 y12 y13 C1' B1 X1 Y1
  obtain ⟨x0, x1, x2, x3, x4, x5, x6, x7, x8, x9, x10, x11, x12, x13⟩ := box14 X2.out
  obtain ⟨y0, y1, y2, y3, y4, y5, y6, y7, y8, y9, y10, y11, y12, y13⟩ := box14 Y2.out
  have C2' := C2.out W2 B2.out
  clear C2
  go_wp2_with fail
  refine C2'.mono ?_
  rintro e W3 ⟨rfl, hb⟩
  have B3 : Hid (Below w.heap.size w W3) := B2.out.trans (hb.mono B2.out.size)
  have X3 : Hid (Box W3 w.heap.size 52 #[.int .i64 k, .int .i64 tb, .int .i64 i, .int .i64 u.1, .int .i64 u.2.1, .string u.2.2, .int .i64 v.1, .int .i64 v.2.1, .string v.2.2, .int .i64 c, .slice sa sn sc, .slice wa wn wc, .int .i64 o, .bool d]) := X2.out.belowS hb
  have Y3 : Hid (Box W3 (w.heap.size + 1) 52 #[.int .i64 k, .int .i64 tb, .int .i64 i, .int .i64 u.1, .int .i64 u.2.1, .string u.2.2, .int .i64 v.1, .int .i64 v.2.1, .string v.2.2, .int .i64 c, .slice sa' sn sc', .slice wa' wn wc', .int .i64 o, .bool d]) := Y2.out.belowS hb
  clear hb x0 x1 x2 x3 x4 x5 x6 x7 x8 x9 x10 x11 x12 x13 y0 y1 y2 y3 y4 y5 y6 y7 y8 y9 y10 y11 y12 y13 C2' B2 X2 Y2
  obtain ⟨x0, x1, x2, x3, x4, x5, x6, x7, x8, x9, x10, x11, x12, x13⟩ := box14 X3.out
  obtain ⟨y0, y1, y2, y3, y4, y5, y6, y7, y8, y9, y10, y11, y12, y13⟩ := box14 Y3.out
  go_wp2
  go_ret
  exact ⟨rfl, B3.out⟩
set_option maxRecDepth 100000 in
set_option maxHeartbeats 4000000 in
theorem c_toStmt (k tb i : Int) (u v : VV) (c : Int) (sa : Option Addr) (sn sc : Nat) (wa : Option Addr) (wn wc : Nat) (o : Int) (d : Bool) (LS LW : List EN) (w : World) (s2 : RdE w sa sn LS) (hs : sn ≤ 1048576) (w2 : RdE w wa wn LW) (hw : wn ≤ 1048576) :
    Calls Tryd.prog 19 #[.agg #[.int .i64 k, .int .i64 tb, .int .i64 i, .int .i64 u.1, .int .i64 u.2.1, .string u.2.2, .int .i64 v.1, .int .i64 v.2.1, .string v.2.2, .int .i64 c, .slice sa sn sc, .slice wa wn wc, .int .i64 o, .bool d]] w fun e w' => (∃ sb wb : Nat, e = .returned (.agg #[.int .i64 k, .int .i64 tb, .int .i64 i, .int .i64 u.1, .int .i64 u.2.1, .string u.2.2, .int .i64 v.1, .int .i64 v.2.1, .string v.2.2, .int .i64 c, .slice (some ⟨sb, 0, none⟩) sn sn, .slice (some ⟨wb, 0, none⟩) wn wn, .int .i64 o, .bool d]) ∧ RdE w' (some ⟨sb, 0, none⟩) sn LS ∧ RdE w' (some ⟨wb, 0, none⟩) wn LW) ∧ Below w.heap.size w w' := by
  obtain ⟨V, hV⟩ : ∃ V, ((w.alloc (.cells #[.int .i64 k, .int .i64 tb, .int .i64 i, .int .i64 u.1, .int .i64 u.2.1, .string u.2.2, .int .i64 v.1, .int .i64 v.2.1, .string v.2.2, .int .i64 c, .slice sa sn sc, .slice wa wn wc, .int .i64 o, .bool d] 45)).alloc (.cells #[.int .i64 0, .int .i64 0, .int .i64 0, .int .i64 0, .int .i64 0, .string ⟨#[]⟩, .int .i64 0, .int .i64 0, .string ⟨#[]⟩, .int .i64 0, .slice none 0 0, .slice none 0 0, .int .i64 0, .bool false] 52)).alloc (.cells #[.int .i64 0, .int .i64 0, .int .i64 0, .int .i64 0, .int .i64 0, .string ⟨#[]⟩, .int .i64 0, .int .i64 0, .string ⟨#[]⟩, .int .i64 0, .slice none 0 0, .slice none 0 0, .int .i64 0, .bool false] 52) = V := ⟨_, rfl⟩
  have T0 : Hid (T3 w V 45 52 #[.int .i64 k, .int .i64 tb, .int .i64 i, .int .i64 u.1, .int .i64 u.2.1, .string u.2.2, .int .i64 v.1, .int .i64 v.2.1, .string v.2.2, .int .i64 c, .slice sa sn sc, .slice wa wn wc, .int .i64 o, .bool d] #[.int .i64 0, .int .i64 0, .int .i64 0, .int .i64 0, .int .i64 0, .string ⟨#[]⟩, .int .i64 0, .int .i64 0, .string ⟨#[]⟩, .int .i64 0, .slice none 0 0, .slice none 0 0, .int .i64 0, .bool false] #[.int .i64 0, .int .i64 0, .int .i64 0, .int .i64 0, .int .i64 0, .string ⟨#[]⟩, .int .i64 0, .int .i64 0, .string ⟨#[]⟩, .int .i64 0, .slice none 0 0, .slice none 0 0, .int .i64 0, .bool false]) := by unfold Hid; rw [← hV]; exact T3.new _ _ _ _ _ _
  have C1 : Hid (∀ W, Below w.heap.size w W → Calls Tryd.prog 9 #[.agg #[.slice sa sn sc]] W fun e w' => (∃ b : Nat, e = .returned (.agg #[.slice (some ⟨b, 0, none⟩) sn sn]) ∧ w'.ownsRow W.heap.size 101 7 (.slice (some ⟨b, 0, none⟩) sn sn) sn (cellsE LS)) ∧ Below W.heap.size W w') := fun W h => c_toX2 sa sn sc LS W (s2.below h) hs
  have C2 : Hid (∀ W, Below w.heap.size w W → Calls Tryd.prog 9 #[.agg #[.slice wa wn wc]] W fun e w' => (∃ b : Nat, e = .returned (.agg #[.slice (some ⟨b, 0, none⟩) wn wn]) ∧ w'.ownsRow W.heap.size 101 7 (.slice (some ⟨b, 0, none⟩) wn wn) wn (cellsE LW)) ∧ Below W.heap.size W w') := fun W h => c_toX2 wa wn wc LW W (w2.below h) hw
  clear s2 w2 hs hw
  go_enter Tryd.func19, Tryd.ntmps19
  have a0 : V.cell? ⟨w.heap.size, 0, none⟩ = some (.int .i64 k) := T0.out.a.cell 0
  have c0 : V.cell? ⟨w.heap.size + 1 + 1, 0, none⟩ = some (.int .i64 0) := T0.out.o.cell 0
  have z0 := T0.out.o.thaw 0
  obtain ⟨U1, hU1⟩ : ∃ W, V.setCell ⟨w.heap.size + 1 + 1, 0, none⟩ (.int .i64 k) = W := ⟨_, rfl⟩
  have Tq1 : Hid (T3 w U1 45 52 #[.int .i64 k, .int .i64 tb, .int .i64 i, .int .i64 u.1, .int .i64 u.2.1, .string u.2.2, .int .i64 v.1, .int .i64 v.2.1, .string v.2.2, .int .i64 c, .slice sa sn sc, .slice wa wn wc, .int .i64 o, .bool d] #[.int .i64 0, .int .i64 0, .int .i64 0, .int .i64 0, .int .i64 0, .string ⟨#[]⟩, .int .i64 0, .int .i64 0, .string ⟨#[]⟩, .int .i64 0, .slice none 0 0, .slice none 0 0, .int .i64 0, .bool false] #[.int .i64 k, .int .i64 0, .int .i64 0, .int .i64 0, .int .i64 0, .string ⟨#[]⟩, .int .i64 0, .int .i64 0, .string ⟨#[]⟩, .int .i64 0, .slice none 0 0, .slice none 0 0, .int .i64 0, .bool false]) := by unfold Hid; rw [← hU1]; exact T0.out.set 0 _ rfl
  have a1 : U1.cell? ⟨w.heap.size, 1, none⟩ = some (.int .i64 tb) := Tq1.out.a.cell 1
  have c1 : U1.cell? ⟨w.heap.size + 1 + 1, 1, none⟩ = some (.int .i64 0) := Tq1.out.o.cell 1
  have z1 := Tq1.out.o.thaw 1
  obtain ⟨U2, hU2⟩ : ∃ W, U1.setCell ⟨w.heap.size + 1 + 1, 1, none⟩ (.int .i64 tb) = W := ⟨_, rfl⟩
  have Tq2 : Hid (T3 w U2 45 52 #[.int .i64 k, .int .i64 tb, .int .i64 i, .int .i64 u.1, .int .i64 u.2.1, .string u.2.2, .int .i64 v.1, .int .i64 v.2.1, .string v.2.2, .int .i64 c, .slice sa sn sc, .slice wa wn wc, .int .i64 o, .bool d] #[.int .i64 0, .int .i64 0, .int .i64 0, .int .i64 0, .int .i64 0, .string ⟨#[]⟩, .int .i64 0, .int .i64 0, .string ⟨#[]⟩, .int .i64 0, .slice none 0 0, .slice none 0 0, .int .i64 0, .bool false] #[.int .i64 k, .int .i64 tb, .int .i64 0, .int .i64 0, .int .i64 0, .string ⟨#[]⟩, .int .i64 0, .int .i64 0, .string ⟨#[]⟩, .int .i64 0, .slice none 0 0, .slice none 0 0, .int .i64 0, .bool false]) := by unfold Hid; rw [← hU2]; exact Tq1.out.set 1 _ rfl
  have a2 : U2.cell? ⟨w.heap.size, 2, none⟩ = some (.int .i64 i) := Tq2.out.a.cell 2
  have a3 : U2.cell? ⟨w.heap.size, 3, none⟩ = some (.int .i64 u.1) := Tq2.out.a.cell 3
  have a4 : U2.cell? ⟨w.heap.size, 4, none⟩ = some (.int .i64 u.2.1) := Tq2.out.a.cell 4
  have a5 : U2.cell? ⟨w.heap.size, 5, none⟩ = some (.string u.2.2) := Tq2.out.a.cell 5
  have a6 : U2.cell? ⟨w.heap.size, 6, none⟩ = some (.int .i64 v.1) := Tq2.out.a.cell 6
  have a7 : U2.cell? ⟨w.heap.size, 7, none⟩ = some (.int .i64 v.2.1) := Tq2.out.a.cell 7
  have a8 : U2.cell? ⟨w.heap.size, 8, none⟩ = some (.string v.2.2) := Tq2.out.a.cell 8
  have C0 := c_toRow i u v U2
  go_wp2_with fail
  refine C0.mono ?_
  rintro e Q1 ⟨rfl, hb⟩
  have S1 : Hid (T3 w Q1 45 52 #[.int .i64 k, .int .i64 tb, .int .i64 i, .int .i64 u.1, .int .i64 u.2.1, .string u.2.2, .int .i64 v.1, .int .i64 v.2.1, .string v.2.2, .int .i64 c, .slice sa sn sc, .slice wa wn wc, .int .i64 o, .bool d] #[.int .i64 0, .int .i64 0, .int .i64 0, .int .i64 0, .int .i64 0, .string ⟨#[]⟩, .int .i64 0, .int .i64 0, .string ⟨#[]⟩, .int .i64 0, .slice none 0 0, .slice none 0 0, .int .i64 0, .bool false] #[.int .i64 k, .int .i64 tb, .int .i64 0, .int .i64 0, .int .i64 0, .string ⟨#[]⟩, .int .i64 0, .int .i64 0, .string ⟨#[]⟩, .int .i64 0, .slice none 0 0, .slice none 0 0, .int .i64 0, .bool false]) := Tq2.out.below hb
  clear hb hV C0 c0 z0 c1 z1 a0 a1 a2 a3 a4 a5 a6 a7 a8 hU1 hU2 T0 Tq1 Tq2
  have c2 : Q1.cell? ⟨w.heap.size + 1 + 1, 2, none⟩ = some (.int .i64 0) := S1.out.o.cell 2
  have z2 := S1.out.o.thaw 2
  obtain ⟨U3, hU3⟩ : ∃ W, Q1.setCell ⟨w.heap.size + 1 + 1, 2, none⟩ (.int .i64 i) = W := ⟨_, rfl⟩
  have Tq3 : Hid (T3 w U3 45 52 #[.int .i64 k, .int .i64 tb, .int .i64 i, .int .i64 u.1, .int .i64 u.2.1, .string u.2.2, .int .i64 v.1, .int .i64 v.2.1, .string v.2.2, .int .i64 c, .slice sa sn sc, .slice wa wn wc, .int .i64 o, .bool d] #[.int .i64 0, .int .i64 0, .int .i64 0, .int .i64 0, .int .i64 0, .string ⟨#[]⟩, .int .i64 0, .int .i64 0, .string ⟨#[]⟩, .int .i64 0, .slice none 0 0, .slice none 0 0, .int .i64 0, .bool false] #[.int .i64 k, .int .i64 tb, .int .i64 i, .int .i64 0, .int .i64 0, .string ⟨#[]⟩, .int .i64 0, .int .i64 0, .string ⟨#[]⟩, .int .i64 0, .slice none 0 0, .slice none 0 0, .int .i64 0, .bool false]) := by unfold Hid; rw [← hU3]; exact S1.out.set 2 _ rfl
  have c3 : U3.cell? ⟨w.heap.size + 1 + 1, 3, none⟩ = some (.int .i64 0) := Tq3.out.o.cell 3
  have z3 := Tq3.out.o.thaw 3
  obtain ⟨U4, hU4⟩ : ∃ W, U3.setCell ⟨w.heap.size + 1 + 1, 3, none⟩ (.int .i64 u.1) = W := ⟨_, rfl⟩
  have Tq4 : Hid (T3 w U4 45 52 #[.int .i64 k, .int .i64 tb, .int .i64 i, .int .i64 u.1, .int .i64 u.2.1, .string u.2.2, .int .i64 v.1, .int .i64 v.2.1, .string v.2.2, .int .i64 c, .slice sa sn sc, .slice wa wn wc, .int .i64 o, .bool d] #[.int .i64 0, .int .i64 0, .int .i64 0, .int .i64 0, .int .i64 0, .string ⟨#[]⟩, .int .i64 0, .int .i64 0, .string ⟨#[]⟩, .int .i64 0, .slice none 0 0, .slice none 0 0, .int .i64 0, .bool false] #[.int .i64 k, .int .i64 tb, .int .i64 i, .int .i64 u.1, .int .i64 0, .string ⟨#[]⟩, .int .i64 0, .int .i64 0, .string ⟨#[]⟩, .int .i64 0, .slice none 0 0, .slice none 0 0, .int .i64 0, .bool false]) := by unfold Hid; rw [← hU4]; exact Tq3.out.set 3 _ rfl
  have c4 : U4.cell? ⟨w.heap.size + 1 + 1, 4, none⟩ = some (.int .i64 0) := Tq4.out.o.cell 4
  have z4 := Tq4.out.o.thaw 4
  obtain ⟨U5, hU5⟩ : ∃ W, U4.setCell ⟨w.heap.size + 1 + 1, 4, none⟩ (.int .i64 u.2.1) = W := ⟨_, rfl⟩
  have Tq5 : Hid (T3 w U5 45 52 #[.int .i64 k, .int .i64 tb, .int .i64 i, .int .i64 u.1, .int .i64 u.2.1, .string u.2.2, .int .i64 v.1, .int .i64 v.2.1, .string v.2.2, .int .i64 c, .slice sa sn sc, .slice wa wn wc, .int .i64 o, .bool d] #[.int .i64 0, .int .i64 0, .int .i64 0, .int .i64 0, .int .i64 0, .string ⟨#[]⟩, .int .i64 0, .int .i64 0, .string ⟨#[]⟩, .int .i64 0, .slice none 0 0, .slice none 0 0, .int .i64 0, .bool false] #[.int .i64 k, .int .i64 tb, .int .i64 i, .int .i64 u.1, .int .i64 u.2.1, .string ⟨#[]⟩, .int .i64 0, .int .i64 0, .string ⟨#[]⟩, .int .i64 0, .slice none 0 0, .slice none 0 0, .int .i64 0, .bool false]) := by unfold Hid; rw [← hU5]; exact Tq4.out.set 4 _ rfl
  have c5 : U5.cell? ⟨w.heap.size + 1 + 1, 5, none⟩ = some (.string ⟨#[]⟩) := Tq5.out.o.cell 5
  have z5 := Tq5.out.o.thaw 5
  obtain ⟨U6, hU6⟩ : ∃ W, U5.setCell ⟨w.heap.size + 1 + 1, 5, none⟩ (.string u.2.2) = W := ⟨_, rfl⟩
  have Tq6 : Hid (T3 w U6 45 52 #[.int .i64 k, .int .i64 tb, .int .i64 i, .int .i64 u.1, .int .i64 u.2.1, .string u.2.2, .int .i64 v.1, .int .i64 v.2.1, .string v.2.2, .int .i64 c, .slice sa sn sc, .slice wa wn wc, .int .i64 o, .bool d] #[.int .i64 0, .int .i64 0, .int .i64 0, .int .i64 0, .int .i64 0, .string ⟨#[]⟩, .int .i64 0, .int .i64 0, .string ⟨#[]⟩, .int .i64 0, .slice none 0 0, .slice none 0 0, .int .i64 0, .bool false] #[.int .i64 k, .int .i64 tb, .int .i64 i, .int .i64 u.1, .int .i64 u.2.1, .string u.2.2, .int .i64 0, .int .i64 0, .string ⟨#[]⟩, .int .i64 0, .slice none 0 0, .slice none 0 0, .int .i64 0, .bool false]) := by unfold Hid; rw [← hU6]; exact Tq5.out.set 5 _ rfl
  have c6 : U6.cell? ⟨w.heap.size + 1 + 1, 6, none⟩ = some (.int .i64 0) := Tq6.out.o.cell 6
  have z6 := Tq6.out.o.thaw 6
  obtain ⟨U7, hU7⟩ : ∃ W, U6.setCell ⟨w.heap.size + 1 + 1, 6, none⟩ (.int .i64 v.1) = W := ⟨_, rfl⟩
  have Tq7 : Hid (T3 w U7 45 52 #[.int .i64 k, .int .i64 tb, .int .i64 i, .int .i64 u.1, .int .i64 u.2.1, .string u.2.2, .int .i64 v.1, .int .i64 v.2.1, .string v.2.2, .int .i64 c, .slice sa sn sc, .slice wa wn wc, .int .i64 o, .bool d] #[.int .i64 0, .int .i64 0, .int .i64 0, .int .i64 0, .int .i64 0, .string ⟨#[]⟩, .int .i64 0, .int .i64 0, .string ⟨#[]⟩, .int .i64 0, .slice none 0 0, .slice none 0 0, .int .i64 0, .bool false] #[.int .i64 k, .int .i64 tb, .int .i64 i, .int .i64 u.1, .int .i64 u.2.1, .string u.2.2, .int .i64 v.1, .int .i64 0, .string ⟨#[]⟩, .int .i64 0, .slice none 0 0, .slice none 0 0, .int .i64 0, .bool false]) := by unfold Hid; rw [← hU7]; exact Tq6.out.set 6 _ rfl
  have c7 : U7.cell? ⟨w.heap.size + 1 + 1, 7, none⟩ = some (.int .i64 0) := Tq7.out.o.cell 7
  have z7 := Tq7.out.o.thaw 7
  obtain ⟨U8, hU8⟩ : ∃ W, U7.setCell ⟨w.heap.size + 1 + 1, 7, none⟩ (.int .i64 v.2.1) = W := ⟨_, rfl⟩
  have Tq8 : Hid (T3 w U8 45 52 #[.int .i64 k, .int .i64 tb, .int .i64 i, .int .i64 u.1, .int .i64 u.2.1, .string u.2.2, .int .i64 v.1, .int .i64 v.2.1, .string v.2.2, .int .i64 c, .slice sa sn sc, .slice wa wn wc, .int .i64 o, .bool d] #[.int .i64 0, .int .i64 0, .int .i64 0, .int .i64 0, .int .i64 0, .string ⟨#[]⟩, .int .i64 0, .int .i64 0, .string ⟨#[]⟩, .int .i64 0, .slice none 0 0, .slice none 0 0, .int .i64 0, .bool false] #[.int .i64 k, .int .i64 tb, .int .i64 i, .int .i64 u.1, .int .i64 u.2.1, .string u.2.2, .int .i64 v.1, .int .i64 v.2.1, .string ⟨#[]⟩, .int .i64 0, .slice none 0 0, .slice none 0 0, .int .i64 0, .bool false]) := by unfold Hid; rw [← hU8]; exact Tq7.out.set 7 _ rfl
  have c8 : U8.cell? ⟨w.heap.size + 1 + 1, 8, none⟩ = some (.string ⟨#[]⟩) := Tq8.out.o.cell 8
  have z8 := Tq8.out.o.thaw 8
  obtain ⟨U9, hU9⟩ : ∃ W, U8.setCell ⟨w.heap.size + 1 + 1, 8, none⟩ (.string v.2.2) = W := ⟨_, rfl⟩
  have Tq9 : Hid (T3 w U9 45 52 #[.int .i64 k, .int .i64 tb, .int .i64 i, .int .i64 u.1, .int .i64 u.2.1, .string u.2.2, .int .i64 v.1, .int .i64 v.2.1, .string v.2.2, .int .i64 c, .slice sa sn sc, .slice wa wn wc, .int .i64 o, .bool d] #[.int .i64 0, .int .i64 0, .int .i64 0, .int .i64 0, .int .i64 0, .string ⟨#[]⟩, .int .i64 0, .int .i64 0, .string ⟨#[]⟩, .int .i64 0, .slice none 0 0, .slice none 0 0, .int .i64 0, .bool false] #[.int .i64 k, .int .i64 tb, .int .i64 i, .int .i64 u.1, .int .i64 u.2.1, .string u.2.2, .int .i64 v.1, .int .i64 v.2.1, .string v.2.2, .int .i64 0, .slice none 0 0, .slice none 0 0, .int .i64 0, .bool false]) := by unfold Hid; rw [← hU9]; exact Tq8.out.set 8 _ rfl
  have a9 : U9.cell? ⟨w.heap.size, 9, none⟩ = some (.int .i64 c) := Tq9.out.a.cell 9
  have c9 : U9.cell? ⟨w.heap.size + 1 + 1, 9, none⟩ = some (.int .i64 0) := Tq9.out.o.cell 9
  have z9 := Tq9.out.o.thaw 9
  obtain ⟨U10, hU10⟩ : ∃ W, U9.setCell ⟨w.heap.size + 1 + 1, 9, none⟩ (.int .i64 c) = W := ⟨_, rfl⟩
  have Tq10 : Hid (T3 w U10 45 52 #[.int .i64 k, .int .i64 tb, .int .i64 i, .int .i64 u.1, .int .i64 u.2.1, .string u.2.2, .int .i64 v.1, .int .i64 v.2.1, .string v.2.2, .int .i64 c, .slice sa sn sc, .slice wa wn wc, .int .i64 o, .bool d] #[.int .i64 0, .int .i64 0, .int .i64 0, .int .i64 0, .int .i64 0, .string ⟨#[]⟩, .int .i64 0, .int .i64 0, .string ⟨#[]⟩, .int .i64 0, .slice none 0 0, .slice none 0 0, .int .i64 0, .bool false] #[.int .i64 k, .int .i64 tb, .int .i64 i, .int .i64 u.1, .int .i64 u.2.1, .string u.2.2, .int .i64 v.1, .int .i64 v.2.1, .string v.2.2, .int .i64 c, .slice none 0 0, .slice none 0 0, .int .i64 0, .bool false]) := by unfold Hid; rw [← hU10]; exact Tq9.out.set 9 _ rfl
  have a10 : U10.cell? ⟨w.heap.size, 10, none⟩ = some (.slice sa sn sc) := Tq10.out.a.cell 10
  have C1' := C1.out U10 Tq10.out.bel
  have szA : w.heap.size + 1 + 1 + 1 ≤ U10.heap.size := Tq10.out.sz
  clear C1
  go_wp2_with fail
  refine C1'.mono ?_
  rintro e Q2 ⟨⟨sb, rfl, ow⟩, hb⟩
  have S2 : Hid (T3 w Q2 45 52 #[.int .i64 k, .int .i64 tb, .int .i64 i, .int .i64 u.1, .int .i64 u.2.1, .string u.2.2, .int .i64 v.1, .int .i64 v.2.1, .string v.2.2, .int .i64 c, .slice sa sn sc, .slice wa wn wc, .int .i64 o, .bool d] #[.int .i64 0, .int .i64 0, .int .i64 0, .int .i64 0, .int .i64 0, .string ⟨#[]⟩, .int .i64 0, .int .i64 0, .string ⟨#[]⟩, .int .i64 0, .slice none 0 0, .slice none 0 0, .int .i64 0, .bool false] #[.int .i64 k, .int .i64 tb, .int .i64 i, .int .i64 u.1, .int .i64 u.2.1, .string u.2.2, .int .i64 v.1, .int .i64 v.2.1, .string v.2.2, .int .i64 c, .slice none 0 0, .slice none 0 0, .int .i64 0, .bool false]) := Tq10.out.below hb
  have O2 : Hid (Q2.ownsRow U10.heap.size 101 7 (.slice (some ⟨sb, 0, none⟩) sn sn) sn (cellsE LS)) := ow
  clear hb ow C1' c2 z2 c3 z3 c4 z4 c5 z5 c6 z6 c7 z7 c8 z8 c9 z9 a9 a10 hU3 hU4 hU5 hU6 hU7 hU8 hU9 hU10 S1 Tq3 Tq4 Tq5 Tq6 Tq7 Tq8 Tq9 Tq10
  have s2 : w.heap.size + 1 + 1 < sb := by
    rcases O2.out.2 with h | ⟨g, cp, cu, h1, h2, _⟩
    · simp at h
    · simp only [Value.slice.injEq, Option.some.injEq, Addr.mk.injEq] at h1
      omega
  have c10 : Q2.cell? ⟨w.heap.size + 1 + 1, 10, none⟩ = some (.slice none 0 0) := S2.out.o.cell 10
  have z10 := S2.out.o.thaw 10
  obtain ⟨U11, hU11⟩ : ∃ W, Q2.setCell ⟨w.heap.size + 1 + 1, 10, none⟩ (.slice (some ⟨sb, 0, none⟩) sn sn) = W := ⟨_, rfl⟩
  have Tq11 : Hid (T3 w U11 45 52 #[.int .i64 k, .int .i64 tb, .int .i64 i, .int .i64 u.1, .int .i64 u.2.1, .string u.2.2, .int .i64 v.1, .int .i64 v.2.1, .string v.2.2, .int .i64 c, .slice sa sn sc, .slice wa wn wc, .int .i64 o, .bool d] #[.int .i64 0, .int .i64 0, .int .i64 0, .int .i64 0, .int .i64 0, .string ⟨#[]⟩, .int .i64 0, .int .i64 0, .string ⟨#[]⟩, .int .i64 0, .slice none 0 0, .slice none 0 0, .int .i64 0, .bool false] #[.int .i64 k, .int .i64 tb, .int .i64 i, .int .i64 u.1, .int .i64 u.2.1, .string u.2.2, .int .i64 v.1, .int .i64 v.2.1, .string v.2.2, .int .i64 c, .slice (some ⟨sb, 0, none⟩) sn sn, .slice none 0 0, .int .i64 0, .bool false]) := by unfold Hid; rw [← hU11]; exact S2.out.set 10 _ rfl
  have a11 : U11.cell? ⟨w.heap.size, 11, none⟩ = some (.slice wa wn wc) := Tq11.out.a.cell 11
  have O3 : Hid (U11.ownsRow U10.heap.size 101 7 (.slice (some ⟨sb, 0, none⟩) sn sn) sn (cellsE LS)) := by
    unfold Hid
    rw [← hU11]
    refine own_same O2.out fun g e => ?_
    have e' : sb = g := Option.some.inj e
    rw [Below.heap_setCell _ _ _ _ (by simp; omega)]
  have C2' := C2.out U11 Tq11.out.bel
  have szB : w.heap.size + 1 + 1 + 1 ≤ U11.heap.size := Tq11.out.sz
  clear C2
  go_wp2_with fail
  refine C2'.mono ?_
  rintro e Q3 ⟨⟨wb, rfl, ow⟩, hb⟩
  have S3 : Hid (T3 w Q3 45 52 #[.int .i64 k, .int .i64 tb, .int .i64 i, .int .i64 u.1, .int .i64 u.2.1, .string u.2.2, .int .i64 v.1, .int .i64 v.2.1, .string v.2.2, .int .i64 c, .slice sa sn sc, .slice wa wn wc, .int .i64 o, .bool d] #[.int .i64 0, .int .i64 0, .int .i64 0, .int .i64 0, .int .i64 0, .string ⟨#[]⟩, .int .i64 0, .int .i64 0, .string ⟨#[]⟩, .int .i64 0, .slice none 0 0, .slice none 0 0, .int .i64 0, .bool false] #[.int .i64 k, .int .i64 tb, .int .i64 i, .int .i64 u.1, .int .i64 u.2.1, .string u.2.2, .int .i64 v.1, .int .i64 v.2.1, .string v.2.2, .int .i64 c, .slice (some ⟨sb, 0, none⟩) sn sn, .slice none 0 0, .int .i64 0, .bool false]) := Tq11.out.below hb
  have P3 : Hid (Q3.ownsRow U10.heap.size 101 7 (.slice (some ⟨sb, 0, none⟩) sn sn) sn (cellsE LS)) := own_below O3.out hb
  have R3 : Hid (Q3.ownsRow U11.heap.size 101 7 (.slice (some ⟨wb, 0, none⟩) wn wn) wn (cellsE LW)) := ow
  clear hb ow C2' c10 z10 a11 hU11 S2 O2 O3 Tq11
  have s3 : w.heap.size + 1 + 1 < wb := by
    rcases R3.out.2 with h | ⟨g, cp, cu, h1, h2, _⟩
    · simp at h
    · simp only [Value.slice.injEq, Option.some.injEq, Addr.mk.injEq] at h1
      omega
  have c11 : Q3.cell? ⟨w.heap.size + 1 + 1, 11, none⟩ = some (.slice none 0 0) := S3.out.o.cell 11
  have z11 := S3.out.o.thaw 11
  obtain ⟨U12, hU12⟩ : ∃ W, Q3.setCell ⟨w.heap.size + 1 + 1, 11, none⟩ (.slice (some ⟨wb, 0, none⟩) wn wn) = W := ⟨_, rfl⟩
  have Tq12 : Hid (T3 w U12 45 52 #[.int .i64 k, .int .i64 tb, .int .i64 i, .int .i64 u.1, .int .i64 u.2.1, .string u.2.2, .int .i64 v.1, .int .i64 v.2.1, .string v.2.2, .int .i64 c, .slice sa sn sc, .slice wa wn wc, .int .i64 o, .bool d] #[.int .i64 0, .int .i64 0, .int .i64 0, .int .i64 0, .int .i64 0, .string ⟨#[]⟩, .int .i64 0, .int .i64 0, .string ⟨#[]⟩, .int .i64 0, .slice none 0 0, .slice none 0 0, .int .i64 0, .bool false] #[.int .i64 k, .int .i64 tb, .int .i64 i, .int .i64 u.1, .int .i64 u.2.1, .string u.2.2, .int .i64 v.1, .int .i64 v.2.1, .string v.2.2, .int .i64 c, .slice (some ⟨sb, 0, none⟩) sn sn, .slice (some ⟨wb, 0, none⟩) wn wn, .int .i64 0, .bool false]) := by unfold Hid; rw [← hU12]; exact S3.out.set 11 _ rfl
  have a12 : U12.cell? ⟨w.heap.size, 12, none⟩ = some (.int .i64 o) := Tq12.out.a.cell 12
  have c12 : U12.cell? ⟨w.heap.size + 1 + 1, 12, none⟩ = some (.int .i64 0) := Tq12.out.o.cell 12
  have z12 := Tq12.out.o.thaw 12
  obtain ⟨U13, hU13⟩ : ∃ W, U12.setCell ⟨w.heap.size + 1 + 1, 12, none⟩ (.int .i64 o) = W := ⟨_, rfl⟩
  have Tq13 : Hid (T3 w U13 45 52 #[.int .i64 k, .int .i64 tb, .int .i64 i, .int .i64 u.1, .int .i64 u.2.1, .string u.2.2, .int .i64 v.1, .int .i64 v.2.1, .string v.2.2, .int .i64 c, .slice sa sn sc, .slice wa wn wc, .int .i64 o, .bool d] #[.int .i64 0, .int .i64 0, .int .i64 0, .int .i64 0, .int .i64 0, .string ⟨#[]⟩, .int .i64 0, .int .i64 0, .string ⟨#[]⟩, .int .i64 0, .slice none 0 0, .slice none 0 0, .int .i64 0, .bool false] #[.int .i64 k, .int .i64 tb, .int .i64 i, .int .i64 u.1, .int .i64 u.2.1, .string u.2.2, .int .i64 v.1, .int .i64 v.2.1, .string v.2.2, .int .i64 c, .slice (some ⟨sb, 0, none⟩) sn sn, .slice (some ⟨wb, 0, none⟩) wn wn, .int .i64 o, .bool false]) := by unfold Hid; rw [← hU13]; exact Tq12.out.set 12 _ rfl
  have a13 : U13.cell? ⟨w.heap.size, 13, none⟩ = some (.bool d) := Tq13.out.a.cell 13
  have c13 : U13.cell? ⟨w.heap.size + 1 + 1, 13, none⟩ = some (.bool false) := Tq13.out.o.cell 13
  have z13 := Tq13.out.o.thaw 13
  obtain ⟨U14, hU14⟩ : ∃ W, U13.setCell ⟨w.heap.size + 1 + 1, 13, none⟩ (.bool d) = W := ⟨_, rfl⟩
  have Tq14 : Hid (T3 w U14 45 52 #[.int .i64 k, .int .i64 tb, .int .i64 i, .int .i64 u.1, .int .i64 u.2.1, .string u.2.2, .int .i64 v.1, .int .i64 v.2.1, .string v.2.2, .int .i64 c, .slice sa sn sc, .slice wa wn wc, .int .i64 o, .bool d] #[.int .i64 0, .int .i64 0, .int .i64 0, .int .i64 0, .int .i64 0, .string ⟨#[]⟩, .int .i64 0, .int .i64 0, .string ⟨#[]⟩, .int .i64 0, .slice none 0 0, .slice none 0 0, .int .i64 0, .bool false] #[.int .i64 k, .int .i64 tb, .int .i64 i, .int .i64 u.1, .int .i64 u.2.1, .string u.2.2, .int .i64 v.1, .int .i64 v.2.1, .string v.2.2, .int .i64 c, .slice (some ⟨sb, 0, none⟩) sn sn, .slice (some ⟨wb, 0, none⟩) wn wn, .int .i64 o, .bool d]) := by unfold Hid; rw [← hU14]; exact Tq13.out.set 13 _ rfl
  have P4 : Hid (U14.ownsRow U10.heap.size 101 7 (.slice (some ⟨sb, 0, none⟩) sn sn) sn (cellsE LS)) := by
    unfold Hid
    rw [← hU14, ← hU13, ← hU12]
    refine own_same P3.out fun g e => ?_
    have e' : sb = g := Option.some.inj e
    rw [Below.heap_setCell _ _ _ _ (by simp; omega), Below.heap_setCell _ _ _ _ (by simp; omega), Below.heap_setCell _ _ _ _ (by simp; omega)]
  have R4 : Hid (U14.ownsRow U11.heap.size 101 7 (.slice (some ⟨wb, 0, none⟩) wn wn) wn (cellsE LW)) := by
    unfold Hid
    rw [← hU14, ← hU13, ← hU12]
    refine own_same R3.out fun g e => ?_
    have e' : wb = g := Option.some.inj e
    rw [Below.heap_setCell _ _ _ _ (by simp; omega), Below.heap_setCell _ _ _ _ (by simp; omega), Below.heap_setCell _ _ _ _ (by simp; omega)]
  obtain ⟨y0, y1, y2, y3, y4, y5, y6, y7, y8, y9, y10, y11, y12, y13⟩ := box14 Tq14.out.o
  obtain ⟨r0, r1, r2, r3, r4, r5, r6, r7, r8, r9, r10, r11, r12, r13⟩ := box14 Tq14.out.r
  have q0 := Tq14.out.r.thaw 0
  have q1 := Tq14.out.r.thaw 1
  have q2 := Tq14.out.r.thaw 2
  have q3 := Tq14.out.r.thaw 3
  have q4 := Tq14.out.r.thaw 4
  have q5 := Tq14.out.r.thaw 5
  have q6 := Tq14.out.r.thaw 6
  have q7 := Tq14.out.r.thaw 7
  have q8 := Tq14.out.r.thaw 8
  have q9 := Tq14.out.r.thaw 9
  have q10 := Tq14.out.r.thaw 10
  have q11 := Tq14.out.r.thaw 11
  have q12 := Tq14.out.r.thaw 12
  have q13 := Tq14.out.r.thaw 13
  have B4 : Hid (Below w.heap.size w U14) := Tq14.out.bel
  have X4 : Hid (Box U14 (w.heap.size + 1) 52 #[.int .i64 0, .int .i64 0, .int .i64 0, .int .i64 0, .int .i64 0, .string ⟨#[]⟩, .int .i64 0, .int .i64 0, .string ⟨#[]⟩, .int .i64 0, .slice none 0 0, .slice none 0 0, .int .i64 0, .bool false]) := Tq14.out.r
  clear S3 P3 R3 Tq12 Tq13 Tq14
  go_wp2
  refine ret14 Tryd.results19 rfl rfl (put14_box X4.out _ _ _ _ _ _ _ _ _ _ _ _ _ _) ⟨⟨sb, wb, rfl, ?_, ?_⟩, put14_below B4.out (by omega) _ _ _ _ _ _ _ _ _ _ _ _ _ _⟩
  · refine RdE.own (own_same P4.out fun g e => ?_)
    have e' : sb = g := Option.some.inj e
    exact put14_same _ _ _ _ _ _ _ _ _ _ _ _ _ _ _ _ _ (by omega)
  · refine RdE.own (own_same R4.out fun g e => ?_)
    have e' : wb = g := Option.some.inj e
    exact put14_same _ _ _ _ _ _ _ _ _ _ _ _ _ _ _ _ _ (by omega)

end Go.Proofs.YtknjglgellhchaaDoor
