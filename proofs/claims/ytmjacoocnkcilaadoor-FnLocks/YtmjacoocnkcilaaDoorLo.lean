/-
  Locks: what is held and who waits: copies, sizes, comparisons.
-/
import Derived.Test.YtmjacoocnkcilaaDoorLi
import Derived.Deep.RegionWith
namespace Go.Proofs.YtmjacoocnkcilaaDoor
open Go Go.RowKit
attribute [local go_sem ↓] Go.wp_at_zero Go.wp_at_succ

structure HL where
  a0 : Option Addr
  c0 : Nat
  a1 : Option Addr
  c1 : Nat
def RdL (w : World) (h : HL) (vs : List LK) (ws : List WK) : Prop := RdK w h.a0 vs.length vs ∧ RdW w h.a1 ws.length ws
def OwnL (w : World) (base : Nat) (h : HL) (vs : List LK) (ws : List WK) : Prop := w.ownsRow base 55 4 (.slice h.a0 vs.length h.c0) vs.length (cellsK vs) ∧ w.ownsRow base 59 2 (.slice h.a1 ws.length h.c1) ws.length (cellsW ws) ∧ (∀ g, ob h.a0 = some g → ob h.a1 ≠ some g)
theorem RdL.below {w w' : World} {h : HL} {vs : List LK} {ws : List WK} (r : RdL w h vs ws) (hb : Below w.heap.size w w') : RdL w' h vs ws := ⟨r.1.below hb, r.2.below hb⟩
theorem OwnL.rd {w : World} {base : Nat} {h : HL} {vs : List LK} {ws : List WK} (o : OwnL w base h vs ws) : RdL w h vs ws := ⟨RdK.own o.1, RdW.own o.2.1⟩
theorem OwnL.below {w w' : World} {base : Nat} {h : HL} {vs : List LK} {ws : List WK} (o : OwnL w base h vs ws) (hb : Below w.heap.size w w') : OwnL w' base h vs ws := ⟨own_below o.1 hb, own_below o.2.1 hb, o.2.2⟩
theorem OwnL.down {w : World} {B B' : Nat} {h : HL} {vs : List LK} {ws : List WK} (o : OwnL w B h vs ws) (hb : B' ≤ B) : OwnL w B' h vs ws := ⟨o.1.down hb, o.2.1.down hb, o.2.2⟩
theorem box2 {w : World} {g : Nat} {ty : TypeId} {a b : Value} (h : Box w g ty #[a, b]) : w.cell? ⟨g, 0, none⟩ = some a ∧ w.cell? ⟨g, 1, none⟩ = some b := ⟨by rw [h.cell]; rfl, by rw [h.cell]; rfl⟩
theorem thaw2 {w : World} {g : Nat} {ty : TypeId} {c : Array Value} (h : Box w g ty c) : w.frozen? ⟨g, 0, none⟩ = false ∧ w.frozen? ⟨g, 1, none⟩ = false := ⟨h.thaw 0, h.thaw 1⟩
theorem loadVarL {w : World} {g : Nat} {x y : Value} (hb : Box w g 34 #[x, y]) : (loadVar 34 ⟨g, 0, none⟩).run Tryd.prog w = .ok (.agg #[x, y]) w := by
  obtain ⟨e0, e1⟩ := box2 hb
  simp [go_sem, e0, e1]
theorem retL {fn : Func} {p : Tmp} (h : fn.results = #[.cell p 34]) {R : Ending → World → Prop} {a : Act} {w : World} {g : Nat} {x y : Value} (hp : a.tmps.getD p undef = .pointer (some ⟨g, 0, none⟩)) (hd : a.defers = []) (hb : Box w g 34 #[x, y]) (hR : R (.returned (.agg #[x, y])) w) : bodyPost Tryd.prog fn R .ret a w := by
  refine bodyPost_ret ?_ hd hR
  have hp' : a.tmps[p]?.getD undef = .pointer (some ⟨g, 0, none⟩) := by simpa using hp
  simp only [results, h]
  simp [hp', asAddr, loadVarL hb]
set_option maxRecDepth 100000 in
set_option maxHeartbeats 4000000 in
theorem c_toL (h : HL) (vs : List LK) (ws : List WK) (w : World) (r : RdL w h vs ws) (f0 : vs.length ≤ 1048576) (f1 : ws.length ≤ 1048576) :
    Calls Tryd.prog 17 #[.agg #[.slice h.a0 vs.length h.c0, .slice h.a1 ws.length h.c1]] w fun e w' => (∃ h' : HL, e = .returned (.agg #[.slice h'.a0 vs.length h'.c0, .slice h'.a1 ws.length h'.c1]) ∧ OwnL w' w.heap.size h' vs ws) ∧ Below w.heap.size w w' := by
  have R : Hid (RdL w h vs ws) := r
  clear r
  obtain ⟨V0, hV0⟩ : ∃ V, w.alloc (.cells #[.slice h.a0 vs.length h.c0, .slice h.a1 ws.length h.c1] 28) = V := ⟨_, rfl⟩
  obtain ⟨V1, hV1⟩ : ∃ V, V0.alloc (.cells #[.slice none 0 0, .slice none 0 0] 34) = V := ⟨_, rfl⟩
  obtain ⟨V, hV⟩ : ∃ V, V1.alloc (.cells #[.slice none 0 0, .slice none 0 0] 34) = V := ⟨_, rfl⟩
  have hb0 : Below w.heap.size w V0 := by rw [← hV0]; exact (Below.refl _ _).alloc (Nat.le_refl _) _
  have hb1 : Below V0.heap.size V0 V1 := by rw [← hV1]; exact (Below.refl _ _).alloc (Nat.le_refl _) _
  have hb2 : Below V1.heap.size V1 V := by rw [← hV]; exact (Below.refl _ _).alloc (Nat.le_refl _) _
  have X : Hid (Box V w.heap.size 28 #[.slice h.a0 vs.length h.c0, .slice h.a1 ws.length h.c1]) := ((show Box V0 w.heap.size 28 #[.slice h.a0 vs.length h.c0, .slice h.a1 ws.length h.c1] by rw [← hV0]; exact Box.new _ _ _).belowS hb1).belowS hb2
  have Y : Hid (Box V V0.heap.size 34 #[.slice none 0 0, .slice none 0 0]) := (show Box V1 V0.heap.size 34 #[.slice none 0 0, .slice none 0 0] by rw [← hV1]; exact Box.new _ _ _).belowS hb2
  have O : Hid (Box V V1.heap.size 34 #[.slice none 0 0, .slice none 0 0]) := by unfold Hid; rw [← hV]; exact Box.new _ _ _
  have lx : w.heap.size < V0.heap.size := by rw [← hV0]; simp
  have ly : V0.heap.size < V1.heap.size := by rw [← hV1]; simp
  have lo : V1.heap.size < V.heap.size := O.out.lt
  have B : Hid (Below w.heap.size w V) := (hb0.trans (hb1.mono hb0.size)).trans (hb2.mono (Nat.le_trans hb0.size hb1.size))
  clear hb0 hb1 hb2
  obtain ⟨x0, x1⟩ := box2 X.out
  go_enter Tryd.func17, Tryd.ntmps17
  go_wp2_with fail
  refine (c_toK h.a0 _ h.c0 vs V (R.out.1.below B.out) f0).mono ?_
  rintro e w1 ⟨rfl, o1, hb⟩
  have B1 : Hid (Below w.heap.size w w1) := B.out.trans (hb.mono B.out.size)
  have X1 := X.out.belowS hb
  have Y1 := Y.out.belowS hb
  have O1 := O.out.belowS hb
  have s1 : V.heap.size ≤ w1.heap.size := hb.size
  have l1 : V.heap.size < w1.heap.size := (o1.lt V.heap.size rfl).2
  clear X Y O B hb x0 x1
  obtain ⟨w2, hw2⟩ : ∃ W, w1.setCell ⟨V1.heap.size, 0, none⟩ (.slice (some ⟨V.heap.size, 0, none⟩) vs.length vs.length) = W := ⟨_, rfl⟩
  have i2 : Inn V1.heap.size (V1.heap.size + 1) w1 w2 := by rw [← hw2]; exact ⟨rfl, rfl, rfl, by simp, fun i _ ho => Below.heap_setCell _ _ _ _ (by show i ≠ V1.heap.size; omega)⟩
  have lz : V.heap.size < w2.heap.size := by rw [← hw2]; simpa using l1
  obtain ⟨y0, y1⟩ := box2 O1
  obtain ⟨t0, t1⟩ := thaw2 O1
  have X2 : Hid (Box w2 w.heap.size 28 #[.slice h.a0 vs.length h.c0, .slice h.a1 ws.length h.c1]) := X1.innO i2 (.inl (by omega))
  have Y2 : Hid (Box w2 V0.heap.size 34 #[.slice none 0 0, .slice none 0 0]) := Y1.innO i2 (.inl ly)
  have O2 : Hid (Box w2 V1.heap.size 34 #[.slice (some ⟨V.heap.size, 0, none⟩) vs.length vs.length, .slice none 0 0]) := by unfold Hid; rw [← hw2]; exact O1.set 0 _
  have P2 : Hid (w2.ownsRow V.heap.size 55 4 (.slice (some ⟨V.heap.size, 0, none⟩) vs.length vs.length) vs.length (cellsK vs)) := own_same o1 (fun g e => i2.block g (by have e' : V.heap.size = g := Option.some.inj e; omega) (.inr (by have e' : V.heap.size = g := Option.some.inj e; omega)))
  have B2 : Hid (Below w.heap.size w w2) := B1.out.trans (i2.below (by omega) B1.out.size)
  clear X1 Y1 O1 o1 B1 i2
  obtain ⟨x0, x1⟩ := box2 X2.out
  go_wp2_with fail
  refine (c_toW h.a1 _ h.c1 ws w2 (R.out.2.below B2.out) f1).mono ?_
  rintro e w3 ⟨rfl, o3, hb⟩
  have B3 : Hid (Below w.heap.size w w3) := B2.out.trans (hb.mono B2.out.size)
  have Y3 := Y2.out.belowS hb
  have O3 := O2.out.belowS hb
  have P3 := own_below P2.out hb
  have s3 : w2.heap.size ≤ w3.heap.size := hb.size
  have l3 : w2.heap.size < w3.heap.size := (o3.lt w2.heap.size rfl).2
  clear X2 Y2 O2 B2 P2 hb x0 x1 y0 y1 t0 t1 hw2
  obtain ⟨w4, hw4⟩ : ∃ W, w3.setCell ⟨V1.heap.size, 1, none⟩ (.slice (some ⟨w2.heap.size, 0, none⟩) ws.length ws.length) = W := ⟨_, rfl⟩
  obtain ⟨w5, hw5⟩ : ∃ W, w4.setCell ⟨V0.heap.size, 0, none⟩ (.slice (some ⟨V.heap.size, 0, none⟩) vs.length vs.length) = W := ⟨_, rfl⟩
  obtain ⟨w6, hw6⟩ : ∃ W, w5.setCell ⟨V0.heap.size, 1, none⟩ (.slice (some ⟨w2.heap.size, 0, none⟩) ws.length ws.length) = W := ⟨_, rfl⟩
  obtain ⟨y0, y1⟩ := box2 O3
  obtain ⟨t0, t1⟩ := thaw2 O3
  have i4 : Inn V0.heap.size (V1.heap.size + 1) w3 w4 := by rw [← hw4]; exact ⟨rfl, rfl, rfl, by simp, fun i _ ho => Below.heap_setCell _ _ _ _ (by show i ≠ V1.heap.size; omega)⟩
  have i5 : Inn V0.heap.size (V1.heap.size + 1) w4 w5 := by rw [← hw5]; exact ⟨rfl, rfl, rfl, by simp, fun i _ ho => Below.heap_setCell _ _ _ _ (by show i ≠ V0.heap.size; omega)⟩
  have i6 : Inn V0.heap.size (V1.heap.size + 1) w5 w6 := by rw [← hw6]; exact ⟨rfl, rfl, rfl, by simp, fun i _ ho => Below.heap_setCell _ _ _ _ (by show i ≠ V0.heap.size; omega)⟩
  have i36 := (i4.trans i5).trans i6
  have O4 : Box w4 V1.heap.size 34 #[.slice (some ⟨V.heap.size, 0, none⟩) vs.length vs.length, .slice (some ⟨w2.heap.size, 0, none⟩) ws.length ws.length] := by rw [← hw4]; exact O3.set 1 _
  have Y4 : Box w4 V0.heap.size 34 #[.slice none 0 0, .slice none 0 0] := by rw [← hw4]; exact Y3.setOther _ _ (by show V0.heap.size ≠ V1.heap.size; omega)
  have Y5 : Box w5 V0.heap.size 34 #[.slice (some ⟨V.heap.size, 0, none⟩) vs.length vs.length, .slice none 0 0] := by rw [← hw5]; exact Y4.set 0 _
  have Y6 : Hid (Box w6 V0.heap.size 34 #[.slice (some ⟨V.heap.size, 0, none⟩) vs.length vs.length, .slice (some ⟨w2.heap.size, 0, none⟩) ws.length ws.length]) := by unfold Hid; rw [← hw6]; exact Y5.set 1 _
  have P6 : Hid (w6.ownsRow w.heap.size 55 4 (.slice (some ⟨V.heap.size, 0, none⟩) vs.length vs.length) vs.length (cellsK vs)) := (own_same P3 (fun g e => i36.block g (by have e' : V.heap.size = g := Option.some.inj e; omega) (.inr (by have e' : V.heap.size = g := Option.some.inj e; omega)))).down (by omega)
  have Q6 : Hid (w6.ownsRow w.heap.size 59 2 (.slice (some ⟨w2.heap.size, 0, none⟩) ws.length ws.length) ws.length (cellsW ws)) := (own_same o3 (fun g e => i36.block g (by have e' : w2.heap.size = g := Option.some.inj e; omega) (.inr (by have e' : w2.heap.size = g := Option.some.inj e; omega)))).down (by omega)
  have B6 : Hid (Below w.heap.size w w6) := B3.out.trans (i36.below (by omega) B3.out.size)
  obtain ⟨p0, p1⟩ := box2 O4
  obtain ⟨q0, q1⟩ := box2 Y4
  obtain ⟨r0, r1⟩ := thaw2 Y4
  obtain ⟨m0, m1⟩ := box2 Y5
  obtain ⟨n0, n1⟩ := thaw2 Y5
  clear O3 Y3 P3 o3 B3 i4 i5 i6 i36 O4 Y4 Y5
  go_wp2
  refine retL Tryd.results17 rfl rfl Y6.out ⟨⟨⟨some ⟨V.heap.size, 0, none⟩, vs.length, some ⟨w2.heap.size, 0, none⟩, ws.length⟩, rfl, P6.out, Q6.out, ?_⟩, B6.out⟩
  intro g e e'
  have h1 : V.heap.size = g := Option.some.inj e
  have h2 : w2.heap.size = g := Option.some.inj e'
  omega
set_option maxRecDepth 100000 in
set_option maxHeartbeats 4000000 in
theorem c_szL (h : HL) (vs : List LK) (ws : List WK) (w : World) (m0 : vs.length ≤ maxLen) (m1 : ws.length ≤ maxLen) :
    Calls Tryd.prog 15 #[.agg #[.slice h.a0 vs.length h.c0, .slice h.a1 ws.length h.c1], .int .i64 1048576] w fun e w' => (∃ z : Int, e = .returned (.int .i64 z) ∧ (0 ≤ z → vs.length ≤ 1048576 ∧ ws.length ≤ 1048576)) ∧ Below w.heap.size w w' := by
  obtain ⟨V, hV⟩ : ∃ V, w.alloc (.cells #[.slice h.a0 vs.length h.c0, .slice h.a1 ws.length h.c1] 28) = V := ⟨_, rfl⟩
  have B : Hid (Below w.heap.size w V) := by unfold Hid; rw [← hV]; exact (Below.refl _ _).alloc (Nat.le_refl _) _
  have X : Hid (Box V w.heap.size 28 #[.slice h.a0 vs.length h.c0, .slice h.a1 ws.length h.c1]) := by unfold Hid; rw [← hV]; exact Box.new _ _ _
  obtain ⟨x0, x1⟩ := box2 X.out
  have C1 := c_szK h.a0 vs.length h.c0 1048576 V m0 (by omega) (by omega)
  go_enter Tryd.func15, Tryd.ntmps15
  go_wp2_with fail
  refine C1.mono ?_
  rintro e w1 ⟨rfl, rfl⟩
  unfold sizeK
  by_cases n0 : (1048576 : Int) - vs.length < 0
  · rw [if_pos n0]
    go_wp2
    go_ret
    exact ⟨⟨-1, rfl, fun h => by omega⟩, B.out⟩
  rw [if_neg n0]
  have C2 := c_szW h.a1 ws.length h.c1 (1048576 - vs.length) w1 m1 (by omega) (by omega)
  go_wp2_with fail
  refine C2.mono ?_
  rintro e w1 ⟨rfl, rfl⟩
  unfold sizeW
  by_cases n1 : (1048576 : Int) - vs.length - ws.length < 0
  · rw [if_pos n1]
    go_wp2
    go_ret
    exact ⟨⟨-1, rfl, fun h => by omega⟩, B.out⟩
  rw [if_neg n1]
  go_wp2
  go_ret
  exact ⟨⟨_, rfl, fun h => by omega⟩, B.out⟩
set_option maxRecDepth 100000 in
set_option maxHeartbeats 4000000 in
theorem c_eqL (h h' : HL) (vs : List LK) (ws : List WK) (w : World) (r : RdL w h vs ws) (r' : RdL w h' vs ws) (f0 : vs.length ≤ 1048576) (f1 : ws.length ≤ 1048576) :
    Calls Tryd.prog 19 #[.agg #[.slice h.a0 vs.length h.c0, .slice h.a1 ws.length h.c1], .agg #[.slice h'.a0 vs.length h'.c0, .slice h'.a1 ws.length h'.c1]] w fun e w' => e = .returned (.bool true) ∧ Below w.heap.size w w' := by
  have R : Hid (RdL w h vs ws) := r
  have R' : Hid (RdL w h' vs ws) := r'
  clear r r'
  obtain ⟨V0, hV0⟩ : ∃ V, w.alloc (.cells #[.slice h.a0 vs.length h.c0, .slice h.a1 ws.length h.c1] 34) = V := ⟨_, rfl⟩
  obtain ⟨V, hV⟩ : ∃ V, V0.alloc (.cells #[.slice h'.a0 vs.length h'.c0, .slice h'.a1 ws.length h'.c1] 34) = V := ⟨_, rfl⟩
  have hb0 : Below w.heap.size w V0 := by rw [← hV0]; exact (Below.refl _ _).alloc (Nat.le_refl _) _
  have hb1 : Below V0.heap.size V0 V := by rw [← hV]; exact (Below.refl _ _).alloc (Nat.le_refl _) _
  have X : Hid (Box V w.heap.size 34 #[.slice h.a0 vs.length h.c0, .slice h.a1 ws.length h.c1]) := (show Box V0 w.heap.size 34 #[.slice h.a0 vs.length h.c0, .slice h.a1 ws.length h.c1] by rw [← hV0]; exact Box.new _ _ _).belowS hb1
  have Y : Hid (Box V V0.heap.size 34 #[.slice h'.a0 vs.length h'.c0, .slice h'.a1 ws.length h'.c1]) := by unfold Hid; rw [← hV]; exact Box.new _ _ _
  have B : Hid (Below w.heap.size w V) := hb0.trans (hb1.mono hb0.size)
  clear hb0 hb1
  obtain ⟨x0, x1⟩ := box2 X.out
  obtain ⟨y0, y1⟩ := box2 Y.out
  go_enter Tryd.func19, Tryd.ntmps19
  go_wp2_with fail
  refine (c_eqK h.a0 h'.a0 vs.length h.c0 h'.c0 vs V (R.out.1.below B.out) (R'.out.1.below B.out) f0).mono ?_
  rintro e w1 ⟨rfl, hb⟩
  have B1 : Hid (Below w.heap.size w w1) := B.out.trans (hb.mono B.out.size)
  have X1 := X.out.belowS hb
  have Y1 := Y.out.belowS hb
  clear x0 x1 y0 y1 hb
  obtain ⟨x0, x1⟩ := box2 X1
  obtain ⟨y0, y1⟩ := box2 Y1
  clear X1 Y1
  go_wp2_with fail
  refine (c_eqW h.a1 h'.a1 ws.length h.c1 h'.c1 ws w1 (R.out.2.below B1.out) (R'.out.2.below B1.out) f1).mono ?_
  rintro e w2 ⟨rfl, hb⟩
  have B2 : Hid (Below w.heap.size w w2) := B1.out.trans (hb.mono B1.out.size)
  clear hb x0 x1 y0 y1
  go_wp2
  go_ret
  exact ⟨rfl, B2.out⟩

end Go.Proofs.YtmjacoocnkcilaaDoor
