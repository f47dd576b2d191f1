/-
  Whether the locks that are held fit, table by table.
-/
import Derived.Test.YtfibdpfhfgnbiaaGreatDoorZzar
import Derived.Deep.RegionWith
import Derived.Deep.DeepCutAuto
namespace Go.Proofs.YtfibdpfhfgnbiaaGreatDoor.L
open Go Go.RowKit
attribute [local go_sem ↓] Go.wp_at_zero Go.wp_at_succ

structure HL where
  a0 : Option Addr
  c0 : Nat
  a1 : Option Addr
  c1 : Nat
def RdL (w : World) (h : HL) (vs : List LK) (ws : List WK) : Prop := RdK w h.a0 vs.length vs ∧ RdW w h.a1 ws.length ws
def OwnL (w : World) (base : Nat) (h : HL) (vs : List LK) (ws : List WK) : Prop := w.ownsRow base 98 4 (.slice h.a0 vs.length h.c0) vs.length (cellsK vs) ∧ w.ownsRow base 100 2 (.slice h.a1 ws.length h.c1) ws.length (cellsW ws) ∧ (∀ g, ob h.a0 = some g → ob h.a1 ≠ some g)
theorem RdL.below {w w' : World} {h : HL} {vs : List LK} {ws : List WK} (r : RdL w h vs ws) (hb : Below w.heap.size w w') : RdL w' h vs ws := ⟨r.1.below hb, r.2.below hb⟩
theorem OwnL.rd {w : World} {base : Nat} {h : HL} {vs : List LK} {ws : List WK} (o : OwnL w base h vs ws) : RdL w h vs ws := ⟨RdK.own o.1, RdW.own o.2.1⟩
theorem OwnL.below {w w' : World} {base : Nat} {h : HL} {vs : List LK} {ws : List WK} (o : OwnL w base h vs ws) (hb : Below w.heap.size w w') : OwnL w' base h vs ws := ⟨own_below o.1 hb, own_below o.2.1 hb, o.2.2⟩
theorem OwnL.down {w : World} {B B' : Nat} {h : HL} {vs : List LK} {ws : List WK} (o : OwnL w B h vs ws) (hb : B' ≤ B) : OwnL w B' h vs ws := ⟨o.1.down hb, o.2.1.down hb, o.2.2⟩
theorem box2 {w : World} {g : Nat} {ty : TypeId} {a b : Value} (h : Box w g ty #[a, b]) : w.cell? ⟨g, 0, none⟩ = some a ∧ w.cell? ⟨g, 1, none⟩ = some b := ⟨by rw [h.cell]; rfl, by rw [h.cell]; rfl⟩
theorem thaw2 {w : World} {g : Nat} {ty : TypeId} {c : Array Value} (h : Box w g ty c) : w.frozen? ⟨g, 0, none⟩ = false ∧ w.frozen? ⟨g, 1, none⟩ = false := ⟨h.thaw 0, h.thaw 1⟩
theorem loadVarL {w : World} {g : Nat} {x y : Value} (hb : Box w g 51 #[x, y]) : (loadVar 51 ⟨g, 0, none⟩).run Tryz.prog w = .ok (.agg #[x, y]) w := by
  obtain ⟨e0, e1⟩ := box2 hb
  simp [go_sem, e0, e1]
theorem retL {fn : Func} {p : Tmp} (h : fn.results = #[.cell p 51]) {R : Ending → World → Prop} {a : Act} {w : World} {g : Nat} {x y : Value} (hp : a.tmps.getD p undef = .pointer (some ⟨g, 0, none⟩)) (hd : a.defers = []) (hb : Box w g 51 #[x, y]) (hR : R (.returned (.agg #[x, y])) w) : bodyPost Tryz.prog fn R .ret a w := by
  refine bodyPost_ret ?_ hd hR
  have hp' : a.tmps[p]?.getD undef = .pointer (some ⟨g, 0, none⟩) := by simpa using hp
  simp only [results, h]
  simp [hp', asAddr, loadVarL hb]
set_option maxRecDepth 100000 in
set_option maxHeartbeats 4000000 in
theorem c_toL (h : HL) (vs : List LK) (ws : List WK) (w : World) (r : RdL w h vs ws) (f0 : vs.length ≤ 1048576) (f1 : ws.length ≤ 1048576) :
    Calls Tryz.prog 58 #[.agg #[.slice h.a0 vs.length h.c0, .slice h.a1 ws.length h.c1]] w fun e w' => (∃ h' : HL, e = .returned (.agg #[.slice h'.a0 vs.length h'.c0, .slice h'.a1 ws.length h'.c1]) ∧ OwnL w' w.heap.size h' vs ws) ∧ Below w.heap.size w w' := by
  have R : Hid (RdL w h vs ws) := r
  clear r
  obtain ⟨V0, hV0⟩ : ∃ V, w.alloc (.cells #[.slice h.a0 vs.length h.c0, .slice h.a1 ws.length h.c1] 35) = V := ⟨_, rfl⟩
  obtain ⟨V1, hV1⟩ : ∃ V, V0.alloc (.cells #[.slice none 0 0, .slice none 0 0] 51) = V := ⟨_, rfl⟩
  obtain ⟨V, hV⟩ : ∃ V, V1.alloc (.cells #[.slice none 0 0, .slice none 0 0] 51) = V := ⟨_, rfl⟩
  have hb0 : Below w.heap.size w V0 := by rw [← hV0]; exact (Below.refl _ _).alloc (Nat.le_refl _) _
  have hb1 : Below V0.heap.size V0 V1 := by rw [← hV1]; exact (Below.refl _ _).alloc (Nat.le_refl _) _
  have hb2 : Below V1.heap.size V1 V := by rw [← hV]; exact (Below.refl _ _).alloc (Nat.le_refl _) _
  have X : Hid (Box V w.heap.size 35 #[.slice h.a0 vs.length h.c0, .slice h.a1 ws.length h.c1]) := ((show Box V0 w.heap.size 35 #[.slice h.a0 vs.length h.c0, .slice h.a1 ws.length h.c1] by rw [← hV0]; exact Box.new _ _ _).belowS hb1).belowS hb2
  have Y : Hid (Box V V0.heap.size 51 #[.slice none 0 0, .slice none 0 0]) := (show Box V1 V0.heap.size 51 #[.slice none 0 0, .slice none 0 0] by rw [← hV1]; exact Box.new _ _ _).belowS hb2
  have O : Hid (Box V V1.heap.size 51 #[.slice none 0 0, .slice none 0 0]) := by unfold Hid; rw [← hV]; exact Box.new _ _ _
  have lx : w.heap.size < V0.heap.size := by rw [← hV0]; simp
  have ly : V0.heap.size < V1.heap.size := by rw [← hV1]; simp
  have lo : V1.heap.size < V.heap.size := O.out.lt
  have B : Hid (Below w.heap.size w V) := (hb0.trans (hb1.mono hb0.size)).trans (hb2.mono (Nat.le_trans hb0.size hb1.size))
  clear hb0 hb1 hb2
  obtain ⟨x0, x1⟩ := box2 X.out
  go_enter Tryz.func58, Tryz.ntmps58
  go_wp2_with fail
  refine (c_toK h.a0 _ h.c0 vs V (R.out.1.below B.out) f0).mono ?_
  rintro e w1 ⟨rfl, o1, hb⟩
  have B1 : Hid (Below w.heap.size w w1) := B.out.trans (hb.mono B.out.size)
  have X1 := X.out.belowS hb
  have Y1 := Y.out.belowS hb
  have O1 := O.out.belowS hb
  have s1 : V.heap.size ≤ w1.heap.size := hb.size
  have l1 : V.heap.size < w1.heap.size := (o1.lt V.heap.size rfl).2
  clear X Y O B hb x0 x1
  obtain ⟨w2, hw2⟩ : ∃ W, w1.setCell ⟨V1.heap.size, 0, none⟩ (.slice (some ⟨V.heap.size, 0, none⟩) vs.length vs.length) = W := ⟨_, rfl⟩
  have i2 : Inn V1.heap.size (V1.heap.size + 1) w1 w2 := by rw [← hw2]; exact ⟨rfl, rfl, rfl, by simp, fun i _ ho => Below.heap_setCell _ _ _ _ (by show i ≠ V1.heap.size; omega)⟩
  have lz : V.heap.size < w2.heap.size := by rw [← hw2]; simpa using l1
  obtain ⟨y0, y1⟩ := box2 O1
  obtain ⟨t0, t1⟩ := thaw2 O1
  have X2 : Hid (Box w2 w.heap.size 35 #[.slice h.a0 vs.length h.c0, .slice h.a1 ws.length h.c1]) := X1.innO i2 (.inl (by omega))
  have Y2 : Hid (Box w2 V0.heap.size 51 #[.slice none 0 0, .slice none 0 0]) := Y1.innO i2 (.inl ly)
  have O2 : Hid (Box w2 V1.heap.size 51 #[.slice (some ⟨V.heap.size, 0, none⟩) vs.length vs.length, .slice none 0 0]) := by unfold Hid; rw [← hw2]; exact O1.set 0 _
  have P2 : Hid (w2.ownsRow V.heap.size 98 4 (.slice (some ⟨V.heap.size, 0, none⟩) vs.length vs.length) vs.length (cellsK vs)) := own_same o1 (fun g e => i2.block g (by have e' : V.heap.size = g := Option.some.inj e; omega) (.inr (by have e' : V.heap.size = g := Option.some.inj e; omega)))
  have B2 : Hid (Below w.heap.size w w2) := B1.out.trans (i2.below (by omega) B1.out.size)
  clear X1 Y1 O1 o1 B1 i2
  obtain ⟨x0, x1⟩ := box2 X2.out
  go_wp2_with fail
  refine (c_toW h.a1 _ h.c1 ws w2 (R.out.2.below B2.out) f1).mono ?_
  rintro e w3 ⟨rfl, o3, hb⟩
  have B3 : Hid (Below w.heap.size w w3) := B2.out.trans (hb.mono B2.out.size)
  have Y3 := Y2.out.belowS hb
  have O3 := O2.out.belowS hb
  have P3 := own_below P2.out hb
  have s3 : w2.heap.size ≤ w3.heap.size := hb.size
  have l3 : w2.heap.size < w3.heap.size := (o3.lt w2.heap.size rfl).2
  clear X2 Y2 O2 B2 P2 hb x0 x1 y0 y1 t0 t1 hw2
  obtain ⟨w4, hw4⟩ : ∃ W, w3.setCell ⟨V1.heap.size, 1, none⟩ (.slice (some ⟨w2.heap.size, 0, none⟩) ws.length ws.length) = W := ⟨_, rfl⟩
  obtain ⟨w5, hw5⟩ : ∃ W, w4.setCell ⟨V0.heap.size, 0, none⟩ (.slice (some ⟨V.heap.size, 0, none⟩) vs.length vs.length) = W := ⟨_, rfl⟩
  obtain ⟨w6, hw6⟩ : ∃ W, w5.setCell ⟨V0.heap.size, 1, none⟩ (.slice (some ⟨w2.heap.size, 0, none⟩) ws.length ws.length) = W := ⟨_, rfl⟩
  obtain ⟨y0, y1⟩ := box2 O3
  obtain ⟨t0, t1⟩ := thaw2 O3
  have i4 : Inn V0.heap.size (V1.heap.size + 1) w3 w4 := by rw [← hw4]; exact ⟨rfl, rfl, rfl, by simp, fun i _ ho => Below.heap_setCell _ _ _ _ (by show i ≠ V1.heap.size; omega)⟩
  have i5 : Inn V0.heap.size (V1.heap.size + 1) w4 w5 := by rw [← hw5]; exact ⟨rfl, rfl, rfl, by simp, fun i _ ho => Below.heap_setCell _ _ _ _ (by show i ≠ V0.heap.size; omega)⟩
  have i6 : Inn V0.heap.size (V1.heap.size + 1) w5 w6 := by rw [← hw6]; exact ⟨rfl, rfl, rfl, by simp, fun i _ ho => Below.heap_setCell _ _ _ _ (by show i ≠ V0.heap.size; omega)⟩
  have i36 := (i4.trans i5).trans i6
  have O4 : Box w4 V1.heap.size 51 #[.slice (some ⟨V.heap.size, 0, none⟩) vs.length vs.length, .slice (some ⟨w2.heap.size, 0, none⟩) ws.length ws.length] := by rw [← hw4]; exact O3.set 1 _
  have Y4 : Box w4 V0.heap.size 51 #[.slice none 0 0, .slice none 0 0] := by rw [← hw4]; exact Y3.setOther _ _ (by show V0.heap.size ≠ V1.heap.size; omega)
  have Y5 : Box w5 V0.heap.size 51 #[.slice (some ⟨V.heap.size, 0, none⟩) vs.length vs.length, .slice none 0 0] := by rw [← hw5]; exact Y4.set 0 _
  have Y6 : Hid (Box w6 V0.heap.size 51 #[.slice (some ⟨V.heap.size, 0, none⟩) vs.length vs.length, .slice (some ⟨w2.heap.size, 0, none⟩) ws.length ws.length]) := by unfold Hid; rw [← hw6]; exact Y5.set 1 _
  have P6 : Hid (w6.ownsRow w.heap.size 98 4 (.slice (some ⟨V.heap.size, 0, none⟩) vs.length vs.length) vs.length (cellsK vs)) := (own_same P3 (fun g e => i36.block g (by have e' : V.heap.size = g := Option.some.inj e; omega) (.inr (by have e' : V.heap.size = g := Option.some.inj e; omega)))).down (by omega)
  have Q6 : Hid (w6.ownsRow w.heap.size 100 2 (.slice (some ⟨w2.heap.size, 0, none⟩) ws.length ws.length) ws.length (cellsW ws)) := (own_same o3 (fun g e => i36.block g (by have e' : w2.heap.size = g := Option.some.inj e; omega) (.inr (by have e' : w2.heap.size = g := Option.some.inj e; omega)))).down (by omega)
  have B6 : Hid (Below w.heap.size w w6) := B3.out.trans (i36.below (by omega) B3.out.size)
  obtain ⟨p0, p1⟩ := box2 O4
  obtain ⟨q0, q1⟩ := box2 Y4
  obtain ⟨r0, r1⟩ := thaw2 Y4
  obtain ⟨m0, m1⟩ := box2 Y5
  obtain ⟨n0, n1⟩ := thaw2 Y5
  clear O3 Y3 P3 o3 B3 i4 i5 i6 i36 O4 Y4 Y5
  go_wp2
  refine retL Tryz.results58 rfl rfl Y6.out ⟨⟨⟨some ⟨V.heap.size, 0, none⟩, vs.length, some ⟨w2.heap.size, 0, none⟩, ws.length⟩, rfl, P6.out, Q6.out, ?_⟩, B6.out⟩
  intro g e e'
  have h1 : V.heap.size = g := Option.some.inj e
  have h2 : w2.heap.size = g := Option.some.inj e'
  omega
set_option maxRecDepth 100000 in
set_option maxHeartbeats 4000000 in
theorem c_szL (h : HL) (vs : List LK) (ws : List WK) (w : World) (m0 : vs.length ≤ maxLen) (m1 : ws.length ≤ maxLen) :
    Calls Tryz.prog 50 #[.agg #[.slice h.a0 vs.length h.c0, .slice h.a1 ws.length h.c1], .int .i64 1048576] w fun e w' => (∃ z : Int, e = .returned (.int .i64 z) ∧ (0 ≤ z → vs.length ≤ 1048576 ∧ ws.length ≤ 1048576)) ∧ Below w.heap.size w w' := by
  obtain ⟨V, hV⟩ : ∃ V, w.alloc (.cells #[.slice h.a0 vs.length h.c0, .slice h.a1 ws.length h.c1] 35) = V := ⟨_, rfl⟩
  have B : Hid (Below w.heap.size w V) := by unfold Hid; rw [← hV]; exact (Below.refl _ _).alloc (Nat.le_refl _) _
  have X : Hid (Box V w.heap.size 35 #[.slice h.a0 vs.length h.c0, .slice h.a1 ws.length h.c1]) := by unfold Hid; rw [← hV]; exact Box.new _ _ _
  obtain ⟨x0, x1⟩ := box2 X.out
  have C1 := c_szK h.a0 vs.length h.c0 1048576 V m0 (by omega) (by omega)
  go_enter Tryz.func50, Tryz.ntmps50
  go_wp2_with fail
  refine C1.mono ?_
  rintro e w1 ⟨rfl, rfl⟩
  unfold sizeK
  by_cases n0 : (1048576 : Int) - vs.length < 0
  · rw [if_pos n0]
    go_wp2
    go_ret
    exact ⟨⟨-1, rfl, fun h => by omega⟩, B.out⟩
  rw [if_neg n0]
  have C2 := c_szW h.a1 ws.length h.c1 (1048576 - vs.length) w1 m1 (by omega) (by omega)
  go_wp2_with fail
  refine C2.mono ?_
  rintro e w1 ⟨rfl, rfl⟩
  unfold sizeW
  by_cases n1 : (1048576 : Int) - vs.length - ws.length < 0
  · rw [if_pos n1]
    go_wp2
    go_ret
    exact ⟨⟨-1, rfl, fun h => by omega⟩, B.out⟩
  rw [if_neg n1]
  go_wp2
  go_ret
  exact ⟨⟨_, rfl, fun h => by omega⟩, B.out⟩
set_option maxRecDepth 100000 in
set_option maxHeartbeats 4000000 in
theorem c_eqL (h h' : HL) (vs : List LK) (ws : List WK) (w : World) (r : RdL w h vs ws) (r' : RdL w h' vs ws) (f0 : vs.length ≤ 1048576) (f1 : ws.length ≤ 1048576) :
    Calls Tryz.prog 66 #[.agg #[.slice h.a0 vs.length h.c0, .slice h.a1 ws.length h.c1], .agg #[.slice h'.a0 vs.length h'.c0, .slice h'.a1 ws.length h'.c1]] w fun e w' => e = .returned (.bool true) ∧ Below w.heap.size w w' := by
  have R : Hid (RdL w h vs ws) := r
  have R' : Hid (RdL w h' vs ws) := r'
  clear r r'
  obtain ⟨V0, hV0⟩ : ∃ V, w.alloc (.cells #[.slice h.a0 vs.length h.c0, .slice h.a1 ws.length h.c1] 51) = V := ⟨_, rfl⟩
  obtain ⟨V, hV⟩ : ∃ V, V0.alloc (.cells #[.slice h'.a0 vs.length h'.c0, .slice h'.a1 ws.length h'.c1] 51) = V := ⟨_, rfl⟩
  have hb0 : Below w.heap.size w V0 := by rw [← hV0]; exact (Below.refl _ _).alloc (Nat.le_refl _) _
  have hb1 : Below V0.heap.size V0 V := by rw [← hV]; exact (Below.refl _ _).alloc (Nat.le_refl _) _
  have X : Hid (Box V w.heap.size 51 #[.slice h.a0 vs.length h.c0, .slice h.a1 ws.length h.c1]) := (show Box V0 w.heap.size 51 #[.slice h.a0 vs.length h.c0, .slice h.a1 ws.length h.c1] by rw [← hV0]; exact Box.new _ _ _).belowS hb1
  have Y : Hid (Box V V0.heap.size 51 #[.slice h'.a0 vs.length h'.c0, .slice h'.a1 ws.length h'.c1]) := by unfold Hid; rw [← hV]; exact Box.new _ _ _
  have B : Hid (Below w.heap.size w V) := hb0.trans (hb1.mono hb0.size)
  clear hb0 hb1
  obtain ⟨x0, x1⟩ := box2 X.out
  obtain ⟨y0, y1⟩ := box2 Y.out
  go_enter Tryz.func66, Tryz.ntmps66
  go_wp2_with fail
  refine (c_eqK h.a0 h'.a0 vs.length h.c0 h'.c0 vs V (R.out.1.below B.out) (R'.out.1.below B.out) f0).mono ?_
  rintro e w1 ⟨rfl, hb⟩
  have B1 : Hid (Below w.heap.size w w1) := B.out.trans (hb.mono B.out.size)
  have X1 := X.out.belowS hb
  have Y1 := Y.out.belowS hb
  clear x0 x1 y0 y1 hb
  obtain ⟨x0, x1⟩ := box2 X1
  obtain ⟨y0, y1⟩ := box2 Y1
  clear X1 Y1
  go_wp2_with fail
  refine (c_eqW h.a1 h'.a1 ws.length h.c1 h'.c1 ws w1 (R.out.2.below B1.out) (R'.out.2.below B1.out) f1).mono ?_
  rintro e w2 ⟨rfl, hb⟩
  have B2 : Hid (Below w.heap.size w w2) := B1.out.trans (hb.mono B1.out.size)
  clear hb x0 x1 y0 y1
  go_wp2
  go_ret
  exact ⟨rfl, B2.out⟩

end Go.Proofs.YtfibdpfhfgnbiaaGreatDoor.L
namespace Go.Proofs.YtfibdpfhfgnbiaaGreatDoor.L
open Go Go.RowKit
attribute [local go_sem ↓] Go.wp_at_zero Go.wp_at_succ

open Go.Maps
def updT (T : Int) (f : FM) (v : LK) : FM := if v.b = T then putM f v.r (addH (f v.r) v.m v.x) else f
def fT (vs : List LK) (T : Int) (k : Nat) : FM := (vs.take k).foldl (updT T) (fun _ => zeroH)
def badT (T : Int) (f : FM) (v : LK) : Bool := decide (v.b = T) && (inT (f v.r v.m) v.x || decide (agH (f v.r) v.x v.m ≠ 0#64))
def okT (vs : List LK) (T : Int) : Nat → Bool
  | 0 => true
  | k + 1 => okT vs T k && !badT T (fT vs T k) (vs.getD k dK)
def okUp (vs : List LK) : Nat → Bool
  | 0 => true
  | t + 1 => okUp vs t && (decide (t = 0) || okT vs (t : Int) vs.length)
def fitL (vs : List LK) : Bool := okUp vs 4
theorem fT_step (vs : List LK) (T : Int) (k : Nat) (hk : k < vs.length) : fT vs T (k + 1) = updT T (fT vs T k) (vs.getD k dK) := by
  unfold fT
  rw [List.take_add_one, List.foldl_append, List.getElem?_eq_getElem hk, List.getD_eq_getElem?_getD, List.getElem?_eq_getElem hk]
  rfl
theorem okT_le {vs : List LK} {T : Int} {j : Nat} (h : okT vs T j = false) : ∀ i, j ≤ i → okT vs T i = false := by
  intro i hi
  induction i with
  | zero => have : j = 0 := by omega
            rw [this] at h; exact h
  | succ i ih =>
    by_cases e : j = i + 1
    · rw [← e]; exact h
    · show (okT vs T i && _) = false
      rw [ih (by omega)]; rfl
theorem okUp_le {vs : List LK} {j : Nat} (h : okUp vs j = false) : ∀ i, j ≤ i → okUp vs i = false := by
  intro i hi
  induction i with
  | zero => have : j = 0 := by omega
            rw [this] at h; exact h
  | succ i ih =>
    by_cases e : j = i + 1
    · rw [← e]; exact h
    · show (okUp vs i && _) = false
      rw [ih (by omega)]; rfl
theorem fitL_no {vs : List LK} {T k : Nat} (h1 : 1 ≤ T) (h3 : T ≤ 3) (hk : k ≤ vs.length) (h : okT vs T k = false) : fitL vs = false := by
  refine okUp_le (j := T + 1) ?_ 4 (by omega)
  show (okUp vs T && (decide (T = 0) || okT vs (T : Int) vs.length)) = false
  rw [okT_le h _ hk, decide_eq_false (by omega)]
  simp
theorem okUp_step {vs : List LK} {T : Nat} (h : okUp vs T = true) (ho : okT vs T vs.length = true) : okUp vs (T + 1) = true := by
  show (okUp vs T && (decide (T = 0) || okT vs (T : Int) vs.length)) = true
  rw [h, ho]; simp
theorem okK_bounds {x b r m : Int} (h : okK ⟨x, b, r, m⟩ = true) : (1 ≤ x ∧ x ≤ 60) ∧ (1 ≤ b ∧ b ≤ 3) ∧ (-1 ≤ r ∧ r ≤ 1000) ∧ (1 ≤ m ∧ m ≤ 4) := by
  unfold okK at h
  simp only [Bool.and_eq_true, inB_iff] at h
  exact ⟨h.1.1.1.1, h.1.1.1.2, h.1.1.2, h.1.2⟩
theorem okT_bad {vs : List LK} {T : Int} {k : Nat} (h : badT T (fT vs T k) (vs.getD k dK) = true) : okT vs T (k + 1) = false := by
  show (okT vs T k && !badT T (fT vs T k) (vs.getD k dK)) = false
  rw [h]; simp
theorem okT_good {vs : List LK} {T : Int} {k : Nat} (h0 : okT vs T k = true) (h : badT T (fT vs T k) (vs.getD k dK) = false) : okT vs T (k + 1) = true := by
  show (okT vs T k && !badT T (fT vs T k) (vs.getD k dK)) = true
  rw [h, h0]; rfl
theorem OwnM.mono {w : World} {b n n' : Nat} {f : FM} (h : OwnM w b n f) (hn : n ≤ n') : OwnM w b n' f := by
  obtain ⟨D, ho, hm, ha⟩ := h; exact ⟨D, ho.mono hn, hm, ha⟩
set_option maxRecDepth 100000 in
set_option maxHeartbeats 8000000 in
theorem c_fitting (a : Option Addr) (n cap : Nat) (vs : List LK) (w : World) (hr : RdK w a n vs) (hn : n ≤ 60) (hall : vs.all okK = true) (ht : FitH w) :
    Calls Tryz.prog 132 #[.slice a n cap] w fun e w' => e = .returned (.bool (fitL vs)) ∧ Below w.heap.size w w' := by
  have HT : Hid (FitH w) := ht
  obtain ⟨hl, hcs⟩ := hr
  have HALL : Hid (∀ k, k < n → okK (vs.getD k dK) = true) := fun k hk => by
    have hk' : k < vs.length := by omega
    rw [List.getD_eq_getElem?_getD, List.getElem?_eq_getElem hk']
    exact List.all_eq_true.1 hall _ (List.getElem_mem hk')
  clear ht hall
  have hmm := @run_makeMap Tryz.prog
  go_enter Tryz.func132, Tryz.ntmps132
  go_wp2
  go_loopw [4] (fun s wr => ∃ (T n' : Nat) (f : FM), 1 ≤ T ∧ T ≤ 4 ∧ s = .int .i64 (T : Int) ∧ Hid (OwnM wr w.heap.size n' f) ∧ Hid (okUp vs T = true) ∧ Hid (Below w.heap.size w wr)) (fun s _ => 5 - (intOf s).toNat)
  case atStart => exact ⟨1, 0, _, by omega, by omega, rfl, OwnM.made w, rfl, (Below.refl _ _).alloc (Nat.le_refl _) _⟩
  case round =>
    obtain ⟨T, n', f, hT1, hT4, rfl, HM, HU, HB⟩ := hrel
    by_cases hT : T ≤ 3
    · have cT : (T : Int) ≤ 3 := by omega
      go_wp2_with (refine wp_clearH _ rfl (.tmp 13) rfl w.heap.size n' f rfl HM.out ?_; intro v1 w1 hown1 hg1)
      have HM1 : Hid (OwnM w1 w.heap.size 0 (fun _ => zeroH)) := hown1
      have HB1 : Hid (Below w.heap.size w w1) := HB.out.grown hg1 HB.out.size (fun k h => by cases h; exact Nat.le_refl _)
      clear hown1 hg1 HM HB
      go_loopw [16] (fun s wr => ∃ k : Nat, k ≤ n ∧ s = .int .i64 (k : Int) ∧ Hid (OwnM wr w.heap.size k (fT vs T k)) ∧ Hid (okT vs T k = true) ∧ Hid (Below w.heap.size w wr)) (fun s _ => n - (intOf s).toNat)
      case atStart => exact ⟨0, by omega, rfl, HM1, rfl, HB1⟩
      case round =>
        obtain ⟨k, hk, rfl, HM, HO, HB⟩ := hrel
        by_cases hlt : k < n
        · obtain ⟨b, off, rfl, hbl, hc⟩ := hcs (by omega)
          have hok := HALL.out k hlt
          have hst := fT_step vs T k (by omega)
          obtain ⟨⟨vx, vb, vr, vm⟩, hv⟩ : ∃ v, v = vs.getD k dK := ⟨_, rfl⟩
          obtain ⟨d0, d1, d2, d3⟩ := hc k hlt
          rw [← hv] at d0 d1 d2 d3 hok hst
          obtain ⟨j, hj⟩ : ∃ j : Nat, vm = (j : Int) := ⟨vm.toNat, by have := (okK_bounds hok).2.2.2; omega⟩
          subst hj
          have e0 : wr.cell? ⟨b, off + k * 4, none⟩ = some (.int .i64 vx) := by rw [HB.out.cell (p := ⟨b, off + k * 4, none⟩) hbl, d0]
          have e1 : wr.cell? ⟨b, off + k * 4 + 1, none⟩ = some (.int .i64 vb) := by rw [HB.out.cell (p := ⟨b, off + k * 4 + 1, none⟩) hbl, d1]
          have e2 : wr.cell? ⟨b, off + k * 4 + 2, none⟩ = some (.int .i64 vr) := by rw [HB.out.cell (p := ⟨b, off + k * 4 + 2, none⟩) hbl, d2]
          have e3 : wr.cell? ⟨b, off + k * 4 + 3, none⟩ = some (.int .i64 (j : Int)) := by rw [HB.out.cell (p := ⟨b, off + k * 4 + 3, none⟩) hbl, d3]
          obtain ⟨bx, _, br, bm⟩ := okK_bounds hok
          have HV : Hid ((⟨vx, vb, vr, (j : Int)⟩ : LK) = vs.getD k dK) := hv
          have HST : Hid (fT vs T (k + 1) = updT T (fT vs T k) ⟨vx, vb, vr, (j : Int)⟩) := hst
          clear hc hcs d0 d1 d2 d3 hv hst hok HM1 HB1
          obtain ⟨w2, hw2⟩ : ∃ W, wr.alloc (.cells #[.int .i64 vx, .int .i64 vb, .int .i64 vr, .int .i64 (j : Int)] 98) = W := ⟨_, rfl⟩
          have hb2 : Below wr.heap.size wr w2 := by rw [← hw2]; exact (Below.refl _ _).alloc (Nat.le_refl _) _
          have BK2 : Hid (Box w2 wr.heap.size 98 #[.int .i64 vx, .int .i64 vb, .int .i64 vr, .int .i64 (j : Int)]) := by unfold Hid; rw [← hw2]; exact Box.new _ _ _
          have lm := HM.out.lt
          have HM2 : Hid (OwnM w2 w.heap.size k (fT vs T k)) := HM.out.kept (hb2.block _ lm)
          have HB2 : Hid (Below w.heap.size w w2) := HB.out.trans (hb2.mono HB.out.size)
          have c0 := BK2.out.cell 0
          have c1 := BK2.out.cell 1
          have c2 := BK2.out.cell 2
          have c3 := BK2.out.cell 3
          simp only [List.getElem?_toArray, List.getElem?_cons_zero, List.getElem?_cons_succ] at c0 c1 c2 c3
          clear hb2 HM HB
          by_cases hbT : vb = (T : Int)
          · subst hbT
            have hq : ((T : Int) != (T : Int)) = false := by simp
            obtain ⟨hh, hhd⟩ : ∃ hh, fT vs T k vr = hh := ⟨_, rfl⟩
            have HHD : Hid (fT vs T k vr = hh) := hhd
            obtain ⟨w3, hw3⟩ : ∃ W, w2.alloc (.cells (cH hh) 255) = W := ⟨_, rfl⟩
            have hb3 : Below w2.heap.size w2 w3 := by rw [← hw3]; exact (Below.refl _ _).alloc (Nat.le_refl _) _
            have BH3 : Hid (Box w3 w2.heap.size 255 (cH hh)) := by unfold Hid; rw [← hw3]; exact Box.new _ _ _
            have BK3 : Hid (Box w3 wr.heap.size 98 #[.int .i64 vx, .int .i64 (T : Int), .int .i64 vr, .int .i64 (j : Int)]) := BK2.out.belowS hb3
            have lk := BK2.out.lt
            have lm2 := HM2.out.lt
            have HM3 : Hid (OwnM w3 w.heap.size k (fT vs T k)) := HM2.out.kept (hb3.block _ lm2)
            have HB3 : Hid (Below w.heap.size w w3) := HB2.out.trans (hb3.mono HB2.out.size)
            have HF3 : Hid (FitH w3) := HT.out.below HB3.out
            have lh := BH3.out.lt
            have cm := BH3.out.cell j
            have hg := cH_get hh (m := (j : Int)) (by omega)
            rw [Int.toNat_natCast] at hg
            rw [hg] at cm
            have h0 := BH3.out.cell 0
            have h1 := BH3.out.cell 1
            have h2 := BH3.out.cell 2
            have h3 := BH3.out.cell 3
            have h4 := BH3.out.cell 4
            have g0 := BK3.out.cell 0
            have g1 := BK3.out.cell 1
            have g2 := BK3.out.cell 2
            have g3 := BK3.out.cell 3
            unfold cH at hw3 h0 h1 h2 h3 h4
            simp only [List.getElem?_toArray, List.getElem?_cons_zero, List.getElem?_cons_succ] at h0 h1 h2 h3 h4 g0 g1 g2 g3
            have cj : (j : Int) < 5 := by omega
            obtain ⟨p, hp⟩ : ∃ p, inT (hh (j : Int)) vx = p := ⟨_, rfl⟩
            obtain ⟨A, hA⟩ : ∃ A, agH hh vx (j : Int) = A := ⟨_, rfl⟩
            obtain ⟨q, hqd⟩ : ∃ q, decide (A ≠ 0#64) = q := ⟨_, rfl⟩
            have hne := ne_zero (b := A)
            rw [hqd] at hne
            have CH : Hid (∀ W : World, Calls Tryz.prog 137 #[.int .u64 ((hh (j : Int)).toNat : Int), .int .i64 vx] W fun e w' => e = .returned (.bool p) ∧ w' = W) := fun W => by rw [← hp]; exact c_has _ vx W (by omega) (by omega)
            have CA : Hid (∀ W : World, FitH W → Calls Tryz.prog 212 #[.agg (cH hh), .agg #[.int .i64 vx, .int .i64 (T : Int), .int .i64 vr, .int .i64 (j : Int)]] W fun e w' => e = .returned (.int .u64 ((A.toNat : Nat) : Int)) ∧ Below W.heap.size W w') := fun W hW => by rw [← hA]; exact c_against hh vx T vr j W hW (by omega) bx
            have HBD : Hid (badT T (fT vs T k) (vs.getD k dK) = (p || q)) := by
              unfold Hid badT
              rw [← HV.out]
              show (decide ((T : Int) = T) && (inT (fT vs T k vr j) vx || decide (agH (fT vs T k vr) vx j ≠ 0#64))) = _
              rw [hhd, hp, hA, hqd]; simp
            unfold cH at CA
            clear hb3 hg hA hqd hp HB2 BK2 c3
            go_wp2_with (at_lookup; refine wp_lookH _ rfl (.tmp 24) (.tmp 26) rfl w.heap.size k (fT vs T k) rfl HM2.out vr rfl br ?_; rw [hhd]; unfold cH)
            clear c0 c1 c2
            go_cut [41] (fun s wx => s = .bool (p || q) ∧ Hid (Below w3.heap.size w3 wx))
            case first =>
              cases p
              · go_region_with (first
                  | (go_at_call 137; refine (CH.out _).mono ?_; rintro e wy ⟨rfl, rfl⟩)
                  | (go_at_call 212; refine (CA.out _ ?_).mono ?_; (exact HF3.out); rintro e wz ⟨rfl, hbz⟩))
                all_goals (go_wp2_with fail; go_meet)
                all_goals exact ⟨rfl, Below.trans ((Below.refl _ _).drew) hbz⟩
              · go_region_with (first
                  | (go_at_call 137; refine (CH.out _).mono ?_; rintro e wy ⟨rfl, rfl⟩))
                all_goals (go_wp2_with fail; go_meet)
                all_goals exact ⟨rfl, below_drewN (Below.refl _ _) _⟩
            case rest =>
              rename World => wx
              obtain ⟨rfl, HBx⟩ := hcut
              have BHx := BH3.out.belowS HBx.out
              have BKx := BK3.out.belowS HBx.out
              have HBw : Hid (Below w.heap.size w wx) := HB3.out.trans (HBx.out.mono HB3.out.size)
              have HMx : Hid (OwnM wx w.heap.size k (fT vs T k)) := HM3.out.kept (HBx.out.block _ (by omega))
              clear CH CA h0 h1 h2 h3 h4 g0 g1 g2 g3 cm hw3 HM2 HM3
              cases hpq : (p || q)
              · rw [hpq] at HBD
                have q0 := BKx.cell 0
                have q1 := BKx.cell 1
                have q2 := BKx.cell 2
                have q3 := BKx.cell 3
                simp only [List.getElem?_toArray, List.getElem?_cons_zero, List.getElem?_cons_succ] at q0 q1 q2 q3
                have BHX : Hid (Box wx w2.heap.size 255 (cH hh)) := BHx
                have BKX : Hid (Box wx wr.heap.size 98 #[.int .i64 vx, .int .i64 (T : Int), .int .i64 vr, .int .i64 (j : Int)]) := BKx
                clear BHx BKx
                go_wp2_with fail
                refine (c_add w2.heap.size hh vx T vr j wx BHX.out (by omega) bx).mono ?_
                rintro e w5 ⟨⟨v5, rfl⟩, hb5, hi5⟩
                have BK5 := BKX.out.innO hi5 (.inl lk)
                have HM5 : Hid (OwnM w5 w.heap.size k (fT vs T k)) := HMx.out.kept (hi5.block _ HMx.out.lt (.inl lm2))
                have HB5 : Hid (Below w.heap.size w w5) := HBw.out.trans (hi5.below (by omega) HBw.out.size)
                clear q0 q1 q2 q3 HMx HBw hi5 BKX BHX
                have q2 := BK5.cell 2
                have h0 := hb5.cell 0
                have h1 := hb5.cell 1
                have h2 := hb5.cell 2
                have h3 := hb5.cell 3
                have h4 := hb5.cell 4
                unfold cH at h0 h1 h2 h3 h4
                simp only [List.getElem?_toArray, List.getElem?_cons_zero, List.getElem?_cons_succ] at h0 h1 h2 h3 h4 q2
                clear hb5 BK5
                go_wp2_with (at_mapUpdate; refine wp_putH _ rfl (.tmp 44) (.tmp 46) (.tmp 47) rfl w.heap.size k (fT vs T k) rfl HM5.out (by unfold maxLen; omega) vr rfl br (addH hh (j : Int) vx) rfl ?_; intro w6 hown6 hg6)
                have HM6 : Hid (OwnM w6 w.heap.size (k + 1) (putM (fT vs T k) vr (addH hh (j : Int) vx))) := hown6
                have HB6 : Hid (Below w.heap.size w w6) := HB5.out.grown hg6 HB5.out.size (fun k h => by cases h; exact Nat.le_refl _)
                clear hown6 hg6
                go_wp2
                go_roundw
                case rel =>
                  refine ⟨k + 1, by omega, by go_num, ?_, okT_good HO.out HBD.out, HB6⟩
                  unfold Hid
                  rw [HST.out]
                  unfold updT
                  rw [if_pos rfl]
                  show OwnM w6 w.heap.size (k + 1) (putM (fT vs T k) vr (addH (fT vs T k vr) j vx))
                  rw [HHD.out]
                  exact HM6.out
                case measure => simp [intOf]; omega
              · rw [hpq] at HBD
                go_wp2
                go_ret
                exact ⟨ret_bool (fitL_no hT1 hT (k := k + 1) (by omega) (okT_bad HBD.out)).symm, HBw.out⟩
          · have hq : (vb != (T : Int)) = true := by simpa using hbT
            go_wp2
            go_roundw
            case rel => exact ⟨k + 1, by omega, by go_num, by unfold Hid; rw [HST.out]; unfold updT; rw [if_neg hbT]; exact HM2.out.mono (by omega), okT_good HO.out (by rw [← HV.out]; unfold badT; rw [decide_eq_false hbT]; rfl), HB2⟩
            case measure => simp [intOf]; omega
        · have e : k = n := by omega
          subst e
          go_wp2
          go_roundw
          case rel => exact ⟨T + 1, _, _, by omega, by omega, by go_num, HM, okUp_step HU.out (by rw [hl]; exact HO.out), HB⟩
          case measure => simp [intOf]; omega
    · have e : T = 4 := by omega
      subst e
      go_wp2
      go_ret
      exact ⟨ret_bool HU.out.symm, HB.out⟩

end Go.Proofs.YtfibdpfhfgnbiaaGreatDoor.L
