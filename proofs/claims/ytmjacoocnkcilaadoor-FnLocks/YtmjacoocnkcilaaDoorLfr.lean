/-
  FreeLocks: the program's walk.
-/
import Derived.Test.YtmjacoocnkcilaaDoorLta
import Derived.Test.YtmjacoocnkcilaaDoorLs
import Derived.Test.YtmjacoocnkcilaaDoorLl
import Derived.Deep.RegionWith
namespace Go.Proofs.YtmjacoocnkcilaaDoor
open Go Go.RowKit
attribute [local go_sem ↓] Go.wp_at_zero Go.wp_at_succ

theorem retLc {fn : Func} {p u : Tmp} (h : fn.results = #[.cell p 34, .tmp u]) {R : Ending → World → Prop} {a : Act} {w : World} {g : Nat} {x y v : Value} (hp : a.tmps.getD p undef = .pointer (some ⟨g, 0, none⟩)) (hu : a.tmps.getD u undef = v) (hd : a.defers = []) (hb : Box w g 34 #[x, y]) (hR : R (.returned (.tuple #[.agg #[x, y], v])) w) : bodyPost Tryd.prog fn R .ret a w := by
  refine bodyPost_ret ?_ hd hR
  have hp' : a.tmps[p]?.getD undef = .pointer (some ⟨g, 0, none⟩) := by simpa using hp
  have hu' : a.tmps[u]?.getD undef = v := by simpa using hu
  simp only [results, h]
  simp [hp', hu', asAddr, loadVarL hb]
def put2 (V : World) (g : Nat) (a b : Value) : World := (V.setCell ⟨g, 0, none⟩ a).setCell ⟨g, 1, none⟩ b
theorem put2_box {V : World} {g : Nat} {t : TypeId} {x y : Value} (hb : Box V g t #[x, y]) (a b : Value) : Box (put2 V g a b) g t #[a, b] := by
  have := (hb.set 0 a).set 1 b
  simpa [put2] using this
theorem put2_below {B : Nat} {w V : World} (hb : Below B w V) {g : Nat} (hr : B ≤ g) (a b : Value) : Below B w (put2 V g a b) := (hb.setCell hr _).setCell hr _
theorem put2_inn {V : World} {g : Nat} (a b : Value) : Inn g (g + 1) V (put2 V g a b) := ⟨rfl, rfl, rfl, by simp [put2], fun i _ ho => (Below.heap_setCell _ _ _ _ (by show i ≠ g; omega)).trans (Below.heap_setCell _ _ _ _ (by show i ≠ g; omega))⟩
theorem set_inn {V : World} {g i : Nat} (a : Value) : Inn g (g + 1) V (V.setCell ⟨g, i, none⟩ a) := ⟨rfl, rfl, rfl, by simp, fun j _ ho => Below.heap_setCell _ _ _ _ (by show j ≠ g; omega)⟩
theorem own_inn {w w' : World} {B E base e size n m c : Nat} {a : Option Addr} {xs : List Value} (ho : w.ownsRow base e size (.slice a m c) n xs) (hi : Inn B E w w') (hn : ∀ b, ob a = some b → b < B ∨ E ≤ b) : w'.ownsRow base e size (.slice a m c) n xs :=
  own_same ho (fun g eg => by
    rw [ob_slice] at eg
    obtain ⟨a', c', e', hh⟩ := own_slc ho
    cases e'
    exact hi.block g (hh g eg).2 (hn g eg))
theorem own_rng {w : World} {base e size n m c : Nat} {a : Option Addr} {xs : List Value} (ho : w.ownsRow base e size (.slice a m c) n xs) : ∀ b, ob a = some b → base ≤ b ∧ b < w.heap.size := fun b hb => by
  obtain ⟨a', c', e', hh⟩ := own_slc ho; cases e'; exact hh b hb
set_option maxRecDepth 100000 in
set_option maxHeartbeats 8000000 in
theorem c_free (g : Nat) (h : HL) (vs : List LK) (ws : List WK) (x : Int) (w0 w : World) (r : RdL w0 h vs ws) (b0 : Below w0.heap.size w0 w) (lg : w0.heap.size ≤ g) (hg : Box w g 34 #[.slice h.a0 vs.length h.c0, .slice h.a1 ws.length h.c1]) (f0 : vs.length ≤ 1048576) (f1 : ws.length ≤ 1048576) :
    Calls Tryd.prog 62 #[.pointer (some ⟨g, 0, none⟩), .int .i64 x] w fun e w' => (∃ v, e = .returned v) ∧ (∃ h' : HL, Box w' g 34 #[.slice h'.a0 (vs.filter (pNk x)).length h'.c0, .slice h'.a1 (ws.filter (pNw x)).length h'.c1] ∧ OwnL w' w.heap.size h' (vs.filter (pNk x)) (ws.filter (pNw x))) ∧ Inn g (g + 1) w w' := by
  have R : Hid (RdL w0 h vs ws) := r
  have B0 : Hid (Below w0.heap.size w0 w) := b0
  obtain ⟨V, hV⟩ : ∃ V, w.alloc (.cells #[.int .i64 x] 3) = V := ⟨_, rfl⟩
  have hbV : Below w.heap.size w V := by rw [← hV]; exact (Below.refl _ _).alloc (Nat.le_refl _) _
  have G : Hid (Box V w.heap.size 3 #[.int .i64 x]) := by unfold Hid; rw [← hV]; exact Box.new _ _ _
  have X : Hid (Box V g 34 #[.slice h.a0 vs.length h.c0, .slice h.a1 ws.length h.c1]) := hg.belowS hbV
  have BV : Hid (Below w.heap.size w V) := hbV
  have lgw : g < w.heap.size := hg.lt
  have lV : w.heap.size < V.heap.size := G.out.lt
  clear r b0 hg hbV
  obtain ⟨x0, x1⟩ := box2 X.out
  go_enter Tryd.func62, Tryd.ntmps62
  go_wp2_with fail
  refine (c_thoseNk h.a0 _ h.c0 vs w.heap.size x V (R.out.1.below (B0.out.trans (BV.out.mono B0.out.size))) f0 G.out).mono ?_
  rintro e w1 ⟨⟨a1, c1, rfl, o1, l1⟩, hb⟩
  have X1 := X.out.belowS hb
  have G1 := G.out.belowS hb
  have B1 : Hid (Below w.heap.size w w1) := BV.out.trans (hb.mono BV.out.size)
  have s1 : V.heap.size ≤ w1.heap.size := hb.size
  clear hb X G BV x0 x1
  obtain ⟨x0, x1⟩ := box2 X1
  obtain ⟨t0, t1⟩ := thaw2 X1
  have r1 := own_rng o1
  obtain ⟨w2, hw2⟩ : ∃ W, w1.setCell ⟨g, 0, none⟩ (.slice a1 (vs.filter (pNk x)).length c1) = W := ⟨_, rfl⟩
  have i2 : Inn g (g + 1) w1 w2 := by rw [← hw2]; exact set_inn _
  have X2 : Hid (Box w2 g 34 #[.slice a1 (vs.filter (pNk x)).length c1, .slice h.a1 ws.length h.c1]) := by unfold Hid; rw [← hw2]; exact X1.set 0 _
  have G2 : Hid (Box w2 w.heap.size 3 #[.int .i64 x]) := G1.innO i2 (.inr (by omega))
  have O2 : Hid (w2.ownsRow w.heap.size 55 4 (.slice a1 (vs.filter (pNk x)).length c1) (vs.filter (pNk x)).length (cellsK (vs.filter (pNk x)))) := (own_inn o1 i2 (fun b hb => .inr (by have := r1 b hb; omega))).down (by omega)
  have I2 : Hid (Inn g (g + 1) w w2) := (Inn.of_below B1.out).trans i2
  have R2 : Hid (RdW w2 h.a1 ws.length ws) := R.out.2.below (B0.out.trans (I2.out.below lg B0.out.size))
  have L1 : Hid (∀ b, ob a1 = some b → V.heap.size ≤ b ∧ b < w2.heap.size) := fun b hb => ⟨l1 b hb, Nat.lt_of_lt_of_le (r1 b hb).2 i2.size⟩
  have lV2 : V.heap.size ≤ w2.heap.size := Nat.le_trans s1 i2.size
  clear X1 G1 o1 l1 B1 i2 r1
  obtain ⟨y0, y1⟩ := box2 X2.out
  go_wp2_with fail
  refine (c_thoseNw h.a1 _ h.c1 ws w.heap.size x w2 R2.out f1 G2.out).mono ?_
  rintro e w3 ⟨⟨a3, c3, rfl, o3, l3⟩, hb⟩
  have X3 := X2.out.belowS hb
  have O3 := own_below O2.out hb
  have I3 : Hid (Inn g (g + 1) w w3) := I2.out.trans (Inn.of_below hb)
  have r3 := own_rng o3
  have s3 : w2.heap.size ≤ w3.heap.size := hb.size
  clear hb X2 G2 O2 R2 I2 x0 x1 y0 y1 t0 t1 hw2
  obtain ⟨x0, x1⟩ := box2 X3
  obtain ⟨t0, t1⟩ := thaw2 X3
  obtain ⟨w4, hw4⟩ : ∃ W, w3.setCell ⟨g, 1, none⟩ (.slice a3 (ws.filter (pNw x)).length c3) = W := ⟨_, rfl⟩
  have i4 : Inn g (g + 1) w3 w4 := by rw [← hw4]; exact set_inn _
  have X4 : Hid (Box w4 g 34 #[.slice a1 (vs.filter (pNk x)).length c1, .slice a3 (ws.filter (pNw x)).length c3]) := by unfold Hid; rw [← hw4]; exact X3.set 1 _
  have O4 : Hid (w4.ownsRow w.heap.size 55 4 (.slice a1 (vs.filter (pNk x)).length c1) (vs.filter (pNk x)).length (cellsK (vs.filter (pNk x)))) := own_inn O3 i4 (fun b hb => .inr (by have := L1.out b hb; omega))
  have P4 : Hid (w4.ownsRow w.heap.size 59 2 (.slice a3 (ws.filter (pNw x)).length c3) (ws.filter (pNw x)).length (cellsW (ws.filter (pNw x)))) := (own_inn o3 i4 (fun b hb => .inr (by have := l3 b hb; omega))).down (by omega)
  have I4 : Hid (Inn g (g + 1) w w4) := I3.out.trans i4
  have L4 : Hid (∀ b, ob a1 = some b → ob a3 ≠ some b) := fun b hb hb' => by have := L1.out b hb; have := l3 b hb'; omega
  clear X3 O3 o3 l3 r3 i4 I3 L1
  go_wp2
  exact bodyPost_end (results_none Tryd.results62 _ _ _) rfl ⟨⟨_, rfl⟩, ⟨⟨a1, c1, a3, c3⟩, X4.out, O4.out, P4.out, L4.out⟩, I4.out⟩
def frV (vs : List LK) (ws : List WK) (x : Int) : List LK := if okLs vs ws = true ∧ inB x 1 60 = true then vs.filter (pNk x) else []
def frW (vs : List LK) (ws : List WK) (x : Int) : List WK := if okLs vs ws = true ∧ inB x 1 60 = true then ws.filter (pNw x) else []
def frC (vs : List LK) (ws : List WK) (x : Int) : Int := if okLs vs ws = false then 1 else if inB x 1 60 = false then 4 else 0
theorem fr1 {vs : List LK} {ws : List WK} {x : Int} (h : okLs vs ws = false) : frV vs ws x = [] ∧ frW vs ws x = [] ∧ frC vs ws x = 1 := by unfold frV frW frC; rw [h]; exact ⟨rfl, rfl, rfl⟩
theorem fr4 {vs : List LK} {ws : List WK} {x : Int} (h : okLs vs ws = true) (h2 : inB x 1 60 = false) : frV vs ws x = [] ∧ frW vs ws x = [] ∧ frC vs ws x = 4 := by unfold frV frW frC; rw [h, h2]; exact ⟨rfl, rfl, rfl⟩
theorem fr0 {vs : List LK} {ws : List WK} {x : Int} (h : okLs vs ws = true) (h2 : inB x 1 60 = true) : frV vs ws x = vs.filter (pNk x) ∧ frW vs ws x = ws.filter (pNw x) ∧ frC vs ws x = 0 := by unfold frV frW frC; rw [h, h2]; exact ⟨rfl, rfl, rfl⟩
theorem fr_lenV (vs : List LK) (ws : List WK) (x : Int) : (frV vs ws x).length ≤ vs.length := by
  unfold frV
  split
  · exact List.length_filter_le _ _
  · exact Nat.zero_le _
theorem fr_lenW (vs : List LK) (ws : List WK) (x : Int) : (frW vs ws x).length ≤ ws.length := by
  unfold frW
  split
  · exact List.length_filter_le _ _
  · exact Nat.zero_le _
theorem own_none (w : World) (B : Nat) : OwnL w B ⟨none, 0, none, 0⟩ [] [] := ⟨World.ownsRow_nil _ _ _ _, World.ownsRow_nil _ _ _ _, fun _ h => by cases h⟩
set_option maxRecDepth 100000 in
set_option maxHeartbeats 8000000 in
theorem c_implFL (h : HL) (vs : List LK) (ws : List WK) (x : Int) (w : World) (rd : RdL w h vs ws) (f0 : vs.length ≤ 1048576) (f1 : ws.length ≤ 1048576) (ht : FitH w) :
    Calls Tryd.prog 29 #[.agg #[.slice h.a0 vs.length h.c0, .slice h.a1 ws.length h.c1], .int .i64 x] w fun e w' => (∃ h' : HL, e = .returned (.tuple #[.agg #[.slice h'.a0 (frV vs ws x).length h'.c0, .slice h'.a1 (frW vs ws x).length h'.c1], .int .i64 (frC vs ws x)]) ∧ OwnL w' w.heap.size h' (frV vs ws x) (frW vs ws x)) ∧ Below w.heap.size w w' := by
  have R : Hid (RdL w h vs ws) := rd
  obtain ⟨V0, hV0⟩ : ∃ V, w.alloc (.cells #[.slice h.a0 vs.length h.c0, .slice h.a1 ws.length h.c1] 34) = V := ⟨_, rfl⟩
  obtain ⟨V, hV⟩ : ∃ V, V0.alloc (.cells #[.slice none 0 0, .slice none 0 0] 34) = V := ⟨_, rfl⟩
  have hb0 : Below w.heap.size w V0 := by rw [← hV0]; exact (Below.refl _ _).alloc (Nat.le_refl _) _
  have hb1 : Below V0.heap.size V0 V := by rw [← hV]; exact (Below.refl _ _).alloc (Nat.le_refl _) _
  have B : Hid (Below w.heap.size w V) := hb0.trans (hb1.mono hb0.size)
  have X : Hid (Box V w.heap.size 34 #[.slice h.a0 vs.length h.c0, .slice h.a1 ws.length h.c1]) := (show Box V0 w.heap.size 34 #[.slice h.a0 vs.length h.c0, .slice h.a1 ws.length h.c1] by rw [← hV0]; exact Box.new _ _ _).belowS hb1
  have Y : Hid (Box V V0.heap.size 34 #[.slice none 0 0, .slice none 0 0]) := by unfold Hid; rw [← hV]; exact Box.new _ _ _
  have l0 : w.heap.size < V0.heap.size := by rw [← hV0]; simp
  obtain ⟨x0, x1⟩ := box2 X.out
  obtain ⟨p, hp⟩ : ∃ p, okLs vs ws = p := ⟨_, rfl⟩
  obtain ⟨q, hq⟩ : ∃ q, inB x 1 60 = q := ⟨_, rfl⟩
  have C : Hid (Calls Tryd.prog 18 #[.agg #[.slice h.a0 vs.length h.c0, .slice h.a1 ws.length h.c1]] V fun e w' => e = .returned (.bool p) ∧ Below V.heap.size V w') := by unfold Hid; rw [← hp]; exact c_implLO h vs ws V (R.out.below B.out) f0 f1 (ht.below B.out)
  have CX : Hid (∀ W : World, Calls Tryd.prog 56 #[.int .i64 x] W fun e w' => e = .returned (.bool q) ∧ w' = W) := fun W => by rw [← hq]; exact c_isTx x W
  clear rd ht hb0 hb1
  go_enter Tryd.func29, Tryd.ntmps29
  go_wp2_with fail
  refine C.out.mono ?_
  rintro e w1 ⟨rfl, hb⟩
  have B1 : Hid (Below w.heap.size w w1) := B.out.trans (hb.mono B.out.size)
  have X1 : Hid (Box w1 w.heap.size 34 #[.slice h.a0 vs.length h.c0, .slice h.a1 ws.length h.c1]) := X.out.belowS hb
  have Y1 : Hid (Box w1 V0.heap.size 34 #[.slice none 0 0, .slice none 0 0]) := Y.out.belowS hb
  clear hb x0 x1 C X Y B
  obtain ⟨y0, y1⟩ := box2 Y1.out
  obtain ⟨t0, t1⟩ := thaw2 Y1.out
  cases p
  · have E : Hid (_ ∧ _ ∧ _) := fr1 (x := x) hp
    clear hp hq
    go_wp2
    refine retLc Tryd.results29 rfl rfl rfl (put2_box Y1.out (.slice none 0 0) (.slice none 0 0)) ⟨⟨⟨none, 0, none, 0⟩, by rw [E.out.1, E.out.2.1, E.out.2.2]; rfl, by rw [E.out.1, E.out.2.1]; exact own_none _ _⟩, put2_below B1.out (by omega) _ _⟩
  go_wp2_with fail
  refine (CX.out w1).mono ?_
  rintro e wq ⟨rfl, hwq⟩; rw [hwq]; clear hwq
  cases q
  · have E : Hid (_ ∧ _ ∧ _) := fr4 hp hq
    clear hp hq
    go_wp2
    refine retLc Tryd.results29 rfl rfl rfl (put2_box Y1.out (.slice none 0 0) (.slice none 0 0)) ⟨⟨⟨none, 0, none, 0⟩, by rw [E.out.1, E.out.2.1, E.out.2.2]; rfl, by rw [E.out.1, E.out.2.1]; exact own_none _ _⟩, put2_below B1.out (by omega) _ _⟩
  have E : Hid (_ ∧ _ ∧ _) := fr0 hp hq
  clear hp hq
  have l1 := Y1.out.lt
  go_wp2_with fail
  refine (c_free w.heap.size h vs ws x w w1 R.out B1.out (Nat.le_refl _) X1.out f0 f1).mono ?_
  rintro e w2 ⟨⟨v2, rfl⟩, ⟨h', bx2, o2⟩, i2⟩
  have B2 : Hid (Below w.heap.size w w2) := B1.out.trans (i2.below (Nat.le_refl _) B1.out.size)
  have Y2 : Hid (Box w2 V0.heap.size 34 #[.slice none 0 0, .slice none 0 0]) := Y1.out.innO i2 (.inr l0)
  have ra := own_rng o2.1
  have rb := own_rng o2.2.1
  have O2 : Hid (OwnL w2 w1.heap.size h' (vs.filter (pNk x)) (ws.filter (pNw x))) := o2
  clear i2 o2 y0 y1 t0 t1
  obtain ⟨x0, x1⟩ := box2 bx2
  obtain ⟨y0, y1⟩ := box2 Y2.out
  obtain ⟨t0, t1⟩ := thaw2 Y2.out
  have O3 : Hid (OwnL (put2 w2 V0.heap.size (.slice h'.a0 (vs.filter (pNk x)).length h'.c0) (.slice h'.a1 (ws.filter (pNw x)).length h'.c1)) w.heap.size h' (vs.filter (pNk x)) (ws.filter (pNw x))) :=
    ⟨(own_inn O2.out.1 (put2_inn _ _) (fun b hb => .inr (by have := ra b hb; omega))).down B1.out.size, (own_inn O2.out.2.1 (put2_inn _ _) (fun b hb => .inr (by have := rb b hb; omega))).down B1.out.size, O2.out.2.2⟩
  clear bx2 ra rb
  go_wp2
  exact retLc Tryd.results29 rfl rfl rfl (put2_box Y2.out (.slice h'.a0 (vs.filter (pNk x)).length h'.c0) (.slice h'.a1 (ws.filter (pNw x)).length h'.c1)) ⟨⟨h', by rw [E.out.1, E.out.2.1, E.out.2.2]; rfl, by rw [E.out.1, E.out.2.1]; exact O3.out⟩, put2_below B2.out (by omega) _ _⟩

end Go.Proofs.YtmjacoocnkcilaaDoor
