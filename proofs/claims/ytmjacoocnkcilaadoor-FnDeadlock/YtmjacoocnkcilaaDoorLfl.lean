/-
  The walk of the law of FreeLocks.
-/
import Derived.Test.YtmjacoocnkcilaaDoorLmk
import Derived.Test.YtmjacoocnkcilaaDoorLfs
import Derived.Deep.RegionHeld3
namespace Go.Proofs.YtmjacoocnkcilaaDoor
open Go Go.RowKit
attribute [local go_sem ↓] Go.wp_at_zero Go.wp_at_succ

set_option maxRecDepth 100000 in
set_option maxHeartbeats 8000000 in
theorem c_specFL (h : HL) (vs : List LK) (ws : List WK) (x : Int) (w : World) (rd : RdL w h vs ws) (f0 : vs.length ≤ 1048576) (f1 : ws.length ≤ 1048576) :
    Calls Tryd.prog 28 #[.agg #[.slice h.a0 vs.length h.c0, .slice h.a1 ws.length h.c1], .int .i64 x] w fun e w' => (∃ h' : HL, e = .returned (.tuple #[.agg #[.slice h'.a0 (frV vs ws x).length h'.c0, .slice h'.a1 (frW vs ws x).length h'.c1], .int .i64 (frC vs ws x)]) ∧ OwnL w' w.heap.size h' (frV vs ws x) (frW vs ws x)) ∧ Below w.heap.size w w' := by
  have R : Hid (RdL w h vs ws) := rd
  obtain ⟨V0, hV0⟩ : ∃ V, w.alloc (.cells #[.slice h.a0 vs.length h.c0, .slice h.a1 ws.length h.c1] 34) = V := ⟨_, rfl⟩
  obtain ⟨V, hV⟩ : ∃ V, V0.alloc (.cells #[.slice none 0 0, .slice none 0 0] 34) = V := ⟨_, rfl⟩
  have hb0 : Below w.heap.size w V0 := by rw [← hV0]; exact (Below.refl _ _).alloc (Nat.le_refl _) _
  have hb1 : Below V0.heap.size V0 V := by rw [← hV]; exact (Below.refl _ _).alloc (Nat.le_refl _) _
  have B : Hid (Below w.heap.size w V) := hb0.trans (hb1.mono hb0.size)
  have X : Hid (Box V w.heap.size 34 #[.slice h.a0 vs.length h.c0, .slice h.a1 ws.length h.c1]) := (show Box V0 w.heap.size 34 #[.slice h.a0 vs.length h.c0, .slice h.a1 ws.length h.c1] by rw [← hV0]; exact Box.new _ _ _).belowS hb1
  have Y : Hid (Box V V0.heap.size 34 #[.slice none 0 0, .slice none 0 0]) := by unfold Hid; rw [← hV]; exact Box.new _ _ _
  have l0 : w.heap.size < V0.heap.size := by rw [← hV0]; simp
  obtain ⟨x0, x1⟩ := box2 X.out
  obtain ⟨p, hp⟩ : ∃ p, okLs vs ws = p := ⟨_, rfl⟩
  obtain ⟨q, hq⟩ : ∃ q, inB x 1 60 = q := ⟨_, rfl⟩
  have C : Hid (Calls Tryd.prog 16 #[.agg #[.slice h.a0 vs.length h.c0, .slice h.a1 ws.length h.c1]] V fun e w' => e = .returned (.bool p) ∧ Below V.heap.size V w') := by unfold Hid; rw [← hp]; exact c_specLO h vs ws V (R.out.below B.out) f0 f1
  have CX : Hid (∀ W : World, Calls Tryd.prog 39 #[.int .i64 x, .int .i64 1, .int .i64 60] W fun e w' => e = .returned (.bool q) ∧ w' = W) := fun W => by rw [← hq]; exact c_in x 1 60 W
  clear rd hb0 hb1
  go_enter Tryd.func28, Tryd.ntmps28
  go_wp2_with fail
  refine C.out.mono ?_
  rintro e w1 ⟨rfl, hb⟩
  have B1 : Hid (Below w.heap.size w w1) := B.out.trans (hb.mono B.out.size)
  have X1 : Hid (Box w1 w.heap.size 34 #[.slice h.a0 vs.length h.c0, .slice h.a1 ws.length h.c1]) := X.out.belowS hb
  have Y1 : Hid (Box w1 V0.heap.size 34 #[.slice none 0 0, .slice none 0 0]) := Y.out.belowS hb
  clear hb x0 x1 C X Y B
  obtain ⟨x0, x1⟩ := box2 X1.out
  obtain ⟨y0, y1⟩ := box2 Y1.out
  obtain ⟨t0, t1⟩ := thaw2 Y1.out
  cases p
  · have E : Hid (_ ∧ _ ∧ _) := fr1 (x := x) hp
    clear hp hq
    go_wp2
    refine retLc Tryd.results28 rfl rfl rfl (put2_box Y1.out (.slice none 0 0) (.slice none 0 0)) ⟨⟨⟨none, 0, none, 0⟩, by rw [E.out.1, E.out.2.1, E.out.2.2]; rfl, by rw [E.out.1, E.out.2.1]; exact own_none _ _⟩, put2_below B1.out (by omega) _ _⟩
  go_wp2_with fail
  refine (CX.out w1).mono ?_
  rintro e wq ⟨rfl, hwq⟩; rw [hwq]; clear hwq
  cases q
  · have E : Hid (_ ∧ _ ∧ _) := fr4 hp hq
    clear hp hq
    go_wp2
    refine retLc Tryd.results28 rfl rfl rfl (put2_box Y1.out (.slice none 0 0) (.slice none 0 0)) ⟨⟨⟨none, 0, none, 0⟩, by rw [E.out.1, E.out.2.1, E.out.2.2]; rfl, by rw [E.out.1, E.out.2.1]; exact own_none _ _⟩, put2_below B1.out (by omega) _ _⟩
  have E : Hid (_ ∧ _ ∧ _) := fr0 hp hq
  clear hp hq
  have l1 := Y1.out.lt
  go_wp2_with fail
  refine (c_l06Free h vs ws x w1 (R.out.below B1.out) f0 f1).mono ?_
  rintro e w2 ⟨⟨h', rfl, o2⟩, hb⟩
  have B2 : Hid (Below w.heap.size w w2) := B1.out.trans (hb.mono B1.out.size)
  have Y2 : Hid (Box w2 V0.heap.size 34 #[.slice none 0 0, .slice none 0 0]) := Y1.out.belowS hb
  have ra := own_rng o2.1
  have rb := own_rng o2.2.1
  have O2 : Hid (OwnL w2 w1.heap.size h' (vs.filter (pNk x)) (ws.filter (pNw x))) := o2
  clear hb o2 y0 y1 t0 t1 x0 x1
  obtain ⟨y0, y1⟩ := box2 Y2.out
  obtain ⟨t0, t1⟩ := thaw2 Y2.out
  have O3 : Hid (OwnL (put2 w2 V0.heap.size (.slice h'.a0 (vs.filter (pNk x)).length h'.c0) (.slice h'.a1 (ws.filter (pNw x)).length h'.c1)) w.heap.size h' (vs.filter (pNk x)) (ws.filter (pNw x))) :=
    ⟨(own_inn O2.out.1 (put2_inn _ _) (fun b hb => .inr (by have := ra b hb; omega))).down B1.out.size, (own_inn O2.out.2.1 (put2_inn _ _) (fun b hb => .inr (by have := rb b hb; omega))).down B1.out.size, O2.out.2.2⟩
  clear ra rb
  go_wp2
  exact retLc Tryd.results28 rfl rfl rfl (put2_box Y2.out (.slice h'.a0 (vs.filter (pNk x)).length h'.c0) (.slice h'.a1 (ws.filter (pNw x)).length h'.c1)) ⟨⟨h', by rw [E.out.1, E.out.2.1, E.out.2.2]; rfl, by rw [E.out.1, E.out.2.1]; exact O3.out⟩, put2_below B2.out (by omega) _ _⟩
set_option maxRecDepth 100000 in
set_option maxHeartbeats 8000000 in
theorem law_FnExactFreeLocks (h : HL) (vs : List LK) (ws : List WK) (x : Int) (RV : List LK) (RW : List WK) (RC : Int) (w : World) (r0 : RdL w h vs ws) (m0 : vs.length ≤ maxLen) (m1 : ws.length ≤ maxLen) (fr0 : vs.length ≤ 1048576 → ws.length ≤ 1048576 → RV.length ≤ 1048576 ∧ RW.length ≤ 1048576)
    (cs : vs.length ≤ 1048576 → ws.length ≤ 1048576 → ∀ (W : World) (h : HL), Below w.heap.size w W → RdL W h vs ws → Calls Tryd.prog 28 #[.agg #[.slice h.a0 vs.length h.c0, .slice h.a1 ws.length h.c1], .int .i64 x] W fun e w' => (∃ h' : HL, e = .returned (.tuple #[.agg #[.slice h'.a0 RV.length h'.c0, .slice h'.a1 RW.length h'.c1], .int .i64 RC]) ∧ RdL w' h' RV RW) ∧ Below W.heap.size W w')
    (ci : vs.length ≤ 1048576 → ws.length ≤ 1048576 → ∀ (W : World) (h : HL), Below w.heap.size w W → RdL W h vs ws → Calls Tryd.prog 29 #[.agg #[.slice h.a0 vs.length h.c0, .slice h.a1 ws.length h.c1], .int .i64 x] W fun e w' => (∃ h' : HL, e = .returned (.tuple #[.agg #[.slice h'.a0 RV.length h'.c0, .slice h'.a1 RW.length h'.c1], .int .i64 RC]) ∧ OwnL w' W.heap.size h' RV RW) ∧ Below W.heap.size W w') :
    Calls Tryd.prog 7 #[.agg #[.slice h.a0 vs.length h.c0, .slice h.a1 ws.length h.c1], .int .i64 x] w fun e w' => e = .returned (.bool true) ∧ Below w.heap.size w w' := by
  have R : Hid (RdL w h vs ws) := r0
  have CS0 : Hid (vs.length ≤ 1048576 → ws.length ≤ 1048576 → ∀ (W : World) (h : HL), Below w.heap.size w W → RdL W h vs ws → Calls Tryd.prog 28 #[.agg #[.slice h.a0 vs.length h.c0, .slice h.a1 ws.length h.c1], .int .i64 x] W fun e w' => (∃ h' : HL, e = .returned (.tuple #[.agg #[.slice h'.a0 RV.length h'.c0, .slice h'.a1 RW.length h'.c1], .int .i64 RC]) ∧ RdL w' h' RV RW) ∧ Below W.heap.size W w') := cs
  have CI0 : Hid (vs.length ≤ 1048576 → ws.length ≤ 1048576 → ∀ (W : World) (h : HL), Below w.heap.size w W → RdL W h vs ws → Calls Tryd.prog 29 #[.agg #[.slice h.a0 vs.length h.c0, .slice h.a1 ws.length h.c1], .int .i64 x] W fun e w' => (∃ h' : HL, e = .returned (.tuple #[.agg #[.slice h'.a0 RV.length h'.c0, .slice h'.a1 RW.length h'.c1], .int .i64 RC]) ∧ OwnL w' W.heap.size h' RV RW) ∧ Below W.heap.size W w') := ci
  obtain ⟨V, hV⟩ : ∃ V, w.alloc (.cells #[.slice h.a0 vs.length h.c0, .slice h.a1 ws.length h.c1] 28) = V := ⟨_, rfl⟩
  have B : Hid (Below w.heap.size w V) := by unfold Hid; rw [← hV]; exact (Below.refl _ _).alloc (Nat.le_refl _) _
  have X : Hid (Box V w.heap.size 28 #[.slice h.a0 vs.length h.c0, .slice h.a1 ws.length h.c1]) := by unfold Hid; rw [← hV]; exact Box.new _ _ _
  have C := c_szL h vs ws V m0 m1
  clear r0 m0 m1 cs ci
  obtain ⟨x0, x1⟩ := box2 X.out
  go_enter Tryd.func7, Tryd.ntmps7
  go_wp2_with fail
  refine C.mono ?_
  rintro e w1 ⟨⟨z, rfl, hz⟩, hb⟩
  have B1 : Hid (Below w.heap.size w w1) := B.out.trans (hb.mono B.out.size)
  have X1 : Hid (Box w1 w.heap.size 28 #[.slice h.a0 vs.length h.c0, .slice h.a1 ws.length h.c1]) := X.out.belowS hb
  clear hb B X x0 x1 hV
  by_cases hneg : z < 0
  · clear hz
    go_wp2
    go_ret
    exact ⟨rfl, B1.out⟩
  obtain ⟨f0, f1⟩ := hz (by omega)
  obtain ⟨r1, r2⟩ := fr0 f0 f1
  obtain ⟨x0, x1⟩ := box2 X1.out
  have TO : Hid (∀ W, Below w.heap.size w W → Calls Tryd.prog 17 #[.agg #[.slice h.a0 vs.length h.c0, .slice h.a1 ws.length h.c1]] W fun e w' => (∃ h' : HL, e = .returned (.agg #[.slice h'.a0 vs.length h'.c0, .slice h'.a1 ws.length h'.c1]) ∧ OwnL w' W.heap.size h' vs ws) ∧ Below W.heap.size W w') := fun W hW => c_toL h vs ws W (R.out.below hW) f0 f1
  have EQ : Hid (∀ (W : World) (ha hb : HL), RdL W ha RV RW → RdL W hb RV RW → Calls Tryd.prog 19 #[.agg #[.slice ha.a0 RV.length ha.c0, .slice ha.a1 RW.length ha.c1], .agg #[.slice hb.a0 RV.length hb.c0, .slice hb.a1 RW.length hb.c1]] W fun e w' => e = .returned (.bool true) ∧ Below W.heap.size W w') := fun W ha hb q1 q2 => c_eqL ha hb RV RW W q1 q2 r1 r2
  have hneC : (RC != RC) = false := by simp
  clear hz fr0
  go_wp2_with fail
  refine (TO.out w1 B1.out).mono ?_
  rintro e w2 ⟨⟨h2, rfl, o2⟩, hb⟩
  have B2 : Hid (Below w.heap.size w w2) := B1.out.trans (hb.mono B1.out.size)
  have X2 : Hid (Box w2 w.heap.size 28 #[.slice h.a0 vs.length h.c0, .slice h.a1 ws.length h.c1]) := X1.out.belowS hb
  have O2 : Hid (RdL w2 h2 vs ws) := o2.rd
  clear hb o2 X1 B1 x0 x1
  go_wp2_with fail
  refine (CS0.out f0 f1 w2 h2 B2.out O2.out).mono ?_
  rintro e w3 ⟨⟨h3, rfl, o3⟩, hb⟩
  obtain ⟨w3b, hw3b⟩ : ∃ W, w3.alloc (.cells #[.slice h3.a0 RV.length h3.c0, .slice h3.a1 RW.length h3.c1] 34) = W := ⟨_, rfl⟩
  have hb3 : Below w3.heap.size w3 w3b := by rw [← hw3b]; exact (Below.refl _ _).alloc (Nat.le_refl _) _
  have B3 : Hid (Below w.heap.size w w3b) := (B2.out.trans (hb.mono B2.out.size)).trans (hb3.mono (Nat.le_trans B2.out.size hb.size))
  have X3 : Hid (Box w3b w.heap.size 28 #[.slice h.a0 vs.length h.c0, .slice h.a1 ws.length h.c1]) := (X2.out.belowS hb).belowS hb3
  have Z3 : Hid (Box w3b w3.heap.size 34 #[.slice h3.a0 RV.length h3.c0, .slice h3.a1 RW.length h3.c1]) := by unfold Hid; rw [← hw3b]; exact Box.new _ _ _
  have W3 : Hid (RdL w3b h3 RV RW) := o3.below hb3
  have lx3 : w.heap.size < w3b.heap.size := X3.out.lt
  have lz3 : w3.heap.size < w3b.heap.size := Z3.out.lt
  clear hb hb3 O2 X2 B2 o3
  obtain ⟨x0, x1⟩ := box2 X3.out
  go_wp2_with fail
  refine (TO.out w3b B3.out).mono ?_
  rintro e w4 ⟨⟨h4, rfl, o4⟩, hb⟩
  obtain ⟨w5, hw5⟩ : ∃ W, w4.alloc (.cells #[.slice h4.a0 vs.length h4.c0, .slice h4.a1 ws.length h4.c1] 34) = W := ⟨_, rfl⟩
  have hb5 : Below w4.heap.size w4 w5 := by rw [← hw5]; exact (Below.refl _ _).alloc (Nat.le_refl _) _
  have S5 : Hid (Below w3b.heap.size w3b w5) := hb.trans (hb5.mono hb.size)
  have Y5 : Hid (Box w5 w4.heap.size 34 #[.slice h4.a0 vs.length h4.c0, .slice h4.a1 ws.length h4.c1]) := by unfold Hid; rw [← hw5]; exact Box.new _ _ _
  have O5 : Hid (OwnL w5 w3b.heap.size h4 vs ws) := o4.below hb5
  have l4a : Hid (∀ b, ob h4.a0 = some b → w3b.heap.size ≤ b ∧ b < w4.heap.size) := own_rng o4.1
  have l4b : Hid (∀ b, ob h4.a1 = some b → w3b.heap.size ≤ b ∧ b < w4.heap.size) := own_rng o4.2.1
  have s34 : w3b.heap.size ≤ w4.heap.size := hb.size
  have ly5 : w4.heap.size < w5.heap.size := Y5.out.lt
  clear hb hb5 o4 x0 x1 hw3b
  obtain ⟨y0, y1⟩ := box2 Y5.out
  go_wp2_with fail
  refine (CI0.out f0 f1 w5 h4 (B3.out.trans (S5.out.mono B3.out.size)) O5.out.rd).mono ?_
  rintro e w6 ⟨⟨h6, rfl, o6⟩, hb⟩
  obtain ⟨w7, hw7⟩ : ∃ W, w6.alloc (.cells #[.slice h6.a0 RV.length h6.c0, .slice h6.a1 RW.length h6.c1] 34) = W := ⟨_, rfl⟩
  have hb7 : Below w6.heap.size w6 w7 := by rw [← hw7]; exact (Below.refl _ _).alloc (Nat.le_refl _) _
  have hb57 : Below w5.heap.size w5 w7 := hb.trans (hb7.mono hb.size)
  have S7 : Hid (Below w3b.heap.size w3b w7) := S5.out.trans (hb57.mono S5.out.size)
  have Y7 : Hid (Box w7 w4.heap.size 34 #[.slice h4.a0 vs.length h4.c0, .slice h4.a1 ws.length h4.c1]) := Y5.out.belowS hb57
  have O7 : Hid (OwnL w7 w3b.heap.size h4 vs ws) := O5.out.below hb57
  have G7 : Hid (Box w7 w6.heap.size 34 #[.slice h6.a0 RV.length h6.c0, .slice h6.a1 RW.length h6.c1]) := by unfold Hid; rw [← hw7]; exact Box.new _ _ _
  have P7 : Hid (OwnL w7 w5.heap.size h6 RV RW) := o6.below hb7
  have l6a : Hid (∀ b, ob h6.a0 = some b → w5.heap.size ≤ b ∧ b < w6.heap.size) := own_rng o6.1
  have l6b : Hid (∀ b, ob h6.a1 = some b → w5.heap.size ≤ b ∧ b < w6.heap.size) := own_rng o6.2.1
  have s56 : w5.heap.size ≤ w6.heap.size := hb.size
  have lg7 : w6.heap.size < w7.heap.size := G7.out.lt
  clear hb hb7 hb57 o6 y0 y1 hw5 S5 Y5 O5
  obtain ⟨g0, g1⟩ := box2 G7.out
  obtain ⟨z0, z1⟩ := box2 (Z3.out.belowS S7.out)
  go_wp2_with fail
  refine (EQ.out w7 h6 h3 P7.out.rd (W3.out.below S7.out)).mono ?_
  rintro e w8 ⟨rfl, hb⟩
  have T8 : Hid (Below w7.heap.size w7 w8) := hb
  have S8 : Hid (Below w3b.heap.size w3b w8) := S7.out.trans (hb.mono S7.out.size)
  clear hb g0 g1 z0 z1 hw7
  obtain ⟨x0, x1⟩ := box2 (X3.out.belowS S8.out)
  obtain ⟨y0, y1⟩ := box2 (Y7.out.belowS T8.out)
  go_upto_region 10 with fail
  go_cut [49] (fun s wx => s = .bool false ∧ Hid (Below w8.heap.size w8 wx))
  case first =>
    go_region_held3 (fun x => x.cell? ⟨w.heap.size, 0, none⟩ = some (.slice h.a0 vs.length h.c0) ∧ x.cell? ⟨w.heap.size, 1, none⟩ = some (.slice h.a1 ws.length h.c1) ∧ x.cell? ⟨w4.heap.size, 0, none⟩ = some (.slice h4.a0 vs.length h4.c0) ∧ x.cell? ⟨w4.heap.size, 1, none⟩ = some (.slice h4.a1 ws.length h4.c1))
      (first | go_keep | exact ⟨far6 hb9 x0, far6 hb9 x1, far6 hb9 y0, far6 hb9 y1⟩ | exact ⟨far6 hb10 (far6 hb9 x0), far6 hb10 (far6 hb9 x1), far6 hb10 (far6 hb9 y0), far6 hb10 (far6 hb9 y1)⟩)
      (first | (go_at_call 17; refine (TO.out _ (B3.out.trans ((below_drewN S8.out _).mono B3.out.size))).mono ?_; rintro e w9 ⟨⟨h9, rfl, o9⟩, hb9⟩)
             | (go_at_call 19; refine (c_eqL h4 h9 vs ws _ (((O7.out.below T8.out).rd.below (below_drewN (Below.refl _ _) _)).below hb9) o9.rd f0 f1).mono ?_; rintro e w10 ⟨rfl, hb10⟩))
    all_goals (go_wp2_with fail; go_meet)
    all_goals exact ⟨rfl, ((below_drewN (Below.refl _ _) _).trans hb9).trans (hb10.mono hb9.size)⟩
  case rest =>
    rename World => wx
    obtain ⟨rfl, HBx⟩ := hcut
    have Tx : Hid (Below w7.heap.size w7 wx) := T8.out.trans (HBx.out.mono T8.out.size)
    have Sx : Hid (Below w3b.heap.size w3b wx) := S8.out.trans (HBx.out.mono S8.out.size)
    clear HBx x0 x1 y0 y1 S8 T8
    obtain ⟨y0, y1⟩ := box2 (Y7.out.belowS Tx.out)
    have s7x : w7.heap.size ≤ wx.heap.size := Tx.out.size
    go_wp2_with fail
    refine (c_markL w3b.heap.size h4 vs ws wx (O7.out.below Tx.out) f0 f1).mono ?_
    rintro e wy ⟨⟨z1, rfl, hz1⟩, hk⟩
    have hz1' : ¬ z1 < 0 := by omega
    have Sy : Hid (Below w3b.heap.size w3b wy) := Sx.out.trans (hk.below Sx.out.size (fun b e => (l4a.out b e).1) (fun b e => (l4b.out b e).1))
    have Gy : Hid (Box wy w6.heap.size 34 #[.slice h6.a0 RV.length h6.c0, .slice h6.a1 RW.length h6.c1]) := hk.box (G7.out.belowS Tx.out) (fun e => by have := l4a.out _ e; omega) (fun e => by have := l4b.out _ e; omega)
    have Py : Hid (OwnL wy w5.heap.size h6 RV RW) := ⟨hk.own (P7.out.below Tx.out).1 (fun b e1 e2 => by have := l6a.out b e1; have := l4a.out b e2; omega) (fun b e1 e2 => by have := l6a.out b e1; have := l4b.out b e2; omega), hk.own (P7.out.below Tx.out).2.1 (fun b e1 e2 => by have := l6b.out b e1; have := l4a.out b e2; omega) (fun b e1 e2 => by have := l6b.out b e1; have := l4b.out b e2; omega), P7.out.2.2⟩
    have sxy : wx.heap.size ≤ wy.heap.size := hk.2.2.2.1
    clear hk y0 y1 hz1 Tx Sx Y7 O7 G7 P7
    obtain ⟨g0, g1⟩ := box2 Gy.out
    obtain ⟨z0, z1c⟩ := box2 (Z3.out.belowS Sy.out)
    go_wp2_with fail
    refine (EQ.out wy h6 h3 Py.out.rd (W3.out.below Sy.out)).mono ?_
    rintro e wz ⟨rfl, hb⟩
    have Sz : Hid (Below w3b.heap.size w3b wz) := Sy.out.trans (hb.mono Sy.out.size)
    have Gz : Hid (Box wz w6.heap.size 34 #[.slice h6.a0 RV.length h6.c0, .slice h6.a1 RW.length h6.c1]) := Gy.out.belowS hb
    have Pz : Hid (OwnL wz w5.heap.size h6 RV RW) := Py.out.below hb
    have syz : wy.heap.size ≤ wz.heap.size := hb.size
    clear hb g0 g1 z0 z1c Gy Py Sy
    obtain ⟨g0, g1⟩ := box2 Gz.out
    go_wp2_with fail
    refine (c_markL2 w5.heap.size h6 RV RW wz Pz.out r1 r2).mono ?_
    rintro e wm ⟨rfl, om, hk⟩
    have Sm : Hid (Below w3b.heap.size w3b wm) := Sz.out.trans (hk.below Sz.out.size (fun b e => by have := l6a.out b e; omega) (fun b e => by have := l6b.out b e; omega))
    have Gm : Hid (Box wm w6.heap.size 34 #[.slice h6.a0 RV.length h6.c0, .slice h6.a1 RW.length h6.c1]) := hk.box Gz.out (fun e => by have := l6a.out _ e; omega) (fun e => by have := l6b.out _ e; omega)
    have Mm : Hid (MarkedL wm w5.heap.size h6 RV.length RW.length) := om
    clear hk om g0 g1 Gz Pz Sz
    have nz : ¬ (1 + (RV.length : Int) * 4 + (RW.length : Int) * 2) < 0 := by omega
    have nq : ((1 + (RV.length : Int) * 4 + (RW.length : Int) * 2) != (1 + (RV.length : Int) * 4 + (RW.length : Int) * 2)) = false := by simp
    obtain ⟨g0, g1⟩ := box2 Gm.out
    go_wp2_with fail
    refine (c_heldL w5.heap.size RV.length RW.length h6 wm Mm.out r1 r2).mono ?_
    rintro e wn ⟨rfl, hb⟩
    have Sn : Hid (Below w3b.heap.size w3b wn) := Sm.out.trans (hb.mono Sm.out.size)
    have Gn : Hid (Box wn w6.heap.size 34 #[.slice h6.a0 RV.length h6.c0, .slice h6.a1 RW.length h6.c1]) := Gm.out.belowS hb
    have Mn : Hid (MarkedL wn w5.heap.size h6 RV.length RW.length) := Mm.out.below hb
    clear hb g0 g1 Gm Mm Sm
    obtain ⟨x0, x1⟩ := box2 (X3.out.belowS Sn.out)
    go_wp2_with fail
    refine (TO.out wn (B3.out.trans (Sn.out.mono B3.out.size))).mono ?_
    rintro e wo ⟨⟨h11, rfl, o11⟩, hb⟩
    have So : Hid (Below w3b.heap.size w3b wo) := Sn.out.trans (hb.mono Sn.out.size)
    have Go : Hid (Box wo w6.heap.size 34 #[.slice h6.a0 RV.length h6.c0, .slice h6.a1 RW.length h6.c1]) := Gn.out.belowS hb
    have Mo : Hid (MarkedL wo w5.heap.size h6 RV.length RW.length) := Mn.out.below hb
    have Oo : Hid (RdL wo h11 vs ws) := o11.rd
    clear hb o11 x0 x1 Sn Gn Mn
    go_wp2_with fail
    refine (CI0.out f0 f1 wo h11 (B3.out.trans (So.out.mono B3.out.size)) Oo.out).mono ?_
    rintro e wp ⟨⟨h12, rfl, o12⟩, hb⟩
    obtain ⟨wq, hwq⟩ : ∃ W, wp.alloc (.cells #[.slice h12.a0 RV.length h12.c0, .slice h12.a1 RW.length h12.c1] 34) = W := ⟨_, rfl⟩
    have hbq : Below wp.heap.size wp wq := by rw [← hwq]; exact (Below.refl _ _).alloc (Nat.le_refl _) _
    have hbb : Below wo.heap.size wo wq := hb.trans (hbq.mono hb.size)
    have Sq : Hid (Below w3b.heap.size w3b wq) := So.out.trans (hbb.mono So.out.size)
    have Gq : Hid (Box wq w6.heap.size 34 #[.slice h6.a0 RV.length h6.c0, .slice h6.a1 RW.length h6.c1]) := Go.out.belowS hbb
    have Mq : Hid (MarkedL wq w5.heap.size h6 RV.length RW.length) := Mo.out.below hbb
    have Hq : Hid (Box wq wp.heap.size 34 #[.slice h12.a0 RV.length h12.c0, .slice h12.a1 RW.length h12.c1]) := by unfold Hid; rw [← hwq]; exact Box.new _ _ _
    have Oq : Hid (RdL wq h12 RV RW) := o12.rd.below hbq
    clear hb hbq hbb o12 So Go Mo Oo
    obtain ⟨k0, k1⟩ := box2 Hq.out
    obtain ⟨z0, z1c⟩ := box2 (Z3.out.belowS Sq.out)
    go_wp2_with fail
    refine (EQ.out wq h12 h3 Oq.out (W3.out.below Sq.out)).mono ?_
    rintro e wr ⟨rfl, hb⟩
    have Sr : Hid (Below w3b.heap.size w3b wr) := Sq.out.trans (hb.mono Sq.out.size)
    have Gr : Hid (Box wr w6.heap.size 34 #[.slice h6.a0 RV.length h6.c0, .slice h6.a1 RW.length h6.c1]) := Gq.out.belowS hb
    have Mr : Hid (MarkedL wr w5.heap.size h6 RV.length RW.length) := Mq.out.below hb
    clear hb k0 k1 z0 z1c Sq Gq Mq Hq Oq hwq
    obtain ⟨g0, g1⟩ := box2 Gr.out
    go_wp2_with fail
    refine (c_heldL w5.heap.size RV.length RW.length h6 wr Mr.out r1 r2).mono ?_
    rintro e ws2 ⟨rfl, hb⟩
    have BZ : Hid (Below w.heap.size w ws2) := B3.out.trans ((Sr.out.trans (hb.mono Sr.out.size)).mono B3.out.size)
    clear hb g0 g1 Sr Gr Mr
    go_wp2
    go_ret
    exact ⟨rfl, BZ.out⟩

end Go.Proofs.YtmjacoocnkcilaaDoor
