/-
  TakeLock: the program's walk.
-/
import Derived.Test.YtmjacoocnkcilaaDoorLce
import Derived.Test.YtmjacoocnkcilaaDoorLca
namespace Go.Proofs.YtmjacoocnkcilaaDoor
open Go Go.RowKit
attribute [local go_sem ↓] Go.wp_at_zero Go.wp_at_succ

def tlV (vs : List LK) (ws : List WK) (x b r m : Int) : List LK := if okLs vs ws = true ∧ okK ⟨x, b, r, m⟩ = true then tkV vs x b r m else []
noncomputable def tlW (vs : List LK) (ws : List WK) (x b r m : Int) : List WK := if okLs vs ws = true ∧ okK ⟨x, b, r, m⟩ = true then tkW vs ws x b r m else []
noncomputable def tlC (vs : List LK) (ws : List WK) (x b r m : Int) : Int := if okLs vs ws = false then 1 else if okK ⟨x, b, r, m⟩ = false then 4 else tkC vs ws x b r m
theorem tl1 {vs : List LK} {ws : List WK} {x b r m : Int} (h : okLs vs ws = false) : tlV vs ws x b r m = [] ∧ tlW vs ws x b r m = [] ∧ tlC vs ws x b r m = 1 := by unfold tlV tlW tlC; rw [h]; exact ⟨rfl, rfl, rfl⟩
theorem tl4 {vs : List LK} {ws : List WK} {x b r m : Int} (h : okLs vs ws = true) (h2 : okK ⟨x, b, r, m⟩ = false) : tlV vs ws x b r m = [] ∧ tlW vs ws x b r m = [] ∧ tlC vs ws x b r m = 4 := by unfold tlV tlW tlC; rw [h, h2]; exact ⟨rfl, rfl, rfl⟩
theorem tl0 {vs : List LK} {ws : List WK} {x b r m : Int} (h : okLs vs ws = true) (h2 : okK ⟨x, b, r, m⟩ = true) : tlV vs ws x b r m = tkV vs x b r m ∧ tlW vs ws x b r m = tkW vs ws x b r m ∧ tlC vs ws x b r m = tkC vs ws x b r m := by unfold tlV tlW tlC; rw [h, h2, if_pos ⟨rfl, rfl⟩, if_pos ⟨rfl, rfl⟩]; exact ⟨rfl, rfl, rfl⟩
set_option maxRecDepth 100000 in
set_option maxHeartbeats 8000000 in
theorem c_implTL (h : HL) (vs : List LK) (ws : List WK) (x b r m : Int) (w : World) (rd : RdL w h vs ws) (f0 : vs.length ≤ 1048576) (f1 : ws.length ≤ 1048576) (ht : FitH w) (hz : TabZ w) (n0 : h.a0 = none → h.c0 = 0) (n1 : h.a1 = none → h.c1 = 0) :
    Calls Tryd.prog 34 #[.agg #[.slice h.a0 vs.length h.c0, .slice h.a1 ws.length h.c1], .int .i64 x, .int .i64 b, .int .i64 r, .int .i64 m] w fun e w' => (∃ h' : HL, e = .returned (.tuple #[.agg #[.slice h'.a0 (tlV vs ws x b r m).length h'.c0, .slice h'.a1 (tlW vs ws x b r m).length h'.c1], .int .i64 (tlC vs ws x b r m)]) ∧ OwnL w' w.heap.size h' (tlV vs ws x b r m) (tlW vs ws x b r m)) ∧ Below w.heap.size w w' := by
  have R : Hid (RdL w h vs ws) := rd
  have HT : Hid (FitH w) := ht
  have N0 : Hid (h.a0 = none → h.c0 = 0) := n0
  have N1 : Hid (h.a1 = none → h.c1 = 0) := n1
  have HZ : Hid (TabZ w) := hz
  have lz : 1 < w.heap.size := hz.lt
  obtain ⟨V0, hV0⟩ : ∃ V, w.alloc (.cells #[.slice h.a0 vs.length h.c0, .slice h.a1 ws.length h.c1] 34) = V := ⟨_, rfl⟩
  obtain ⟨V, hV⟩ : ∃ V, V0.alloc (.cells #[.slice none 0 0, .slice none 0 0] 34) = V := ⟨_, rfl⟩
  have hb0 : Below w.heap.size w V0 := by rw [← hV0]; exact (Below.refl _ _).alloc (Nat.le_refl _) _
  have hb1 : Below V0.heap.size V0 V := by rw [← hV]; exact (Below.refl _ _).alloc (Nat.le_refl _) _
  have B : Hid (Below w.heap.size w V) := hb0.trans (hb1.mono hb0.size)
  have X : Hid (Box V w.heap.size 34 #[.slice h.a0 vs.length h.c0, .slice h.a1 ws.length h.c1]) := (show Box V0 w.heap.size 34 #[.slice h.a0 vs.length h.c0, .slice h.a1 ws.length h.c1] by rw [← hV0]; exact Box.new _ _ _).belowS hb1
  have Y : Hid (Box V V0.heap.size 34 #[.slice none 0 0, .slice none 0 0]) := by unfold Hid; rw [← hV]; exact Box.new _ _ _
  have l0 : w.heap.size < V0.heap.size := by rw [← hV0]; simp
  obtain ⟨x0, x1⟩ := box2 X.out
  obtain ⟨p, hp⟩ : ∃ p, okLs vs ws = p := ⟨_, rfl⟩
  obtain ⟨q, hq⟩ : ∃ q, okK ⟨x, b, r, m⟩ = q := ⟨_, rfl⟩
  have C : Hid (Calls Tryd.prog 18 #[.agg #[.slice h.a0 vs.length h.c0, .slice h.a1 ws.length h.c1]] V fun e w' => e = .returned (.bool p) ∧ Below V.heap.size V w') := by unfold Hid; rw [← hp]; exact c_implLO h vs ws V (R.out.below B.out) f0 f1 (ht.below B.out)
  have CK : Hid (∀ W : World, Calls Tryd.prog 53 #[.agg #[.int .i64 x, .int .i64 b, .int .i64 r, .int .i64 m]] W fun e w' => e = .returned (.bool q) ∧ Below W.heap.size W w') := fun W => by rw [← hq]; exact c_isLock x b r m W
  clear rd ht hz hb0 hb1 n0 n1
  go_enter Tryd.func34, Tryd.ntmps34
  go_wp2_with fail
  refine C.out.mono ?_
  rintro e w1 ⟨rfl, hb⟩
  have B1 : Hid (Below w.heap.size w w1) := B.out.trans (hb.mono B.out.size)
  have X1 : Hid (Box w1 w.heap.size 34 #[.slice h.a0 vs.length h.c0, .slice h.a1 ws.length h.c1]) := X.out.belowS hb
  have Y1 : Hid (Box w1 V0.heap.size 34 #[.slice none 0 0, .slice none 0 0]) := Y.out.belowS hb
  clear hb x0 x1 C X Y B
  obtain ⟨y0, y1⟩ := box2 Y1.out
  obtain ⟨t0, t1⟩ := thaw2 Y1.out
  cases p
  · have E : Hid (_ ∧ _ ∧ _) := tl1 (x := x) (b := b) (r := r) (m := m) hp
    clear hp hq
    go_wp2
    refine retLc Tryd.results34 rfl rfl rfl (put2_box Y1.out (.slice none 0 0) (.slice none 0 0)) ⟨⟨⟨none, 0, none, 0⟩, by rw [E.out.1, E.out.2.1, E.out.2.2]; rfl, by rw [E.out.1, E.out.2.1]; exact own_none _ _⟩, put2_below B1.out (by omega) _ _⟩
  obtain ⟨w2, hw2⟩ : ∃ W, w1.alloc (.cells #[.int .i64 x, .int .i64 b, .int .i64 r, .int .i64 m] 55) = W := ⟨_, rfl⟩
  have hb2 : Below w1.heap.size w1 w2 := by rw [← hw2]; exact (Below.refl _ _).alloc (Nat.le_refl _) _
  have K2 : Hid (Box w2 w1.heap.size 55 #[.int .i64 x, .int .i64 b, .int .i64 r, .int .i64 m]) := by unfold Hid; rw [← hw2]; exact Box.new _ _ _
  have B2 : Hid (Below w.heap.size w w2) := B1.out.trans (hb2.mono B1.out.size)
  have X2 : Hid (Box w2 w.heap.size 34 #[.slice h.a0 vs.length h.c0, .slice h.a1 ws.length h.c1]) := X1.out.belowS hb2
  have Y2 : Hid (Box w2 V0.heap.size 34 #[.slice none 0 0, .slice none 0 0]) := Y1.out.belowS hb2
  have l1 : V0.heap.size < w1.heap.size := Y1.out.lt
  clear hb2 X1 B1 Y1 y0 y1 t0 t1
  have q0 := K2.out.cell 0
  have q1 := K2.out.cell 1
  have q2 := K2.out.cell 2
  have q3 := K2.out.cell 3
  simp only [List.getElem?_toArray, List.getElem?_cons_zero, List.getElem?_cons_succ] at q0 q1 q2 q3
  go_wp2_with fail
  refine (CK.out w2).mono ?_
  rintro e w3 ⟨rfl, hb⟩
  have B3 : Hid (Below w.heap.size w w3) := B2.out.trans (hb.mono B2.out.size)
  have X3 : Hid (Box w3 w.heap.size 34 #[.slice h.a0 vs.length h.c0, .slice h.a1 ws.length h.c1]) := X2.out.belowS hb
  have Y3 : Hid (Box w3 V0.heap.size 34 #[.slice none 0 0, .slice none 0 0]) := Y2.out.belowS hb
  have K3 : Hid (Box w3 w1.heap.size 55 #[.int .i64 x, .int .i64 b, .int .i64 r, .int .i64 m]) := K2.out.belowS hb
  have l3 : w1.heap.size < w3.heap.size := K3.out.lt
  clear hb q0 q1 q2 q3 X2 K2 B2 Y2 CK hw2
  obtain ⟨y0, y1⟩ := box2 Y3.out
  obtain ⟨t0, t1⟩ := thaw2 Y3.out
  cases q
  · have E : Hid (_ ∧ _ ∧ _) := tl4 hp hq
    clear hp hq
    go_wp2
    refine retLc Tryd.results34 rfl rfl rfl (put2_box Y3.out (.slice none 0 0) (.slice none 0 0)) ⟨⟨⟨none, 0, none, 0⟩, by rw [E.out.1, E.out.2.1, E.out.2.2]; rfl, by rw [E.out.1, E.out.2.1]; exact own_none _ _⟩, put2_below B3.out (by omega) _ _⟩
  have E : Hid (_ ∧ _ ∧ _) := tl0 hp hq
  have HP : Hid (okLs vs ws = true) := hp
  have HQ : Hid (okK ⟨x, b, r, m⟩ = true) := hq
  clear hp hq
  obtain ⟨x0, x1⟩ := box2 X3.out
  obtain ⟨s0, s1⟩ := thaw2 X3.out
  go_wp2_with fail
  refine (c_copyL h vs ws w3 (R.out.below B3.out) f0 f1 N0.out N1.out).mono ?_
  rintro e w4 ⟨⟨h4, rfl, o4⟩, hb⟩
  have B4 : Hid (Below w.heap.size w w4) := B3.out.trans (hb.mono B3.out.size)
  have X4 : Hid (Box w4 w.heap.size 34 #[.slice h.a0 vs.length h.c0, .slice h.a1 ws.length h.c1]) := X3.out.belowS hb
  have Y4 : Hid (Box w4 V0.heap.size 34 #[.slice none 0 0, .slice none 0 0]) := Y3.out.belowS hb
  have K4 : Hid (Box w4 w1.heap.size 55 #[.int .i64 x, .int .i64 b, .int .i64 r, .int .i64 m]) := K3.out.belowS hb
  have l4 : w3.heap.size ≤ w4.heap.size := hb.size
  have O4 : Hid (OwnL w4 w3.heap.size h4 vs ws) := o4
  clear hb o4 x0 x1 s0 s1 X3 K3 Y3 y0 y1 t0 t1
  obtain ⟨x0, x1⟩ := box2 X4.out
  obtain ⟨s0, s1⟩ := thaw2 X4.out
  obtain ⟨w5, hw5⟩ : ∃ W, put2 w4 w.heap.size (.slice h4.a0 vs.length h4.c0) (.slice h4.a1 ws.length h4.c1) = W := ⟨_, rfl⟩
  have i5 : Inn w.heap.size (w.heap.size + 1) w4 w5 := by rw [← hw5]; exact put2_inn _ _
  have X5 : Hid (Box w5 w.heap.size 34 #[.slice h4.a0 vs.length h4.c0, .slice h4.a1 ws.length h4.c1]) := by unfold Hid; rw [← hw5]; exact put2_box X4.out _ _
  have Y5 : Hid (Box w5 V0.heap.size 34 #[.slice none 0 0, .slice none 0 0]) := Y4.out.innO i5 (.inr (by omega))
  have K5 : Hid (Box w5 w1.heap.size 55 #[.int .i64 x, .int .i64 b, .int .i64 r, .int .i64 m]) := K4.out.innO i5 (.inr (by omega))
  have ra := own_rng O4.out.1
  have rb := own_rng O4.out.2.1
  have O5 : Hid (OwnL w5 w3.heap.size h4 vs ws) := ⟨own_inn O4.out.1 i5 (fun k hk => .inr (by have := ra k hk; omega)), own_inn O4.out.2.1 i5 (fun k hk => .inr (by have := rb k hk; omega)), O4.out.2.2⟩
  have B5 : Hid (Below w.heap.size w w5) := B4.out.trans (i5.below (Nat.le_refl _) B4.out.size)
  have l5 : w4.heap.size ≤ w5.heap.size := i5.size
  unfold put2 at hw5
  clear ra rb i5 X4 Y4 K4 O4 B4
  have q0 := K5.out.cell 0
  have q1 := K5.out.cell 1
  have q2 := K5.out.cell 2
  have q3 := K5.out.cell 3
  simp only [List.getElem?_toArray, List.getElem?_cons_zero, List.getElem?_cons_succ] at q0 q1 q2 q3
  go_wp2_with fail
  refine (c_take w.heap.size w3.heap.size h4 vs ws x b r m w5 X5.out O5.out (by omega) (by omega) HP.out HQ.out (HT.out.below B5.out) (HZ.out.below B5.out) lz).mono ?_
  rintro e w6 ⟨rfl, ⟨h6, bx6, o6⟩, k6⟩
  have Y6 : Hid (Box w6 V0.heap.size 34 #[.slice none 0 0, .slice none 0 0]) := k6.box Y5.out (by omega) (by omega)
  have B6 : Hid (Below w.heap.size w w6) := B5.out.trans k6.1
  have O6 : Hid (OwnL w6 w3.heap.size h6 (tkV vs x b r m) (tkW vs ws x b r m)) := o6
  have ra := own_rng o6.1
  have rb := own_rng o6.2.1
  obtain ⟨U, hU⟩ : ∃ U, tkV vs x b r m = U := ⟨_, rfl⟩
  obtain ⟨T, hT⟩ : ∃ T, tkW vs ws x b r m = T := ⟨_, rfl⟩
  obtain ⟨c, hc⟩ : ∃ c, tkC vs ws x b r m = c := ⟨_, rfl⟩
  rw [hU, hT] at bx6 O6
  rw [hU, hT, hc] at E
  rw [hc]
  clear hU hT hc o6 k6 x0 x1 s0 s1 q0 q1 q2 q3 hw5
  obtain ⟨x0, x1⟩ := box2 bx6
  obtain ⟨y0, y1⟩ := box2 Y6.out
  obtain ⟨t0, t1⟩ := thaw2 Y6.out
  have O7 : Hid (OwnL (put2 w6 V0.heap.size (.slice h6.a0 U.length h6.c0) (.slice h6.a1 T.length h6.c1)) w.heap.size h6 U T) :=
    ⟨(own_inn O6.out.1 (put2_inn _ _) (fun k hk => .inr (by have := ra k hk; omega))).down B3.out.size, (own_inn O6.out.2.1 (put2_inn _ _) (fun k hk => .inr (by have := rb k hk; omega))).down B3.out.size, O6.out.2.2⟩
  clear bx6 ra rb
  go_wp2
  exact retLc Tryd.results34 rfl rfl rfl (put2_box Y6.out (.slice h6.a0 U.length h6.c0) (.slice h6.a1 T.length h6.c1)) ⟨⟨h6, by rw [E.out.1, E.out.2.1, E.out.2.2]; rfl, by rw [E.out.1, E.out.2.1]; exact O7.out⟩, put2_below B6.out (by omega) _ _⟩

end Go.Proofs.YtmjacoocnkcilaaDoor
