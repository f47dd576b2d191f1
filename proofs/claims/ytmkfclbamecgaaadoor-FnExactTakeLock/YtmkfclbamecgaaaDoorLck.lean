/-
  TakeLock: the specification's walk.
-/
import Derived.Test.YtmkfclbamecgaaaDoorLcj
import Derived.Test.YtmkfclbamecgaaaDoorLcf
namespace Go.Proofs.YtmkfclbamecgaaaDoor
open Go Go.RowKit
attribute [local go_sem ↓] Go.wp_at_zero Go.wp_at_succ

set_option maxRecDepth 100000 in
set_option maxHeartbeats 8000000 in
theorem c_specTL (h : HL) (vs : List LK) (ws : List WK) (x b r m : Int) (w : World) (rd : RdL w h vs ws) (f0 : vs.length ≤ 1048576) (f1 : ws.length ≤ 1048576) (n0 : h.a0 = none → h.c0 = 0) (n1 : h.a1 = none → h.c1 = 0) :
    Calls Tryd.prog 33 #[.agg #[.slice h.a0 vs.length h.c0, .slice h.a1 ws.length h.c1], .int .i64 x, .int .i64 b, .int .i64 r, .int .i64 m] w fun e w' => (∃ h' : HL, e = .returned (.tuple #[.agg #[.slice h'.a0 (tlV vs ws x b r m).length h'.c0, .slice h'.a1 (tlW vs ws x b r m).length h'.c1], .int .i64 (tlC vs ws x b r m)]) ∧ OwnL w' w.heap.size h' (tlV vs ws x b r m) (tlW vs ws x b r m)) ∧ Below w.heap.size w w' := by
  have R : Hid (RdL w h vs ws) := rd
  have N0 : Hid (h.a0 = none → h.c0 = 0) := n0
  have N1 : Hid (h.a1 = none → h.c1 = 0) := n1
  obtain ⟨V0, hV0⟩ : ∃ V, w.alloc (.cells #[.slice h.a0 vs.length h.c0, .slice h.a1 ws.length h.c1] 34) = V := ⟨_, rfl⟩
  obtain ⟨V, hV⟩ : ∃ V, V0.alloc (.cells #[.slice none 0 0, .slice none 0 0] 34) = V := ⟨_, rfl⟩
  have hb0 : Below w.heap.size w V0 := by rw [← hV0]; exact (Below.refl _ _).alloc (Nat.le_refl _) _
  have hb1 : Below V0.heap.size V0 V := by rw [← hV]; exact (Below.refl _ _).alloc (Nat.le_refl _) _
  have B : Hid (Below w.heap.size w V) := hb0.trans (hb1.mono hb0.size)
  have X : Hid (Box V w.heap.size 34 #[.slice h.a0 vs.length h.c0, .slice h.a1 ws.length h.c1]) := (show Box V0 w.heap.size 34 #[.slice h.a0 vs.length h.c0, .slice h.a1 ws.length h.c1] by rw [← hV0]; exact Box.new _ _ _).belowS hb1
  have Y : Hid (Box V V0.heap.size 34 #[.slice none 0 0, .slice none 0 0]) := by unfold Hid; rw [← hV]; exact Box.new _ _ _
  have l0 : w.heap.size < V0.heap.size := by rw [← hV0]; simp
  obtain ⟨x0, x1⟩ := box2 X.out
  obtain ⟨p, hp⟩ : ∃ p, okLs vs ws = p := ⟨_, rfl⟩
  obtain ⟨q, hq⟩ : ∃ q, okK ⟨x, b, r, m⟩ = q := ⟨_, rfl⟩
  have C : Hid (Calls Tryd.prog 16 #[.agg #[.slice h.a0 vs.length h.c0, .slice h.a1 ws.length h.c1]] V fun e w' => e = .returned (.bool p) ∧ Below V.heap.size V w') := by unfold Hid; rw [← hp]; exact c_specLO h vs ws V (R.out.below B.out) f0 f1
  have CK : Hid (∀ W : World, Calls Tryd.prog 45 #[.int .i64 x, .int .i64 b, .int .i64 r, .int .i64 m] W fun e w' => e = .returned (.bool q) ∧ w' = W) := fun W => by rw [← hq]; exact c_ask x b r m W
  clear rd hb0 hb1 n0 n1
  go_enter Tryd.func33, Tryd.ntmps33
  go_wp2_with fail
  refine C.out.mono ?_
  rintro e w1 ⟨rfl, hb⟩
  have B1 : Hid (Below w.heap.size w w1) := B.out.trans (hb.mono B.out.size)
  have X1 : Hid (Box w1 w.heap.size 34 #[.slice h.a0 vs.length h.c0, .slice h.a1 ws.length h.c1]) := X.out.belowS hb
  have Y1 : Hid (Box w1 V0.heap.size 34 #[.slice none 0 0, .slice none 0 0]) := Y.out.belowS hb
  clear hb x0 x1 C X Y B
  obtain ⟨x0, x1⟩ := box2 X1.out
  obtain ⟨y0, y1⟩ := box2 Y1.out
  obtain ⟨t0, t1⟩ := thaw2 Y1.out
  cases p
  · have E : Hid (_ ∧ _ ∧ _) := tl1 (x := x) (b := b) (r := r) (m := m) hp
    clear hp hq
    go_wp2
    refine retLc Tryd.results33 rfl rfl rfl (put2_box Y1.out (.slice none 0 0) (.slice none 0 0)) ⟨⟨⟨none, 0, none, 0⟩, by rw [E.out.1, E.out.2.1, E.out.2.2]; rfl, by rw [E.out.1, E.out.2.1]; exact own_none _ _⟩, put2_below B1.out (by omega) _ _⟩
  go_wp2_with fail
  refine (CK.out w1).mono ?_
  rintro e wq ⟨rfl, hwq⟩; rw [hwq]; clear hwq
  cases q
  · have E : Hid (_ ∧ _ ∧ _) := tl4 hp hq
    clear hp hq
    go_wp2
    refine retLc Tryd.results33 rfl rfl rfl (put2_box Y1.out (.slice none 0 0) (.slice none 0 0)) ⟨⟨⟨none, 0, none, 0⟩, by rw [E.out.1, E.out.2.1, E.out.2.2]; rfl, by rw [E.out.1, E.out.2.1]; exact own_none _ _⟩, put2_below B1.out (by omega) _ _⟩
  have E : Hid (_ ∧ _ ∧ _) := tl0 hp hq
  have HP : Hid (okLs vs ws = true) := hp
  have HQ : Hid (okK ⟨x, b, r, m⟩ = true) := hq
  clear hp hq
  have l1 : V0.heap.size < w1.heap.size := Y1.out.lt
  go_wp2_with fail
  refine (c_l06Take h vs ws x b r m w1 (R.out.below B1.out) HP.out HQ.out N0.out N1.out).mono ?_
  rintro e w2 ⟨⟨h6, rfl, o2⟩, hb⟩
  have Y6 : Hid (Box w2 V0.heap.size 34 #[.slice none 0 0, .slice none 0 0]) := Y1.out.belowS hb
  have B6 : Hid (Below w.heap.size w w2) := B1.out.trans (hb.mono B1.out.size)
  have O6 : Hid (OwnL w2 w1.heap.size h6 (tkV vs x b r m) (tkW vs ws x b r m)) := o2
  have ra := own_rng o2.1
  have rb := own_rng o2.2.1
  obtain ⟨U, hU⟩ : ∃ U, tkV vs x b r m = U := ⟨_, rfl⟩
  obtain ⟨T, hT⟩ : ∃ T, tkW vs ws x b r m = T := ⟨_, rfl⟩
  obtain ⟨c, hc⟩ : ∃ c, tkC vs ws x b r m = c := ⟨_, rfl⟩
  rw [hU, hT] at O6
  rw [hU, hT, hc] at E
  rw [hU, hT, hc]
  clear hU hT hc o2 hb x0 x1 y0 y1 t0 t1
  obtain ⟨y0, y1⟩ := box2 Y6.out
  obtain ⟨t0, t1⟩ := thaw2 Y6.out
  have O7 : Hid (OwnL (put2 w2 V0.heap.size (.slice h6.a0 U.length h6.c0) (.slice h6.a1 T.length h6.c1)) w.heap.size h6 U T) :=
    ⟨(own_inn O6.out.1 (put2_inn _ _) (fun k hk => .inr (by have := ra k hk; omega))).down B1.out.size, (own_inn O6.out.2.1 (put2_inn _ _) (fun k hk => .inr (by have := rb k hk; omega))).down B1.out.size, O6.out.2.2⟩
  clear ra rb
  go_wp2
  exact retLc Tryd.results33 rfl rfl rfl (put2_box Y6.out (.slice h6.a0 U.length h6.c0) (.slice h6.a1 T.length h6.c1)) ⟨⟨h6, by rw [E.out.1, E.out.2.1, E.out.2.2]; rfl, by rw [E.out.1, E.out.2.1]; exact O7.out⟩, put2_below B6.out (by omega) _ _⟩

end Go.Proofs.YtmkfclbamecgaaaDoor
