/-
  The record that is drawn: the walk.
-/
import Derived.Test.YtbjefhdacfijpaaDoorZc
import Derived.Test.YtbjefhdacfijpaaDoorZe
namespace Go.Proofs.YtbjefhdacfijpaaDoor
open Go Go.RowKit
attribute [local go_sem ↓] Go.wp_at_zero Go.wp_at_succ


theorem put10_inn {w0 w wc : World} {g n c T r : Nat} {a : Option Addr} {zs : List Int} {D : DR} (h : LS w0 w g a n c zs wc T r D) (D' : DR) : Inn g (g + 1) w (put10 wc w.heap.size D') := by
  have hb : Below w.heap.size wc (put10 wc w.heap.size D') := put10_below (Below.refl _ _) (Nat.le_refl _) _
  exact ⟨hb.os.trans h.inn.os, hb.tape.trans h.inn.tape, hb.output.trans h.inn.output, Nat.le_trans h.inn.size hb.size, fun k hk ho => (hb.block k hk).trans (h.inn.block k hk ho)⟩
theorem ok_step {D : DR} (h1 : 1 ≤ D.e ∧ D.e ≤ 60) (h2 : 1 ≤ D.l ∧ D.l ≤ 60) (h3 : stepB D = true) : okLR D = true := by
  have a1 : inB D.e 1 60 = true := by unfold inB; exact decide_eq_true h1
  have a2 : inB D.l 1 60 = true := by unfold inB; exact decide_eq_true h2
  unfold okLR; rw [a1, a2, h3]; rfl
theorem ok_six {e l : Int} {x : ByteArray} (h1 : 1 ≤ e ∧ e ≤ 60) (h2 : 1 ≤ l ∧ l ≤ 60) (h3 : ckB (numsT x) l = true) : okLR ⟨e, l, 0, 6, 0, 0, 0, 0, ⟨#[]⟩, x⟩ = true := by
  have a1 : inB e 1 60 = true := by unfold inB; exact decide_eq_true h1
  have a2 : inB l 1 60 = true := by unfold inB; exact decide_eq_true h2
  have a3 : checkB ⟨e, l, 0, 6, 0, 0, 0, 0, ⟨#[]⟩, x⟩ = true := by unfold checkB; rw [h3]; rfl
  unfold okLR
  rw [a3]
  show (inB e 1 60 && (inB l 1 60 && (stepB _ || true))) = true
  rw [a1, a2, Bool.or_true]; rfl
def chkT (n : Nat) (x y x' y' : Int) : ByteArray := strOfNums ((([(n : Int)] ++ chkP n x y) ++ [(n : Int)]) ++ chkP n x' y')
theorem c_chkT (n : Nat) (a a' : Option Addr) (c c' : Nat) (x y x' y' : Int) (w : World) (hn : n ≤ 1) (hp : n = 1 → PairAt w a x y) (hp' : n = 1 → PairAt w a' x' y') (hx : 0 ≤ x ∧ x < 256 ∧ 0 ≤ y ∧ y < 256) (hx' : 0 ≤ x' ∧ x' < 256 ∧ 0 ≤ y' ∧ y' < 256) :
    Calls Tryd.prog 151 #[.slice a n c, .slice a' n c'] w fun e w' => e = .returned (.string (chkT n x y x' y')) ∧ Below w.heap.size w w' := c_chk n a a' c c' x y x' y' w hn hp hp' hx hx'
theorem ck_all : ∀ l : Fin 61, 2 ≤ l.val → ckB [1, 1, 1, 1, 1, (l.val : Int) - 1] (l.val : Int) = true := by decide
theorem ck_one (l : Nat) (h1 : 2 ≤ l) (h2 : l ≤ 60) : ckB (numsT (chkT 1 1 1 1 ((l : Int) - 1))) (l : Int) = true := by
  unfold chkT
  rw [numsT_son (xs := ([((1 : Nat) : Int)] ++ chkP 1 1 1) ++ [((1 : Nat) : Int)] ++ chkP 1 1 ((l : Int) - 1)) (by intro z hz; simp [chkP] at hz; omega)]
  exact ck_all ⟨l, by omega⟩ h1
theorem ck_zero : ckB (numsT (chkT 0 0 0 0 0)) 1 = true := by
  unfold chkT
  rw [numsT_son (xs := ([((0 : Nat) : Int)] ++ chkP 0 0 0) ++ [((0 : Nat) : Int)] ++ chkP 0 0 0) (by intro z hz; simp [chkP] at hz; omega)]
  rfl
set_option maxRecDepth 100000 in
set_option maxHeartbeats 8000000 in
theorem c_logRec (w0 w : World) (g : Nat) (a : Option Addr) (n c T : Nat) (zs : List Int) (lsn : Nat) (h : Drw w0 w g a n c T zs) (hT : T ≤ 1000) (hl : 1 ≤ lsn ∧ lsn ≤ 60) :
    Calls Tryd.prog 94 #[.pointer (some ⟨g, 0, none⟩), .int .i64 (lsn : Int)] w fun e w' => (∃ D : DR, e = .returned (.agg (agR D)) ∧ okLR D = true) ∧ Inn g (g + 1) w w' := by
  obtain ⟨V, hV⟩ : ∃ V, w.alloc (.cells #[.int .i64 0, .int .i64 0, .int .i64 0, .int .i64 0, .int .i64 0, .int .i64 0, .int .i64 0, .int .i64 0, .string ⟨#[]⟩, .string ⟨#[]⟩] 28) = V := ⟨_, rfl⟩
  have hVb : Below w.heap.size w V := by rw [← hV]; exact (Below.refl _ _).alloc (Nat.le_refl _) _
  have gl : g < w.heap.size := h.src.lt
  have I0 : Hid (Inn g (g + 1) w V) := Inn.of_below hVb
  have D0 : Hid (Drw w0 V g a n c T zs) := h.below hVb
  have R0 : Hid (Box V w.heap.size 28 #[.int .i64 0, .int .i64 0, .int .i64 0, .int .i64 0, .int .i64 0, .int .i64 0, .int .i64 0, .int .i64 0, .string ⟨#[]⟩, .string ⟨#[]⟩]) := by unfold Hid; rw [← hV]; exact Box.new _ _ _
  clear hVb h
  go_enter Tryd.func94, Tryd.ntmps94
  go_wp2_with fail
  refine (c_next w0 V g a n c (T + 0) zs 2 D0.out (by omega) (by omega)).mono ?_
  rintro e w1 ⟨⟨e1, rfl, e1l, e1h⟩, hd, hi⟩
  have I1 : Hid (Inn g (g + 1) w w1) := I0.out.trans hi
  have D1 : Hid (Drw w0 w1 g a n c (T + 1) zs) := hd
  have R1 : Hid (Box w1 w.heap.size 28 #[.int .i64 0, .int .i64 0, .int .i64 0, .int .i64 0, .int .i64 0, .int .i64 0, .int .i64 0, .int .i64 0, .string ⟨#[]⟩, .string ⟨#[]⟩]) := R0.out.innO hi (.inr (by omega))
  clear hd hi I0 D0 R0
  go_wp2_with fail
  refine (c_next w0 w1 g a n c (T + 1) zs 3 D1.out (by omega) (by omega)).mono ?_
  rintro e w2 ⟨⟨e2, rfl, e2l, e2h⟩, hd, hi⟩
  have I2 : Hid (Inn g (g + 1) w w2) := I1.out.trans hi
  have D2 : Hid (Drw w0 w2 g a n c (T + 2) zs) := hd
  have R2 : Hid (Box w2 w.heap.size 28 #[.int .i64 0, .int .i64 0, .int .i64 0, .int .i64 0, .int .i64 0, .int .i64 0, .int .i64 0, .int .i64 0, .string ⟨#[]⟩, .string ⟨#[]⟩]) := R1.out.innO hi (.inr (by omega))
  clear hd hi I1 D1 R1
  go_wp2_with fail
  refine (c_next w0 w2 g a n c (T + 2) zs 6 D2.out (by omega) (by omega)).mono ?_
  rintro e w3 ⟨⟨e3, rfl, e3l, e3h⟩, hd, hi⟩
  have I3 : Hid (Inn g (g + 1) w w3) := I2.out.trans hi
  have D3 : Hid (Drw w0 w3 g a n c (T + 3) zs) := hd
  have R3 : Hid (Box w3 w.heap.size 28 #[.int .i64 0, .int .i64 0, .int .i64 0, .int .i64 0, .int .i64 0, .int .i64 0, .int .i64 0, .int .i64 0, .string ⟨#[]⟩, .string ⟨#[]⟩]) := R2.out.innO hi (.inr (by omega))
  clear hd hi I2 D2 R2
  have l3 : w.heap.size < w3.heap.size := R3.out.lt
  by_cases hl1 : lsn = 1
  · subst hl1
    have hk : e3 = 0 ∨ e3 = 1 ∨ e3 = 2 ∨ e3 = 3 ∨ e3 = 4 ∨ e3 = 5 := by omega
    rcases hk with rfl | rfl | rfl | rfl | rfl | rfl
    · skip
      obtain ⟨x4, hx4⟩ : ∃ W, w3.alloc (.cells #[.int .i64 0, .int .i64 0, .int .i64 0, .int .i64 0, .int .i64 0, .int .i64 0, .int .i64 0, .int .i64 0, .string ⟨#[]⟩, .string ⟨#[]⟩] 28) = W := ⟨_, rfl⟩
      have bx : Box x4 w3.heap.size 28 #[.int .i64 0, .int .i64 0, .int .i64 0, .int .i64 0, .int .i64 0, .int .i64 0, .int .i64 0, .int .i64 0, .string ⟨#[]⟩, .string ⟨#[]⟩] := by rw [← hx4]; exact Box.new _ _ _
      obtain ⟨y0, y1, y2, y3, y4, y5, y6, y7, y8, y9⟩ := box10 bx
      obtain ⟨u0, u1, u2, u3, u4, u5, u6, u7, u8, u9⟩ := thaw10 bx
      obtain ⟨w4, hp4⟩ : ∃ W, put10 x4 w3.heap.size ⟨1 + e1, 1, 1 + e2, 1, 0, 0, 0, 0, ⟨#[]⟩, ⟨#[]⟩⟩ = W := ⟨_, rfl⟩
      have hw4 := hp4
      unfold put10 at hw4
      dsimp only at hw4
      have hb4 : Below w3.heap.size w3 w4 := by rw [← hp4]; exact put10_below (by rw [← hx4]; exact (Below.refl _ _).alloc (Nat.le_refl _) _) (Nat.le_refl _) _
      have L4 : Hid (LS w0 w g a n c zs w4 (T + 3) w3.heap.size ⟨1 + e1, 1, 1 + e2, 1, 0, 0, 0, 0, ⟨#[]⟩, ⟨#[]⟩⟩) := ⟨I3.out.trans (Inn.of_below hb4), D3.out.below hb4, R3.out.belowS hb4, by rw [← hp4]; exact put10_box (D0 := zeroR) bx _, l3, gl⟩
      obtain ⟨c0, c1, c2, c3, c4, c5, c6, c7, c8, c9⟩ := box10 L4.out.bx
      obtain ⟨z0, z1, z2, z3, z4, z5, z6, z7, z8, z9⟩ := thaw10 L4.out.bx
      clear bx hb4 hp4
      obtain ⟨w5, hw5⟩ : ∃ W, w4.setCell ⟨w3.heap.size, 3, none⟩ (.int .i64 (1)) = W := ⟨_, rfl⟩
      have L5 : Hid (LS w0 w g a n c zs w5 (T + 3) w3.heap.size ⟨1 + e1, 1, 1 + e2, 1, 0, 0, 0, 0, ⟨#[]⟩, ⟨#[]⟩⟩) := by unfold Hid; rw [← hw5]; exact L4.out.store 3 _ _ rfl
      obtain ⟨d0, d1, d2, d3, d4, d5, d6, d7, d8, d9⟩ := box10 L5.out.bx
      obtain ⟨q0, q1, q2, q3, q4, q5, q6, q7, q8, q9⟩ := thaw10 L5.out.bx
      obtain ⟨y0, y1, y2, y3, y4, y5, y6, y7, y8, y9⟩ := box10 L5.out.r0
      obtain ⟨x0, x1, x2, x3, x4, x5, x6, x7, x8, x9⟩ := thaw10 L5.out.r0
      go_wp2
      refine retR1 Tryd.results94 rfl rfl (put10_box (D0 := zeroR) L5.out.r0 ⟨1 + e1, 1, 1 + e2, 1, 0, 0, 0, 0, ⟨#[]⟩, ⟨#[]⟩⟩) ⟨⟨⟨1 + e1, 1, 1 + e2, 1, 0, 0, 0, 0, ⟨#[]⟩, ⟨#[]⟩⟩, rfl, ?_⟩, ?_⟩
      · exact ok_step (by show 1 ≤ 1 + e1 ∧ 1 + e1 ≤ 60; omega) (by show 1 ≤ 1 ∧ 1 ≤ 60; omega) (drs1 (by omega))
      · exact put10_inn L5.out ⟨1 + e1, 1, 1 + e2, 1, 0, 0, 0, 0, ⟨#[]⟩, ⟨#[]⟩⟩
    · skip
      obtain ⟨x4, hx4⟩ : ∃ W, w3.alloc (.cells #[.int .i64 0, .int .i64 0, .int .i64 0, .int .i64 0, .int .i64 0, .int .i64 0, .int .i64 0, .int .i64 0, .string ⟨#[]⟩, .string ⟨#[]⟩] 28) = W := ⟨_, rfl⟩
      have bx : Box x4 w3.heap.size 28 #[.int .i64 0, .int .i64 0, .int .i64 0, .int .i64 0, .int .i64 0, .int .i64 0, .int .i64 0, .int .i64 0, .string ⟨#[]⟩, .string ⟨#[]⟩] := by rw [← hx4]; exact Box.new _ _ _
      obtain ⟨y0, y1, y2, y3, y4, y5, y6, y7, y8, y9⟩ := box10 bx
      obtain ⟨u0, u1, u2, u3, u4, u5, u6, u7, u8, u9⟩ := thaw10 bx
      obtain ⟨w4, hp4⟩ : ∃ W, put10 x4 w3.heap.size ⟨1 + e1, 1, 1 + e2, 2, 0, 0, 0, 0, ⟨#[]⟩, ⟨#[]⟩⟩ = W := ⟨_, rfl⟩
      have hw4 := hp4
      unfold put10 at hw4
      dsimp only at hw4
      have hb4 : Below w3.heap.size w3 w4 := by rw [← hp4]; exact put10_below (by rw [← hx4]; exact (Below.refl _ _).alloc (Nat.le_refl _) _) (Nat.le_refl _) _
      have L4 : Hid (LS w0 w g a n c zs w4 (T + 3) w3.heap.size ⟨1 + e1, 1, 1 + e2, 2, 0, 0, 0, 0, ⟨#[]⟩, ⟨#[]⟩⟩) := ⟨I3.out.trans (Inn.of_below hb4), D3.out.below hb4, R3.out.belowS hb4, by rw [← hp4]; exact put10_box (D0 := zeroR) bx _, l3, gl⟩
      obtain ⟨c0, c1, c2, c3, c4, c5, c6, c7, c8, c9⟩ := box10 L4.out.bx
      obtain ⟨z0, z1, z2, z3, z4, z5, z6, z7, z8, z9⟩ := thaw10 L4.out.bx
      clear bx hb4 hp4
      obtain ⟨w5, hw5⟩ : ∃ W, w4.setCell ⟨w3.heap.size, 3, none⟩ (.int .i64 (1)) = W := ⟨_, rfl⟩
      have L5 : Hid (LS w0 w g a n c zs w5 (T + 3) w3.heap.size ⟨1 + e1, 1, 1 + e2, 1, 0, 0, 0, 0, ⟨#[]⟩, ⟨#[]⟩⟩) := by unfold Hid; rw [← hw5]; exact L4.out.store 3 _ _ rfl
      obtain ⟨d0, d1, d2, d3, d4, d5, d6, d7, d8, d9⟩ := box10 L5.out.bx
      obtain ⟨q0, q1, q2, q3, q4, q5, q6, q7, q8, q9⟩ := thaw10 L5.out.bx
      obtain ⟨y0, y1, y2, y3, y4, y5, y6, y7, y8, y9⟩ := box10 L5.out.r0
      obtain ⟨x0, x1, x2, x3, x4, x5, x6, x7, x8, x9⟩ := thaw10 L5.out.r0
      go_wp2
      refine retR1 Tryd.results94 rfl rfl (put10_box (D0 := zeroR) L5.out.r0 ⟨1 + e1, 1, 1 + e2, 1, 0, 0, 0, 0, ⟨#[]⟩, ⟨#[]⟩⟩) ⟨⟨⟨1 + e1, 1, 1 + e2, 1, 0, 0, 0, 0, ⟨#[]⟩, ⟨#[]⟩⟩, rfl, ?_⟩, ?_⟩
      · exact ok_step (by show 1 ≤ 1 + e1 ∧ 1 + e1 ≤ 60; omega) (by show 1 ≤ 1 ∧ 1 ≤ 60; omega) (drs1 (by omega))
      · exact put10_inn L5.out ⟨1 + e1, 1, 1 + e2, 1, 0, 0, 0, 0, ⟨#[]⟩, ⟨#[]⟩⟩
    · skip
      obtain ⟨x4, hx4⟩ : ∃ W, w3.alloc (.cells #[.int .i64 0, .int .i64 0, .int .i64 0, .int .i64 0, .int .i64 0, .int .i64 0, .int .i64 0, .int .i64 0, .string ⟨#[]⟩, .string ⟨#[]⟩] 28) = W := ⟨_, rfl⟩
      have bx : Box x4 w3.heap.size 28 #[.int .i64 0, .int .i64 0, .int .i64 0, .int .i64 0, .int .i64 0, .int .i64 0, .int .i64 0, .int .i64 0, .string ⟨#[]⟩, .string ⟨#[]⟩] := by rw [← hx4]; exact Box.new _ _ _
      obtain ⟨y0, y1, y2, y3, y4, y5, y6, y7, y8, y9⟩ := box10 bx
      obtain ⟨u0, u1, u2, u3, u4, u5, u6, u7, u8, u9⟩ := thaw10 bx
      obtain ⟨w4, hp4⟩ : ∃ W, put10 x4 w3.heap.size ⟨1 + e1, 1, 1 + e2, 3, 0, 0, 0, 0, ⟨#[]⟩, ⟨#[]⟩⟩ = W := ⟨_, rfl⟩
      have hw4 := hp4
      unfold put10 at hw4
      dsimp only at hw4
      have hb4 : Below w3.heap.size w3 w4 := by rw [← hp4]; exact put10_below (by rw [← hx4]; exact (Below.refl _ _).alloc (Nat.le_refl _) _) (Nat.le_refl _) _
      have L4 : Hid (LS w0 w g a n c zs w4 (T + 3) w3.heap.size ⟨1 + e1, 1, 1 + e2, 3, 0, 0, 0, 0, ⟨#[]⟩, ⟨#[]⟩⟩) := ⟨I3.out.trans (Inn.of_below hb4), D3.out.below hb4, R3.out.belowS hb4, by rw [← hp4]; exact put10_box (D0 := zeroR) bx _, l3, gl⟩
      obtain ⟨c0, c1, c2, c3, c4, c5, c6, c7, c8, c9⟩ := box10 L4.out.bx
      obtain ⟨z0, z1, z2, z3, z4, z5, z6, z7, z8, z9⟩ := thaw10 L4.out.bx
      clear bx hb4 hp4
      obtain ⟨w5, hw5⟩ : ∃ W, w4.setCell ⟨w3.heap.size, 3, none⟩ (.int .i64 (1)) = W := ⟨_, rfl⟩
      have L5 : Hid (LS w0 w g a n c zs w5 (T + 3) w3.heap.size ⟨1 + e1, 1, 1 + e2, 1, 0, 0, 0, 0, ⟨#[]⟩, ⟨#[]⟩⟩) := by unfold Hid; rw [← hw5]; exact L4.out.store 3 _ _ rfl
      obtain ⟨d0, d1, d2, d3, d4, d5, d6, d7, d8, d9⟩ := box10 L5.out.bx
      obtain ⟨q0, q1, q2, q3, q4, q5, q6, q7, q8, q9⟩ := thaw10 L5.out.bx
      obtain ⟨y0, y1, y2, y3, y4, y5, y6, y7, y8, y9⟩ := box10 L5.out.r0
      obtain ⟨x0, x1, x2, x3, x4, x5, x6, x7, x8, x9⟩ := thaw10 L5.out.r0
      go_wp2
      refine retR1 Tryd.results94 rfl rfl (put10_box (D0 := zeroR) L5.out.r0 ⟨1 + e1, 1, 1 + e2, 1, 0, 0, 0, 0, ⟨#[]⟩, ⟨#[]⟩⟩) ⟨⟨⟨1 + e1, 1, 1 + e2, 1, 0, 0, 0, 0, ⟨#[]⟩, ⟨#[]⟩⟩, rfl, ?_⟩, ?_⟩
      · exact ok_step (by show 1 ≤ 1 + e1 ∧ 1 + e1 ≤ 60; omega) (by show 1 ≤ 1 ∧ 1 ≤ 60; omega) (drs1 (by omega))
      · exact put10_inn L5.out ⟨1 + e1, 1, 1 + e2, 1, 0, 0, 0, 0, ⟨#[]⟩, ⟨#[]⟩⟩
    · skip
      obtain ⟨x4, hx4⟩ : ∃ W, w3.alloc (.cells #[.int .i64 0, .int .i64 0, .int .i64 0, .int .i64 0, .int .i64 0, .int .i64 0, .int .i64 0, .int .i64 0, .string ⟨#[]⟩, .string ⟨#[]⟩] 28) = W := ⟨_, rfl⟩
      have bx : Box x4 w3.heap.size 28 #[.int .i64 0, .int .i64 0, .int .i64 0, .int .i64 0, .int .i64 0, .int .i64 0, .int .i64 0, .int .i64 0, .string ⟨#[]⟩, .string ⟨#[]⟩] := by rw [← hx4]; exact Box.new _ _ _
      obtain ⟨y0, y1, y2, y3, y4, y5, y6, y7, y8, y9⟩ := box10 bx
      obtain ⟨u0, u1, u2, u3, u4, u5, u6, u7, u8, u9⟩ := thaw10 bx
      obtain ⟨w4, hp4⟩ : ∃ W, put10 x4 w3.heap.size ⟨1 + e1, 1, 1 + e2, 4, 0, 0, 0, 0, ⟨#[]⟩, ⟨#[]⟩⟩ = W := ⟨_, rfl⟩
      have hw4 := hp4
      unfold put10 at hw4
      dsimp only at hw4
      have hb4 : Below w3.heap.size w3 w4 := by rw [← hp4]; exact put10_below (by rw [← hx4]; exact (Below.refl _ _).alloc (Nat.le_refl _) _) (Nat.le_refl _) _
      have L4 : Hid (LS w0 w g a n c zs w4 (T + 3) w3.heap.size ⟨1 + e1, 1, 1 + e2, 4, 0, 0, 0, 0, ⟨#[]⟩, ⟨#[]⟩⟩) := ⟨I3.out.trans (Inn.of_below hb4), D3.out.below hb4, R3.out.belowS hb4, by rw [← hp4]; exact put10_box (D0 := zeroR) bx _, l3, gl⟩
      obtain ⟨c0, c1, c2, c3, c4, c5, c6, c7, c8, c9⟩ := box10 L4.out.bx
      obtain ⟨z0, z1, z2, z3, z4, z5, z6, z7, z8, z9⟩ := thaw10 L4.out.bx
      clear bx hb4 hp4
      obtain ⟨w5, hw5⟩ : ∃ W, w4.setCell ⟨w3.heap.size, 3, none⟩ (.int .i64 (1)) = W := ⟨_, rfl⟩
      have L5 : Hid (LS w0 w g a n c zs w5 (T + 3) w3.heap.size ⟨1 + e1, 1, 1 + e2, 1, 0, 0, 0, 0, ⟨#[]⟩, ⟨#[]⟩⟩) := by unfold Hid; rw [← hw5]; exact L4.out.store 3 _ _ rfl
      obtain ⟨d0, d1, d2, d3, d4, d5, d6, d7, d8, d9⟩ := box10 L5.out.bx
      obtain ⟨q0, q1, q2, q3, q4, q5, q6, q7, q8, q9⟩ := thaw10 L5.out.bx
      obtain ⟨y0, y1, y2, y3, y4, y5, y6, y7, y8, y9⟩ := box10 L5.out.r0
      obtain ⟨x0, x1, x2, x3, x4, x5, x6, x7, x8, x9⟩ := thaw10 L5.out.r0
      go_wp2
      refine retR1 Tryd.results94 rfl rfl (put10_box (D0 := zeroR) L5.out.r0 ⟨1 + e1, 1, 1 + e2, 1, 0, 0, 0, 0, ⟨#[]⟩, ⟨#[]⟩⟩) ⟨⟨⟨1 + e1, 1, 1 + e2, 1, 0, 0, 0, 0, ⟨#[]⟩, ⟨#[]⟩⟩, rfl, ?_⟩, ?_⟩
      · exact ok_step (by show 1 ≤ 1 + e1 ∧ 1 + e1 ≤ 60; omega) (by show 1 ≤ 1 ∧ 1 ≤ 60; omega) (drs1 (by omega))
      · exact put10_inn L5.out ⟨1 + e1, 1, 1 + e2, 1, 0, 0, 0, 0, ⟨#[]⟩, ⟨#[]⟩⟩
    · skip
      obtain ⟨x4, hx4⟩ : ∃ W, w3.alloc (.cells #[.int .i64 0, .int .i64 0, .int .i64 0, .int .i64 0, .int .i64 0, .int .i64 0, .int .i64 0, .int .i64 0, .string ⟨#[]⟩, .string ⟨#[]⟩] 28) = W := ⟨_, rfl⟩
      have bx : Box x4 w3.heap.size 28 #[.int .i64 0, .int .i64 0, .int .i64 0, .int .i64 0, .int .i64 0, .int .i64 0, .int .i64 0, .int .i64 0, .string ⟨#[]⟩, .string ⟨#[]⟩] := by rw [← hx4]; exact Box.new _ _ _
      obtain ⟨y0, y1, y2, y3, y4, y5, y6, y7, y8, y9⟩ := box10 bx
      obtain ⟨u0, u1, u2, u3, u4, u5, u6, u7, u8, u9⟩ := thaw10 bx
      obtain ⟨w4, hp4⟩ : ∃ W, put10 x4 w3.heap.size ⟨1 + e1, 1, 1 + e2, 5, 0, 0, 0, 0, ⟨#[]⟩, ⟨#[]⟩⟩ = W := ⟨_, rfl⟩
      have hw4 := hp4
      unfold put10 at hw4
      dsimp only at hw4
      have hb4 : Below w3.heap.size w3 w4 := by rw [← hp4]; exact put10_below (by rw [← hx4]; exact (Below.refl _ _).alloc (Nat.le_refl _) _) (Nat.le_refl _) _
      have L4 : Hid (LS w0 w g a n c zs w4 (T + 3) w3.heap.size ⟨1 + e1, 1, 1 + e2, 5, 0, 0, 0, 0, ⟨#[]⟩, ⟨#[]⟩⟩) := ⟨I3.out.trans (Inn.of_below hb4), D3.out.below hb4, R3.out.belowS hb4, by rw [← hp4]; exact put10_box (D0 := zeroR) bx _, l3, gl⟩
      obtain ⟨c0, c1, c2, c3, c4, c5, c6, c7, c8, c9⟩ := box10 L4.out.bx
      obtain ⟨z0, z1, z2, z3, z4, z5, z6, z7, z8, z9⟩ := thaw10 L4.out.bx
      clear bx hb4 hp4
      obtain ⟨w5, hw5⟩ : ∃ W, w4.setCell ⟨w3.heap.size, 3, none⟩ (.int .i64 (1)) = W := ⟨_, rfl⟩
      have L5 : Hid (LS w0 w g a n c zs w5 (T + 3) w3.heap.size ⟨1 + e1, 1, 1 + e2, 1, 0, 0, 0, 0, ⟨#[]⟩, ⟨#[]⟩⟩) := by unfold Hid; rw [← hw5]; exact L4.out.store 3 _ _ rfl
      obtain ⟨d0, d1, d2, d3, d4, d5, d6, d7, d8, d9⟩ := box10 L5.out.bx
      obtain ⟨q0, q1, q2, q3, q4, q5, q6, q7, q8, q9⟩ := thaw10 L5.out.bx
      obtain ⟨y0, y1, y2, y3, y4, y5, y6, y7, y8, y9⟩ := box10 L5.out.r0
      obtain ⟨x0, x1, x2, x3, x4, x5, x6, x7, x8, x9⟩ := thaw10 L5.out.r0
      go_wp2
      refine retR1 Tryd.results94 rfl rfl (put10_box (D0 := zeroR) L5.out.r0 ⟨1 + e1, 1, 1 + e2, 1, 0, 0, 0, 0, ⟨#[]⟩, ⟨#[]⟩⟩) ⟨⟨⟨1 + e1, 1, 1 + e2, 1, 0, 0, 0, 0, ⟨#[]⟩, ⟨#[]⟩⟩, rfl, ?_⟩, ?_⟩
      · exact ok_step (by show 1 ≤ 1 + e1 ∧ 1 + e1 ≤ 60; omega) (by show 1 ≤ 1 ∧ 1 ≤ 60; omega) (drs1 (by omega))
      · exact put10_inn L5.out ⟨1 + e1, 1, 1 + e2, 1, 0, 0, 0, 0, ⟨#[]⟩, ⟨#[]⟩⟩
    · skip
      obtain ⟨x4, hx4⟩ : ∃ W, w3.alloc (.cells #[.int .i64 0, .int .i64 0, .int .i64 0, .int .i64 0, .int .i64 0, .int .i64 0, .int .i64 0, .int .i64 0, .string ⟨#[]⟩, .string ⟨#[]⟩] 28) = W := ⟨_, rfl⟩
      have bx : Box x4 w3.heap.size 28 #[.int .i64 0, .int .i64 0, .int .i64 0, .int .i64 0, .int .i64 0, .int .i64 0, .int .i64 0, .int .i64 0, .string ⟨#[]⟩, .string ⟨#[]⟩] := by rw [← hx4]; exact Box.new _ _ _
      obtain ⟨y0, y1, y2, y3, y4, y5, y6, y7, y8, y9⟩ := box10 bx
      obtain ⟨u0, u1, u2, u3, u4, u5, u6, u7, u8, u9⟩ := thaw10 bx
      obtain ⟨w4, hp4⟩ : ∃ W, put10 x4 w3.heap.size ⟨1 + e1, 1, 1 + e2, 6, 0, 0, 0, 0, ⟨#[]⟩, ⟨#[]⟩⟩ = W := ⟨_, rfl⟩
      have hw4 := hp4
      unfold put10 at hw4
      dsimp only at hw4
      have hb4 : Below w3.heap.size w3 w4 := by rw [← hp4]; exact put10_below (by rw [← hx4]; exact (Below.refl _ _).alloc (Nat.le_refl _) _) (Nat.le_refl _) _
      have L4 : Hid (LS w0 w g a n c zs w4 (T + 3) w3.heap.size ⟨1 + e1, 1, 1 + e2, 6, 0, 0, 0, 0, ⟨#[]⟩, ⟨#[]⟩⟩) := ⟨I3.out.trans (Inn.of_below hb4), D3.out.below hb4, R3.out.belowS hb4, by rw [← hp4]; exact put10_box (D0 := zeroR) bx _, l3, gl⟩
      obtain ⟨c0, c1, c2, c3, c4, c5, c6, c7, c8, c9⟩ := box10 L4.out.bx
      obtain ⟨z0, z1, z2, z3, z4, z5, z6, z7, z8, z9⟩ := thaw10 L4.out.bx
      clear bx hb4 hp4
      obtain ⟨w5, hw5⟩ : ∃ W, w4.setCell ⟨w3.heap.size, 2, none⟩ (.int .i64 (0)) = W := ⟨_, rfl⟩
      have L5 : Hid (LS w0 w g a n c zs w5 (T + 3) w3.heap.size ⟨1 + e1, 1, 0, 6, 0, 0, 0, 0, ⟨#[]⟩, ⟨#[]⟩⟩) := by unfold Hid; rw [← hw5]; exact L4.out.store 2 _ _ rfl
      obtain ⟨d0, d1, d2, d3, d4, d5, d6, d7, d8, d9⟩ := box10 L5.out.bx
      obtain ⟨q0, q1, q2, q3, q4, q5, q6, q7, q8, q9⟩ := thaw10 L5.out.bx
      obtain ⟨v6, hv6⟩ : ∃ W, w5.alloc (.cells #[] 185) = W := ⟨_, rfl⟩
      obtain ⟨w6, hw6⟩ : ∃ W, v6.alloc (.cells #[] 185) = W := ⟨_, rfl⟩
      have hb6 : Below w5.heap.size w5 w6 := by rw [← hw6, ← hv6]; exact ((Below.refl _ _).alloc (Nat.le_refl _) _).alloc (by simp) _
      have L6 : Hid (LS w0 w g a n c zs w6 (T + 3) w3.heap.size ⟨1 + e1, 1, 0, 6, 0, 0, 0, 0, ⟨#[]⟩, ⟨#[]⟩⟩) := L5.out.below hb6
      go_wp2_with fail
      clear c0 c1 c2 c3 c4 c5 c6 c7 c8 c9 z0 z1 z2 z3 z4 z5 z6 z7 z8 z9
      clear L4
      clear d0 d1 d2 d3 d4 d5 d6 d7 d8 d9 q0 q1 q2 q3 q4 q5 q6 q7 q8 q9
      refine (c_chkT 0 _ _ _ _ 0 0 0 0 w6 (by omega) (fun h => by omega) (fun h => by omega) (by omega) (by omega)).mono ?_
      rintro e w7 ⟨rfl, hb⟩
      have L7 : Hid (LS w0 w g a n c zs w7 (T + 3) w3.heap.size ⟨1 + e1, 1, 0, 6, 0, 0, 0, 0, ⟨#[]⟩, ⟨#[]⟩⟩) := L6.out.below hb
      clear hb L6
      obtain ⟨d0, d1, d2, d3, d4, d5, d6, d7, d8, d9⟩ := box10 L7.out.bx
      obtain ⟨q0, q1, q2, q3, q4, q5, q6, q7, q8, q9⟩ := thaw10 L7.out.bx
      obtain ⟨w8, hw8⟩ : ∃ W, w7.setCell ⟨w3.heap.size, 9, none⟩ (.string (chkT 0 0 0 0 0)) = W := ⟨_, rfl⟩
      have L8 : Hid (LS w0 w g a n c zs w8 (T + 3) w3.heap.size ⟨1 + e1, 1, 0, 6, 0, 0, 0, 0, ⟨#[]⟩, chkT 0 0 0 0 0⟩) := by unfold Hid; rw [← hw8]; exact L7.out.store 9 _ _ rfl
      obtain ⟨c0, c1, c2, c3, c4, c5, c6, c7, c8, c9⟩ := box10 L8.out.bx
      obtain ⟨z0, z1, z2, z3, z4, z5, z6, z7, z8, z9⟩ := thaw10 L8.out.bx
      obtain ⟨y0, y1, y2, y3, y4, y5, y6, y7, y8, y9⟩ := box10 L8.out.r0
      obtain ⟨x0, x1, x2, x3, x4, x5, x6, x7, x8, x9⟩ := thaw10 L8.out.r0
      go_wp2
      refine retR1 Tryd.results94 rfl rfl (put10_box (D0 := zeroR) L8.out.r0 ⟨1 + e1, 1, 0, 6, 0, 0, 0, 0, ⟨#[]⟩, chkT 0 0 0 0 0⟩) ⟨⟨⟨1 + e1, 1, 0, 6, 0, 0, 0, 0, ⟨#[]⟩, chkT 0 0 0 0 0⟩, rfl, ?_⟩, ?_⟩
      · exact ok_six (by omega) (by omega) ck_zero
      · exact put10_inn L8.out ⟨1 + e1, 1, 0, 6, 0, 0, 0, 0, ⟨#[]⟩, chkT 0 0 0 0 0⟩
  · skip
    have hl2 : ((lsn : Int) == 1) = false := by simp; omega
    have hk : e3 = 0 ∨ e3 = 1 ∨ e3 = 2 ∨ e3 = 3 ∨ e3 = 4 ∨ e3 = 5 := by omega
    rcases hk with rfl | rfl | rfl | rfl | rfl | rfl
    · skip
      obtain ⟨x4, hx4⟩ : ∃ W, w3.alloc (.cells #[.int .i64 0, .int .i64 0, .int .i64 0, .int .i64 0, .int .i64 0, .int .i64 0, .int .i64 0, .int .i64 0, .string ⟨#[]⟩, .string ⟨#[]⟩] 28) = W := ⟨_, rfl⟩
      have bx : Box x4 w3.heap.size 28 #[.int .i64 0, .int .i64 0, .int .i64 0, .int .i64 0, .int .i64 0, .int .i64 0, .int .i64 0, .int .i64 0, .string ⟨#[]⟩, .string ⟨#[]⟩] := by rw [← hx4]; exact Box.new _ _ _
      obtain ⟨y0, y1, y2, y3, y4, y5, y6, y7, y8, y9⟩ := box10 bx
      obtain ⟨u0, u1, u2, u3, u4, u5, u6, u7, u8, u9⟩ := thaw10 bx
      obtain ⟨w4, hp4⟩ : ∃ W, put10 x4 w3.heap.size ⟨1 + e1, (lsn : Int), 1 + e2, 1, 0, 0, 0, 0, ⟨#[]⟩, ⟨#[]⟩⟩ = W := ⟨_, rfl⟩
      have hw4 := hp4
      unfold put10 at hw4
      dsimp only at hw4
      have hb4 : Below w3.heap.size w3 w4 := by rw [← hp4]; exact put10_below (by rw [← hx4]; exact (Below.refl _ _).alloc (Nat.le_refl _) _) (Nat.le_refl _) _
      have L4 : Hid (LS w0 w g a n c zs w4 (T + 3) w3.heap.size ⟨1 + e1, (lsn : Int), 1 + e2, 1, 0, 0, 0, 0, ⟨#[]⟩, ⟨#[]⟩⟩) := ⟨I3.out.trans (Inn.of_below hb4), D3.out.below hb4, R3.out.belowS hb4, by rw [← hp4]; exact put10_box (D0 := zeroR) bx _, l3, gl⟩
      obtain ⟨c0, c1, c2, c3, c4, c5, c6, c7, c8, c9⟩ := box10 L4.out.bx
      obtain ⟨z0, z1, z2, z3, z4, z5, z6, z7, z8, z9⟩ := thaw10 L4.out.bx
      clear bx hb4 hp4
      obtain ⟨y0, y1, y2, y3, y4, y5, y6, y7, y8, y9⟩ := box10 L4.out.r0
      obtain ⟨x0, x1, x2, x3, x4, x5, x6, x7, x8, x9⟩ := thaw10 L4.out.r0
      go_wp2
      refine retR1 Tryd.results94 rfl rfl (put10_box (D0 := zeroR) L4.out.r0 ⟨1 + e1, (lsn : Int), 1 + e2, 1, 0, 0, 0, 0, ⟨#[]⟩, ⟨#[]⟩⟩) ⟨⟨⟨1 + e1, (lsn : Int), 1 + e2, 1, 0, 0, 0, 0, ⟨#[]⟩, ⟨#[]⟩⟩, rfl, ?_⟩, ?_⟩
      · exact ok_step (by show 1 ≤ 1 + e1 ∧ 1 + e1 ≤ 60; omega) (by show 1 ≤ (lsn : Int) ∧ (lsn : Int) ≤ 60; omega) (drs1 (by omega))
      · exact put10_inn L4.out ⟨1 + e1, (lsn : Int), 1 + e2, 1, 0, 0, 0, 0, ⟨#[]⟩, ⟨#[]⟩⟩
    · skip
      obtain ⟨x4, hx4⟩ : ∃ W, w3.alloc (.cells #[.int .i64 0, .int .i64 0, .int .i64 0, .int .i64 0, .int .i64 0, .int .i64 0, .int .i64 0, .int .i64 0, .string ⟨#[]⟩, .string ⟨#[]⟩] 28) = W := ⟨_, rfl⟩
      have bx : Box x4 w3.heap.size 28 #[.int .i64 0, .int .i64 0, .int .i64 0, .int .i64 0, .int .i64 0, .int .i64 0, .int .i64 0, .int .i64 0, .string ⟨#[]⟩, .string ⟨#[]⟩] := by rw [← hx4]; exact Box.new _ _ _
      obtain ⟨y0, y1, y2, y3, y4, y5, y6, y7, y8, y9⟩ := box10 bx
      obtain ⟨u0, u1, u2, u3, u4, u5, u6, u7, u8, u9⟩ := thaw10 bx
      obtain ⟨w4, hp4⟩ : ∃ W, put10 x4 w3.heap.size ⟨1 + e1, (lsn : Int), 1 + e2, 2, 0, 0, 0, 0, ⟨#[]⟩, ⟨#[]⟩⟩ = W := ⟨_, rfl⟩
      have hw4 := hp4
      unfold put10 at hw4
      dsimp only at hw4
      have hb4 : Below w3.heap.size w3 w4 := by rw [← hp4]; exact put10_below (by rw [← hx4]; exact (Below.refl _ _).alloc (Nat.le_refl _) _) (Nat.le_refl _) _
      have L4 : Hid (LS w0 w g a n c zs w4 (T + 3) w3.heap.size ⟨1 + e1, (lsn : Int), 1 + e2, 2, 0, 0, 0, 0, ⟨#[]⟩, ⟨#[]⟩⟩) := ⟨I3.out.trans (Inn.of_below hb4), D3.out.below hb4, R3.out.belowS hb4, by rw [← hp4]; exact put10_box (D0 := zeroR) bx _, l3, gl⟩
      obtain ⟨c0, c1, c2, c3, c4, c5, c6, c7, c8, c9⟩ := box10 L4.out.bx
      obtain ⟨z0, z1, z2, z3, z4, z5, z6, z7, z8, z9⟩ := thaw10 L4.out.bx
      clear bx hb4 hp4
      go_wp2_with fail
      clear c0 c1 c2 c3 c4 c5 c6 c7 c8 c9 z0 z1 z2 z3 z4 z5 z6 z7 z8 z9
      refine (c_next w0 w4 g a n c (T + 3) zs ((lsn : Int) - 1) L4.out.drw (by omega) (by omega)).mono ?_
      rintro e w5 ⟨⟨f1, rfl, f1l, f1h⟩, hd, hi⟩
      have L5 : Hid (LS w0 w g a n c zs w5 (T + 4) w3.heap.size ⟨1 + e1, (lsn : Int), 1 + e2, 2, 0, 0, 0, 0, ⟨#[]⟩, ⟨#[]⟩⟩) := L4.out.next hi hd
      clear hd hi L4
      obtain ⟨c0, c1, c2, c3, c4, c5, c6, c7, c8, c9⟩ := box10 L5.out.bx
      obtain ⟨z0, z1, z2, z3, z4, z5, z6, z7, z8, z9⟩ := thaw10 L5.out.bx
      obtain ⟨w6, hw6⟩ : ∃ W, w5.setCell ⟨w3.heap.size, 4, none⟩ (.int .i64 (1 + f1)) = W := ⟨_, rfl⟩
      have L6 : Hid (LS w0 w g a n c zs w6 (T + 4) w3.heap.size ⟨1 + e1, (lsn : Int), 1 + e2, 2, 1 + f1, 0, 0, 0, ⟨#[]⟩, ⟨#[]⟩⟩) := by unfold Hid; rw [← hw6]; exact L5.out.store 4 _ _ rfl
      obtain ⟨d0, d1, d2, d3, d4, d5, d6, d7, d8, d9⟩ := box10 L6.out.bx
      obtain ⟨q0, q1, q2, q3, q4, q5, q6, q7, q8, q9⟩ := thaw10 L6.out.bx
      go_wp2_with fail
      clear c0 c1 c2 c3 c4 c5 c6 c7 c8 c9 z0 z1 z2 z3 z4 z5 z6 z7 z8 z9
      clear L5
      clear d0 d1 d2 d3 d4 d5 d6 d7 d8 d9 q0 q1 q2 q3 q4 q5 q6 q7 q8 q9
      refine (c_next w0 w6 g a n c (T + 4) zs 8 L6.out.drw (by omega) (by omega)).mono ?_
      rintro e w7 ⟨⟨f2, rfl, f2l, f2h⟩, hd, hi⟩
      have L7 : Hid (LS w0 w g a n c zs w7 (T + 5) w3.heap.size ⟨1 + e1, (lsn : Int), 1 + e2, 2, 1 + f1, 0, 0, 0, ⟨#[]⟩, ⟨#[]⟩⟩) := L6.out.next hi hd
      clear hd hi L6
      obtain ⟨d0, d1, d2, d3, d4, d5, d6, d7, d8, d9⟩ := box10 L7.out.bx
      obtain ⟨q0, q1, q2, q3, q4, q5, q6, q7, q8, q9⟩ := thaw10 L7.out.bx
      obtain ⟨w8, hw8⟩ : ∃ W, w7.setCell ⟨w3.heap.size, 6, none⟩ (.int .i64 (f2)) = W := ⟨_, rfl⟩
      have L8 : Hid (LS w0 w g a n c zs w8 (T + 5) w3.heap.size ⟨1 + e1, (lsn : Int), 1 + e2, 2, 1 + f1, 0, f2, 0, ⟨#[]⟩, ⟨#[]⟩⟩) := by unfold Hid; rw [← hw8]; exact L7.out.store 6 _ _ rfl
      obtain ⟨c0, c1, c2, c3, c4, c5, c6, c7, c8, c9⟩ := box10 L8.out.bx
      obtain ⟨z0, z1, z2, z3, z4, z5, z6, z7, z8, z9⟩ := thaw10 L8.out.bx
      go_wp2_with fail
      clear d0 d1 d2 d3 d4 d5 d6 d7 d8 d9 q0 q1 q2 q3 q4 q5 q6 q7 q8 q9
      clear L7
      clear c0 c1 c2 c3 c4 c5 c6 c7 c8 c9 z0 z1 z2 z3 z4 z5 z6 z7 z8 z9
      refine (c_next w0 w8 g a n c (T + 5) zs 4 L8.out.drw (by omega) (by omega)).mono ?_
      rintro e w9 ⟨⟨f3, rfl, f3l, f3h⟩, hd, hi⟩
      have L9 : Hid (LS w0 w g a n c zs w9 (T + 6) w3.heap.size ⟨1 + e1, (lsn : Int), 1 + e2, 2, 1 + f1, 0, f2, 0, ⟨#[]⟩, ⟨#[]⟩⟩) := L8.out.next hi hd
      clear hd hi L8
      obtain ⟨c0, c1, c2, c3, c4, c5, c6, c7, c8, c9⟩ := box10 L9.out.bx
      obtain ⟨z0, z1, z2, z3, z4, z5, z6, z7, z8, z9⟩ := thaw10 L9.out.bx
      obtain ⟨w10, hw10⟩ : ∃ W, w9.setCell ⟨w3.heap.size, 7, none⟩ (.int .i64 (f3)) = W := ⟨_, rfl⟩
      have L10 : Hid (LS w0 w g a n c zs w10 (T + 6) w3.heap.size ⟨1 + e1, (lsn : Int), 1 + e2, 2, 1 + f1, 0, f2, f3, ⟨#[]⟩, ⟨#[]⟩⟩) := by unfold Hid; rw [← hw10]; exact L9.out.store 7 _ _ rfl
      obtain ⟨d0, d1, d2, d3, d4, d5, d6, d7, d8, d9⟩ := box10 L10.out.bx
      obtain ⟨q0, q1, q2, q3, q4, q5, q6, q7, q8, q9⟩ := thaw10 L10.out.bx
      obtain ⟨w11, hw11⟩ : ∃ W, w10.alloc (.cells #[.string ⟨#[]⟩, .string ⟨#[114, 101, 99]⟩, .string ⟨#[114, 101, 99, 111, 114, 100]⟩] 9) = W := ⟨_, rfl⟩
      have hb11 : Below w10.heap.size w10 w11 := by rw [← hw11]; exact (Below.refl _ _).alloc (Nat.le_refl _) _
      have L11 : Hid (LS w0 w g a n c zs w11 (T + 6) w3.heap.size ⟨1 + e1, (lsn : Int), 1 + e2, 2, 1 + f1, 0, f2, f3, ⟨#[]⟩, ⟨#[]⟩⟩) := L10.out.below hb11
      have PR11 : Hid (RdV w11 (some ⟨w10.heap.size, 0, none⟩) 3 ([⟨#[]⟩, ⟨#[114, 101, 99]⟩, ⟨#[114, 101, 99, 111, 114, 100]⟩].map Value.string)) := by unfold Hid; rw [← hw11]; exact RdV.own (World.ownsRow_lit w10 #[.string ⟨#[]⟩, .string ⟨#[114, 101, 99]⟩, .string ⟨#[114, 101, 99, 111, 114, 100]⟩] 3 (Nat.le_refl _) (by unfold maxLen; omega) rfl)
      have gs11 : g < w10.heap.size := L10.out.drw.src.lt
      go_wp2_with fail
      clear c0 c1 c2 c3 c4 c5 c6 c7 c8 c9 z0 z1 z2 z3 z4 z5 z6 z7 z8 z9
      clear L9
      clear d0 d1 d2 d3 d4 d5 d6 d7 d8 d9 q0 q1 q2 q3 q4 q5 q6 q7 q8 q9
      refine (c_pick w0 w11 g a n c (T + 6) zs (some ⟨w10.heap.size, 0, none⟩) 3 3 [⟨#[]⟩, ⟨#[114, 101, 99]⟩, ⟨#[114, 101, 99, 111, 114, 100]⟩] L11.out.drw (by omega) (by omega) PR11.out (fun x e => by have e2 : w10.heap.size = x := Option.some.inj e; omega)).mono ?_
      rintro e w12 ⟨⟨s1, s1m, rfl⟩, hd, hi⟩
      have L12 : Hid (LS w0 w g a n c zs w12 (T + 7) w3.heap.size ⟨1 + e1, (lsn : Int), 1 + e2, 2, 1 + f1, 0, f2, f3, ⟨#[]⟩, ⟨#[]⟩⟩) := L11.out.next hi hd
      have s1s : Hid (s1.size ≤ 6) := by unfold Hid; simp at s1m; rcases s1m with rfl | rfl | rfl <;> decide
      clear hd hi L11 L10 PR11 s1m hb11 hw11
      obtain ⟨d0, d1, d2, d3, d4, d5, d6, d7, d8, d9⟩ := box10 L12.out.bx
      obtain ⟨q0, q1, q2, q3, q4, q5, q6, q7, q8, q9⟩ := thaw10 L12.out.bx
      obtain ⟨w13, hw13⟩ : ∃ W, w12.setCell ⟨w3.heap.size, 9, none⟩ (.string (s1)) = W := ⟨_, rfl⟩
      have L13 : Hid (LS w0 w g a n c zs w13 (T + 7) w3.heap.size ⟨1 + e1, (lsn : Int), 1 + e2, 2, 1 + f1, 0, f2, f3, ⟨#[]⟩, s1⟩) := by unfold Hid; rw [← hw13]; exact L12.out.store 9 _ _ rfl
      obtain ⟨c0, c1, c2, c3, c4, c5, c6, c7, c8, c9⟩ := box10 L13.out.bx
      obtain ⟨z0, z1, z2, z3, z4, z5, z6, z7, z8, z9⟩ := thaw10 L13.out.bx
      obtain ⟨w14, hw14⟩ : ∃ W, w13.alloc (.cells #[.string ⟨#[]⟩, .string ⟨#[111, 108, 100]⟩] 9) = W := ⟨_, rfl⟩
      have hb14 : Below w13.heap.size w13 w14 := by rw [← hw14]; exact (Below.refl _ _).alloc (Nat.le_refl _) _
      have L14 : Hid (LS w0 w g a n c zs w14 (T + 7) w3.heap.size ⟨1 + e1, (lsn : Int), 1 + e2, 2, 1 + f1, 0, f2, f3, ⟨#[]⟩, s1⟩) := L13.out.below hb14
      have PR14 : Hid (RdV w14 (some ⟨w13.heap.size, 0, none⟩) 2 ([⟨#[]⟩, ⟨#[111, 108, 100]⟩].map Value.string)) := by unfold Hid; rw [← hw14]; exact RdV.own (World.ownsRow_lit w13 #[.string ⟨#[]⟩, .string ⟨#[111, 108, 100]⟩] 2 (Nat.le_refl _) (by unfold maxLen; omega) rfl)
      have gs14 : g < w13.heap.size := L13.out.drw.src.lt
      go_wp2_with fail
      clear d0 d1 d2 d3 d4 d5 d6 d7 d8 d9 q0 q1 q2 q3 q4 q5 q6 q7 q8 q9
      clear L12
      clear c0 c1 c2 c3 c4 c5 c6 c7 c8 c9 z0 z1 z2 z3 z4 z5 z6 z7 z8 z9
      refine (c_pick w0 w14 g a n c (T + 7) zs (some ⟨w13.heap.size, 0, none⟩) 2 2 [⟨#[]⟩, ⟨#[111, 108, 100]⟩] L14.out.drw (by omega) (by omega) PR14.out (fun x e => by have e2 : w13.heap.size = x := Option.some.inj e; omega)).mono ?_
      rintro e w15 ⟨⟨s2, s2m, rfl⟩, hd, hi⟩
      have L15 : Hid (LS w0 w g a n c zs w15 (T + 8) w3.heap.size ⟨1 + e1, (lsn : Int), 1 + e2, 2, 1 + f1, 0, f2, f3, ⟨#[]⟩, s1⟩) := L14.out.next hi hd
      have s2s : Hid (s2.size ≤ 6) := by unfold Hid; simp at s2m; rcases s2m with rfl | rfl <;> decide
      clear hd hi L14 L13 PR14 s2m hb14 hw14
      obtain ⟨c0, c1, c2, c3, c4, c5, c6, c7, c8, c9⟩ := box10 L15.out.bx
      obtain ⟨z0, z1, z2, z3, z4, z5, z6, z7, z8, z9⟩ := thaw10 L15.out.bx
      obtain ⟨w16, hw16⟩ : ∃ W, w15.setCell ⟨w3.heap.size, 8, none⟩ (.string (s2)) = W := ⟨_, rfl⟩
      have L16 : Hid (LS w0 w g a n c zs w16 (T + 8) w3.heap.size ⟨1 + e1, (lsn : Int), 1 + e2, 2, 1 + f1, 0, f2, f3, s2, s1⟩) := by unfold Hid; rw [← hw16]; exact L15.out.store 8 _ _ rfl
      obtain ⟨d0, d1, d2, d3, d4, d5, d6, d7, d8, d9⟩ := box10 L16.out.bx
      obtain ⟨q0, q1, q2, q3, q4, q5, q6, q7, q8, q9⟩ := thaw10 L16.out.bx
      obtain ⟨y0, y1, y2, y3, y4, y5, y6, y7, y8, y9⟩ := box10 L16.out.r0
      obtain ⟨x0, x1, x2, x3, x4, x5, x6, x7, x8, x9⟩ := thaw10 L16.out.r0
      go_wp2
      refine retR1 Tryd.results94 rfl rfl (put10_box (D0 := zeroR) L16.out.r0 ⟨1 + e1, (lsn : Int), 1 + e2, 2, 1 + f1, 0, f2, f3, s2, s1⟩) ⟨⟨⟨1 + e1, (lsn : Int), 1 + e2, 2, 1 + f1, 0, f2, f3, s2, s1⟩, rfl, ?_⟩, ?_⟩
      · have := s1s.out; have := s2s.out; exact ok_step (by show 1 ≤ 1 + e1 ∧ 1 + e1 ≤ 60; omega) (by show 1 ≤ (lsn : Int) ∧ (lsn : Int) ≤ 60; omega) (drs2 (by omega) (by omega) (by omega) (by omega) (by omega) (by omega) (by omega))
      · exact put10_inn L16.out ⟨1 + e1, (lsn : Int), 1 + e2, 2, 1 + f1, 0, f2, f3, s2, s1⟩
    · skip
      obtain ⟨x4, hx4⟩ : ∃ W, w3.alloc (.cells #[.int .i64 0, .int .i64 0, .int .i64 0, .int .i64 0, .int .i64 0, .int .i64 0, .int .i64 0, .int .i64 0, .string ⟨#[]⟩, .string ⟨#[]⟩] 28) = W := ⟨_, rfl⟩
      have bx : Box x4 w3.heap.size 28 #[.int .i64 0, .int .i64 0, .int .i64 0, .int .i64 0, .int .i64 0, .int .i64 0, .int .i64 0, .int .i64 0, .string ⟨#[]⟩, .string ⟨#[]⟩] := by rw [← hx4]; exact Box.new _ _ _
      obtain ⟨y0, y1, y2, y3, y4, y5, y6, y7, y8, y9⟩ := box10 bx
      obtain ⟨u0, u1, u2, u3, u4, u5, u6, u7, u8, u9⟩ := thaw10 bx
      obtain ⟨w4, hp4⟩ : ∃ W, put10 x4 w3.heap.size ⟨1 + e1, (lsn : Int), 1 + e2, 3, 0, 0, 0, 0, ⟨#[]⟩, ⟨#[]⟩⟩ = W := ⟨_, rfl⟩
      have hw4 := hp4
      unfold put10 at hw4
      dsimp only at hw4
      have hb4 : Below w3.heap.size w3 w4 := by rw [← hp4]; exact put10_below (by rw [← hx4]; exact (Below.refl _ _).alloc (Nat.le_refl _) _) (Nat.le_refl _) _
      have L4 : Hid (LS w0 w g a n c zs w4 (T + 3) w3.heap.size ⟨1 + e1, (lsn : Int), 1 + e2, 3, 0, 0, 0, 0, ⟨#[]⟩, ⟨#[]⟩⟩) := ⟨I3.out.trans (Inn.of_below hb4), D3.out.below hb4, R3.out.belowS hb4, by rw [← hp4]; exact put10_box (D0 := zeroR) bx _, l3, gl⟩
      obtain ⟨c0, c1, c2, c3, c4, c5, c6, c7, c8, c9⟩ := box10 L4.out.bx
      obtain ⟨z0, z1, z2, z3, z4, z5, z6, z7, z8, z9⟩ := thaw10 L4.out.bx
      clear bx hb4 hp4
      go_wp2_with fail
      clear c0 c1 c2 c3 c4 c5 c6 c7 c8 c9 z0 z1 z2 z3 z4 z5 z6 z7 z8 z9
      refine (c_next w0 w4 g a n c (T + 3) zs ((lsn : Int) - 1) L4.out.drw (by omega) (by omega)).mono ?_
      rintro e w5 ⟨⟨f1, rfl, f1l, f1h⟩, hd, hi⟩
      have L5 : Hid (LS w0 w g a n c zs w5 (T + 4) w3.heap.size ⟨1 + e1, (lsn : Int), 1 + e2, 3, 0, 0, 0, 0, ⟨#[]⟩, ⟨#[]⟩⟩) := L4.out.next hi hd
      clear hd hi L4
      obtain ⟨c0, c1, c2, c3, c4, c5, c6, c7, c8, c9⟩ := box10 L5.out.bx
      obtain ⟨z0, z1, z2, z3, z4, z5, z6, z7, z8, z9⟩ := thaw10 L5.out.bx
      obtain ⟨w6, hw6⟩ : ∃ W, w5.setCell ⟨w3.heap.size, 4, none⟩ (.int .i64 (1 + f1)) = W := ⟨_, rfl⟩
      have L6 : Hid (LS w0 w g a n c zs w6 (T + 4) w3.heap.size ⟨1 + e1, (lsn : Int), 1 + e2, 3, 1 + f1, 0, 0, 0, ⟨#[]⟩, ⟨#[]⟩⟩) := by unfold Hid; rw [← hw6]; exact L5.out.store 4 _ _ rfl
      obtain ⟨d0, d1, d2, d3, d4, d5, d6, d7, d8, d9⟩ := box10 L6.out.bx
      obtain ⟨q0, q1, q2, q3, q4, q5, q6, q7, q8, q9⟩ := thaw10 L6.out.bx
      go_wp2_with fail
      clear c0 c1 c2 c3 c4 c5 c6 c7 c8 c9 z0 z1 z2 z3 z4 z5 z6 z7 z8 z9
      clear L5
      clear d0 d1 d2 d3 d4 d5 d6 d7 d8 d9 q0 q1 q2 q3 q4 q5 q6 q7 q8 q9
      refine (c_next w0 w6 g a n c (T + 4) zs 8 L6.out.drw (by omega) (by omega)).mono ?_
      rintro e w7 ⟨⟨f2, rfl, f2l, f2h⟩, hd, hi⟩
      have L7 : Hid (LS w0 w g a n c zs w7 (T + 5) w3.heap.size ⟨1 + e1, (lsn : Int), 1 + e2, 3, 1 + f1, 0, 0, 0, ⟨#[]⟩, ⟨#[]⟩⟩) := L6.out.next hi hd
      clear hd hi L6
      obtain ⟨d0, d1, d2, d3, d4, d5, d6, d7, d8, d9⟩ := box10 L7.out.bx
      obtain ⟨q0, q1, q2, q3, q4, q5, q6, q7, q8, q9⟩ := thaw10 L7.out.bx
      obtain ⟨w8, hw8⟩ : ∃ W, w7.setCell ⟨w3.heap.size, 6, none⟩ (.int .i64 (f2)) = W := ⟨_, rfl⟩
      have L8 : Hid (LS w0 w g a n c zs w8 (T + 5) w3.heap.size ⟨1 + e1, (lsn : Int), 1 + e2, 3, 1 + f1, 0, f2, 0, ⟨#[]⟩, ⟨#[]⟩⟩) := by unfold Hid; rw [← hw8]; exact L7.out.store 6 _ _ rfl
      obtain ⟨c0, c1, c2, c3, c4, c5, c6, c7, c8, c9⟩ := box10 L8.out.bx
      obtain ⟨z0, z1, z2, z3, z4, z5, z6, z7, z8, z9⟩ := thaw10 L8.out.bx
      go_wp2_with fail
      clear d0 d1 d2 d3 d4 d5 d6 d7 d8 d9 q0 q1 q2 q3 q4 q5 q6 q7 q8 q9
      clear L7
      clear c0 c1 c2 c3 c4 c5 c6 c7 c8 c9 z0 z1 z2 z3 z4 z5 z6 z7 z8 z9
      refine (c_next w0 w8 g a n c (T + 5) zs 4 L8.out.drw (by omega) (by omega)).mono ?_
      rintro e w9 ⟨⟨f3, rfl, f3l, f3h⟩, hd, hi⟩
      have L9 : Hid (LS w0 w g a n c zs w9 (T + 6) w3.heap.size ⟨1 + e1, (lsn : Int), 1 + e2, 3, 1 + f1, 0, f2, 0, ⟨#[]⟩, ⟨#[]⟩⟩) := L8.out.next hi hd
      clear hd hi L8
      obtain ⟨c0, c1, c2, c3, c4, c5, c6, c7, c8, c9⟩ := box10 L9.out.bx
      obtain ⟨z0, z1, z2, z3, z4, z5, z6, z7, z8, z9⟩ := thaw10 L9.out.bx
      obtain ⟨w10, hw10⟩ : ∃ W, w9.setCell ⟨w3.heap.size, 7, none⟩ (.int .i64 (f3)) = W := ⟨_, rfl⟩
      have L10 : Hid (LS w0 w g a n c zs w10 (T + 6) w3.heap.size ⟨1 + e1, (lsn : Int), 1 + e2, 3, 1 + f1, 0, f2, f3, ⟨#[]⟩, ⟨#[]⟩⟩) := by unfold Hid; rw [← hw10]; exact L9.out.store 7 _ _ rfl
      obtain ⟨d0, d1, d2, d3, d4, d5, d6, d7, d8, d9⟩ := box10 L10.out.bx
      obtain ⟨q0, q1, q2, q3, q4, q5, q6, q7, q8, q9⟩ := thaw10 L10.out.bx
      obtain ⟨w11, hw11⟩ : ∃ W, w10.alloc (.cells #[.string ⟨#[]⟩, .string ⟨#[114, 101, 99]⟩, .string ⟨#[114, 101, 99, 111, 114, 100]⟩] 9) = W := ⟨_, rfl⟩
      have hb11 : Below w10.heap.size w10 w11 := by rw [← hw11]; exact (Below.refl _ _).alloc (Nat.le_refl _) _
      have L11 : Hid (LS w0 w g a n c zs w11 (T + 6) w3.heap.size ⟨1 + e1, (lsn : Int), 1 + e2, 3, 1 + f1, 0, f2, f3, ⟨#[]⟩, ⟨#[]⟩⟩) := L10.out.below hb11
      have PR11 : Hid (RdV w11 (some ⟨w10.heap.size, 0, none⟩) 3 ([⟨#[]⟩, ⟨#[114, 101, 99]⟩, ⟨#[114, 101, 99, 111, 114, 100]⟩].map Value.string)) := by unfold Hid; rw [← hw11]; exact RdV.own (World.ownsRow_lit w10 #[.string ⟨#[]⟩, .string ⟨#[114, 101, 99]⟩, .string ⟨#[114, 101, 99, 111, 114, 100]⟩] 3 (Nat.le_refl _) (by unfold maxLen; omega) rfl)
      have gs11 : g < w10.heap.size := L10.out.drw.src.lt
      go_wp2_with fail
      clear c0 c1 c2 c3 c4 c5 c6 c7 c8 c9 z0 z1 z2 z3 z4 z5 z6 z7 z8 z9
      clear L9
      clear d0 d1 d2 d3 d4 d5 d6 d7 d8 d9 q0 q1 q2 q3 q4 q5 q6 q7 q8 q9
      refine (c_pick w0 w11 g a n c (T + 6) zs (some ⟨w10.heap.size, 0, none⟩) 3 3 [⟨#[]⟩, ⟨#[114, 101, 99]⟩, ⟨#[114, 101, 99, 111, 114, 100]⟩] L11.out.drw (by omega) (by omega) PR11.out (fun x e => by have e2 : w10.heap.size = x := Option.some.inj e; omega)).mono ?_
      rintro e w12 ⟨⟨s1, s1m, rfl⟩, hd, hi⟩
      have L12 : Hid (LS w0 w g a n c zs w12 (T + 7) w3.heap.size ⟨1 + e1, (lsn : Int), 1 + e2, 3, 1 + f1, 0, f2, f3, ⟨#[]⟩, ⟨#[]⟩⟩) := L11.out.next hi hd
      have s1s : Hid (s1.size ≤ 6) := by unfold Hid; simp at s1m; rcases s1m with rfl | rfl | rfl <;> decide
      clear hd hi L11 L10 PR11 s1m hb11 hw11
      obtain ⟨d0, d1, d2, d3, d4, d5, d6, d7, d8, d9⟩ := box10 L12.out.bx
      obtain ⟨q0, q1, q2, q3, q4, q5, q6, q7, q8, q9⟩ := thaw10 L12.out.bx
      obtain ⟨w13, hw13⟩ : ∃ W, w12.setCell ⟨w3.heap.size, 9, none⟩ (.string (s1)) = W := ⟨_, rfl⟩
      have L13 : Hid (LS w0 w g a n c zs w13 (T + 7) w3.heap.size ⟨1 + e1, (lsn : Int), 1 + e2, 3, 1 + f1, 0, f2, f3, ⟨#[]⟩, s1⟩) := by unfold Hid; rw [← hw13]; exact L12.out.store 9 _ _ rfl
      obtain ⟨c0, c1, c2, c3, c4, c5, c6, c7, c8, c9⟩ := box10 L13.out.bx
      obtain ⟨z0, z1, z2, z3, z4, z5, z6, z7, z8, z9⟩ := thaw10 L13.out.bx
      go_wp2_with fail
      clear d0 d1 d2 d3 d4 d5 d6 d7 d8 d9 q0 q1 q2 q3 q4 q5 q6 q7 q8 q9
      clear L12
      clear c0 c1 c2 c3 c4 c5 c6 c7 c8 c9 z0 z1 z2 z3 z4 z5 z6 z7 z8 z9
      refine (c_next w0 w13 g a n c (T + 7) zs (lsn : Int) L13.out.drw (by omega) (by omega)).mono ?_
      rintro e w14 ⟨⟨f4, rfl, f4l, f4h⟩, hd, hi⟩
      have L14 : Hid (LS w0 w g a n c zs w14 (T + 8) w3.heap.size ⟨1 + e1, (lsn : Int), 1 + e2, 3, 1 + f1, 0, f2, f3, ⟨#[]⟩, s1⟩) := L13.out.next hi hd
      clear hd hi L13
      obtain ⟨c0, c1, c2, c3, c4, c5, c6, c7, c8, c9⟩ := box10 L14.out.bx
      obtain ⟨z0, z1, z2, z3, z4, z5, z6, z7, z8, z9⟩ := thaw10 L14.out.bx
      obtain ⟨w15, hw15⟩ : ∃ W, w14.setCell ⟨w3.heap.size, 5, none⟩ (.int .i64 (f4)) = W := ⟨_, rfl⟩
      have L15 : Hid (LS w0 w g a n c zs w15 (T + 8) w3.heap.size ⟨1 + e1, (lsn : Int), 1 + e2, 3, 1 + f1, f4, f2, f3, ⟨#[]⟩, s1⟩) := by unfold Hid; rw [← hw15]; exact L14.out.store 5 _ _ rfl
      obtain ⟨d0, d1, d2, d3, d4, d5, d6, d7, d8, d9⟩ := box10 L15.out.bx
      obtain ⟨q0, q1, q2, q3, q4, q5, q6, q7, q8, q9⟩ := thaw10 L15.out.bx
      obtain ⟨y0, y1, y2, y3, y4, y5, y6, y7, y8, y9⟩ := box10 L15.out.r0
      obtain ⟨x0, x1, x2, x3, x4, x5, x6, x7, x8, x9⟩ := thaw10 L15.out.r0
      go_wp2
      refine retR1 Tryd.results94 rfl rfl (put10_box (D0 := zeroR) L15.out.r0 ⟨1 + e1, (lsn : Int), 1 + e2, 3, 1 + f1, f4, f2, f3, ⟨#[]⟩, s1⟩) ⟨⟨⟨1 + e1, (lsn : Int), 1 + e2, 3, 1 + f1, f4, f2, f3, ⟨#[]⟩, s1⟩, rfl, ?_⟩, ?_⟩
      · have := s1s.out; exact ok_step (by show 1 ≤ 1 + e1 ∧ 1 + e1 ≤ 60; omega) (by show 1 ≤ (lsn : Int) ∧ (lsn : Int) ≤ 60; omega) (drs3 (by omega) (by omega) (by omega) (by omega) (by omega) (by omega))
      · exact put10_inn L15.out ⟨1 + e1, (lsn : Int), 1 + e2, 3, 1 + f1, f4, f2, f3, ⟨#[]⟩, s1⟩
    · skip
      obtain ⟨x4, hx4⟩ : ∃ W, w3.alloc (.cells #[.int .i64 0, .int .i64 0, .int .i64 0, .int .i64 0, .int .i64 0, .int .i64 0, .int .i64 0, .int .i64 0, .string ⟨#[]⟩, .string ⟨#[]⟩] 28) = W := ⟨_, rfl⟩
      have bx : Box x4 w3.heap.size 28 #[.int .i64 0, .int .i64 0, .int .i64 0, .int .i64 0, .int .i64 0, .int .i64 0, .int .i64 0, .int .i64 0, .string ⟨#[]⟩, .string ⟨#[]⟩] := by rw [← hx4]; exact Box.new _ _ _
      obtain ⟨y0, y1, y2, y3, y4, y5, y6, y7, y8, y9⟩ := box10 bx
      obtain ⟨u0, u1, u2, u3, u4, u5, u6, u7, u8, u9⟩ := thaw10 bx
      obtain ⟨w4, hp4⟩ : ∃ W, put10 x4 w3.heap.size ⟨1 + e1, (lsn : Int), 1 + e2, 4, 0, 0, 0, 0, ⟨#[]⟩, ⟨#[]⟩⟩ = W := ⟨_, rfl⟩
      have hw4 := hp4
      unfold put10 at hw4
      dsimp only at hw4
      have hb4 : Below w3.heap.size w3 w4 := by rw [← hp4]; exact put10_below (by rw [← hx4]; exact (Below.refl _ _).alloc (Nat.le_refl _) _) (Nat.le_refl _) _
      have L4 : Hid (LS w0 w g a n c zs w4 (T + 3) w3.heap.size ⟨1 + e1, (lsn : Int), 1 + e2, 4, 0, 0, 0, 0, ⟨#[]⟩, ⟨#[]⟩⟩) := ⟨I3.out.trans (Inn.of_below hb4), D3.out.below hb4, R3.out.belowS hb4, by rw [← hp4]; exact put10_box (D0 := zeroR) bx _, l3, gl⟩
      obtain ⟨c0, c1, c2, c3, c4, c5, c6, c7, c8, c9⟩ := box10 L4.out.bx
      obtain ⟨z0, z1, z2, z3, z4, z5, z6, z7, z8, z9⟩ := thaw10 L4.out.bx
      clear bx hb4 hp4
      go_wp2_with fail
      clear c0 c1 c2 c3 c4 c5 c6 c7 c8 c9 z0 z1 z2 z3 z4 z5 z6 z7 z8 z9
      refine (c_next w0 w4 g a n c (T + 3) zs ((lsn : Int) - 1) L4.out.drw (by omega) (by omega)).mono ?_
      rintro e w5 ⟨⟨f1, rfl, f1l, f1h⟩, hd, hi⟩
      have L5 : Hid (LS w0 w g a n c zs w5 (T + 4) w3.heap.size ⟨1 + e1, (lsn : Int), 1 + e2, 4, 0, 0, 0, 0, ⟨#[]⟩, ⟨#[]⟩⟩) := L4.out.next hi hd
      clear hd hi L4
      obtain ⟨c0, c1, c2, c3, c4, c5, c6, c7, c8, c9⟩ := box10 L5.out.bx
      obtain ⟨z0, z1, z2, z3, z4, z5, z6, z7, z8, z9⟩ := thaw10 L5.out.bx
      obtain ⟨w6, hw6⟩ : ∃ W, w5.setCell ⟨w3.heap.size, 4, none⟩ (.int .i64 (1 + f1)) = W := ⟨_, rfl⟩
      have L6 : Hid (LS w0 w g a n c zs w6 (T + 4) w3.heap.size ⟨1 + e1, (lsn : Int), 1 + e2, 4, 1 + f1, 0, 0, 0, ⟨#[]⟩, ⟨#[]⟩⟩) := by unfold Hid; rw [← hw6]; exact L5.out.store 4 _ _ rfl
      obtain ⟨d0, d1, d2, d3, d4, d5, d6, d7, d8, d9⟩ := box10 L6.out.bx
      obtain ⟨q0, q1, q2, q3, q4, q5, q6, q7, q8, q9⟩ := thaw10 L6.out.bx
      obtain ⟨y0, y1, y2, y3, y4, y5, y6, y7, y8, y9⟩ := box10 L6.out.r0
      obtain ⟨x0, x1, x2, x3, x4, x5, x6, x7, x8, x9⟩ := thaw10 L6.out.r0
      go_wp2
      refine retR1 Tryd.results94 rfl rfl (put10_box (D0 := zeroR) L6.out.r0 ⟨1 + e1, (lsn : Int), 1 + e2, 4, 1 + f1, 0, 0, 0, ⟨#[]⟩, ⟨#[]⟩⟩) ⟨⟨⟨1 + e1, (lsn : Int), 1 + e2, 4, 1 + f1, 0, 0, 0, ⟨#[]⟩, ⟨#[]⟩⟩, rfl, ?_⟩, ?_⟩
      · exact ok_step (by show 1 ≤ 1 + e1 ∧ 1 + e1 ≤ 60; omega) (by show 1 ≤ (lsn : Int) ∧ (lsn : Int) ≤ 60; omega) (drs4 (by omega) (by omega))
      · exact put10_inn L6.out ⟨1 + e1, (lsn : Int), 1 + e2, 4, 1 + f1, 0, 0, 0, ⟨#[]⟩, ⟨#[]⟩⟩
    · skip
      obtain ⟨x4, hx4⟩ : ∃ W, w3.alloc (.cells #[.int .i64 0, .int .i64 0, .int .i64 0, .int .i64 0, .int .i64 0, .int .i64 0, .int .i64 0, .int .i64 0, .string ⟨#[]⟩, .string ⟨#[]⟩] 28) = W := ⟨_, rfl⟩
      have bx : Box x4 w3.heap.size 28 #[.int .i64 0, .int .i64 0, .int .i64 0, .int .i64 0, .int .i64 0, .int .i64 0, .int .i64 0, .int .i64 0, .string ⟨#[]⟩, .string ⟨#[]⟩] := by rw [← hx4]; exact Box.new _ _ _
      obtain ⟨y0, y1, y2, y3, y4, y5, y6, y7, y8, y9⟩ := box10 bx
      obtain ⟨u0, u1, u2, u3, u4, u5, u6, u7, u8, u9⟩ := thaw10 bx
      obtain ⟨w4, hp4⟩ : ∃ W, put10 x4 w3.heap.size ⟨1 + e1, (lsn : Int), 1 + e2, 5, 0, 0, 0, 0, ⟨#[]⟩, ⟨#[]⟩⟩ = W := ⟨_, rfl⟩
      have hw4 := hp4
      unfold put10 at hw4
      dsimp only at hw4
      have hb4 : Below w3.heap.size w3 w4 := by rw [← hp4]; exact put10_below (by rw [← hx4]; exact (Below.refl _ _).alloc (Nat.le_refl _) _) (Nat.le_refl _) _
      have L4 : Hid (LS w0 w g a n c zs w4 (T + 3) w3.heap.size ⟨1 + e1, (lsn : Int), 1 + e2, 5, 0, 0, 0, 0, ⟨#[]⟩, ⟨#[]⟩⟩) := ⟨I3.out.trans (Inn.of_below hb4), D3.out.below hb4, R3.out.belowS hb4, by rw [← hp4]; exact put10_box (D0 := zeroR) bx _, l3, gl⟩
      obtain ⟨c0, c1, c2, c3, c4, c5, c6, c7, c8, c9⟩ := box10 L4.out.bx
      obtain ⟨z0, z1, z2, z3, z4, z5, z6, z7, z8, z9⟩ := thaw10 L4.out.bx
      clear bx hb4 hp4
      go_wp2_with fail
      clear c0 c1 c2 c3 c4 c5 c6 c7 c8 c9 z0 z1 z2 z3 z4 z5 z6 z7 z8 z9
      refine (c_next w0 w4 g a n c (T + 3) zs ((lsn : Int) - 1) L4.out.drw (by omega) (by omega)).mono ?_
      rintro e w5 ⟨⟨f1, rfl, f1l, f1h⟩, hd, hi⟩
      have L5 : Hid (LS w0 w g a n c zs w5 (T + 4) w3.heap.size ⟨1 + e1, (lsn : Int), 1 + e2, 5, 0, 0, 0, 0, ⟨#[]⟩, ⟨#[]⟩⟩) := L4.out.next hi hd
      clear hd hi L4
      obtain ⟨c0, c1, c2, c3, c4, c5, c6, c7, c8, c9⟩ := box10 L5.out.bx
      obtain ⟨z0, z1, z2, z3, z4, z5, z6, z7, z8, z9⟩ := thaw10 L5.out.bx
      obtain ⟨w6, hw6⟩ : ∃ W, w5.setCell ⟨w3.heap.size, 4, none⟩ (.int .i64 (1 + f1)) = W := ⟨_, rfl⟩
      have L6 : Hid (LS w0 w g a n c zs w6 (T + 4) w3.heap.size ⟨1 + e1, (lsn : Int), 1 + e2, 5, 1 + f1, 0, 0, 0, ⟨#[]⟩, ⟨#[]⟩⟩) := by unfold Hid; rw [← hw6]; exact L5.out.store 4 _ _ rfl
      obtain ⟨d0, d1, d2, d3, d4, d5, d6, d7, d8, d9⟩ := box10 L6.out.bx
      obtain ⟨q0, q1, q2, q3, q4, q5, q6, q7, q8, q9⟩ := thaw10 L6.out.bx
      obtain ⟨y0, y1, y2, y3, y4, y5, y6, y7, y8, y9⟩ := box10 L6.out.r0
      obtain ⟨x0, x1, x2, x3, x4, x5, x6, x7, x8, x9⟩ := thaw10 L6.out.r0
      go_wp2
      refine retR1 Tryd.results94 rfl rfl (put10_box (D0 := zeroR) L6.out.r0 ⟨1 + e1, (lsn : Int), 1 + e2, 5, 1 + f1, 0, 0, 0, ⟨#[]⟩, ⟨#[]⟩⟩) ⟨⟨⟨1 + e1, (lsn : Int), 1 + e2, 5, 1 + f1, 0, 0, 0, ⟨#[]⟩, ⟨#[]⟩⟩, rfl, ?_⟩, ?_⟩
      · exact ok_step (by show 1 ≤ 1 + e1 ∧ 1 + e1 ≤ 60; omega) (by show 1 ≤ (lsn : Int) ∧ (lsn : Int) ≤ 60; omega) (drs5 (by omega) (by omega))
      · exact put10_inn L6.out ⟨1 + e1, (lsn : Int), 1 + e2, 5, 1 + f1, 0, 0, 0, ⟨#[]⟩, ⟨#[]⟩⟩
    · skip
      obtain ⟨x4, hx4⟩ : ∃ W, w3.alloc (.cells #[.int .i64 0, .int .i64 0, .int .i64 0, .int .i64 0, .int .i64 0, .int .i64 0, .int .i64 0, .int .i64 0, .string ⟨#[]⟩, .string ⟨#[]⟩] 28) = W := ⟨_, rfl⟩
      have bx : Box x4 w3.heap.size 28 #[.int .i64 0, .int .i64 0, .int .i64 0, .int .i64 0, .int .i64 0, .int .i64 0, .int .i64 0, .int .i64 0, .string ⟨#[]⟩, .string ⟨#[]⟩] := by rw [← hx4]; exact Box.new _ _ _
      obtain ⟨y0, y1, y2, y3, y4, y5, y6, y7, y8, y9⟩ := box10 bx
      obtain ⟨u0, u1, u2, u3, u4, u5, u6, u7, u8, u9⟩ := thaw10 bx
      obtain ⟨w4, hp4⟩ : ∃ W, put10 x4 w3.heap.size ⟨1 + e1, (lsn : Int), 1 + e2, 6, 0, 0, 0, 0, ⟨#[]⟩, ⟨#[]⟩⟩ = W := ⟨_, rfl⟩
      have hw4 := hp4
      unfold put10 at hw4
      dsimp only at hw4
      have hb4 : Below w3.heap.size w3 w4 := by rw [← hp4]; exact put10_below (by rw [← hx4]; exact (Below.refl _ _).alloc (Nat.le_refl _) _) (Nat.le_refl _) _
      have L4 : Hid (LS w0 w g a n c zs w4 (T + 3) w3.heap.size ⟨1 + e1, (lsn : Int), 1 + e2, 6, 0, 0, 0, 0, ⟨#[]⟩, ⟨#[]⟩⟩) := ⟨I3.out.trans (Inn.of_below hb4), D3.out.below hb4, R3.out.belowS hb4, by rw [← hp4]; exact put10_box (D0 := zeroR) bx _, l3, gl⟩
      obtain ⟨c0, c1, c2, c3, c4, c5, c6, c7, c8, c9⟩ := box10 L4.out.bx
      obtain ⟨z0, z1, z2, z3, z4, z5, z6, z7, z8, z9⟩ := thaw10 L4.out.bx
      clear bx hb4 hp4
      obtain ⟨w5, hw5⟩ : ∃ W, w4.setCell ⟨w3.heap.size, 2, none⟩ (.int .i64 (0)) = W := ⟨_, rfl⟩
      have L5 : Hid (LS w0 w g a n c zs w5 (T + 3) w3.heap.size ⟨1 + e1, (lsn : Int), 0, 6, 0, 0, 0, 0, ⟨#[]⟩, ⟨#[]⟩⟩) := by unfold Hid; rw [← hw5]; exact L4.out.store 2 _ _ rfl
      obtain ⟨d0, d1, d2, d3, d4, d5, d6, d7, d8, d9⟩ := box10 L5.out.bx
      obtain ⟨q0, q1, q2, q3, q4, q5, q6, q7, q8, q9⟩ := thaw10 L5.out.bx
      obtain ⟨v6, hv6⟩ : ∃ W, w5.alloc (.cells #[] 185) = W := ⟨_, rfl⟩
      obtain ⟨w6, hw6⟩ : ∃ W, v6.alloc (.cells #[] 185) = W := ⟨_, rfl⟩
      have hb6 : Below w5.heap.size w5 w6 := by rw [← hw6, ← hv6]; exact ((Below.refl _ _).alloc (Nat.le_refl _) _).alloc (by simp) _
      have L6 : Hid (LS w0 w g a n c zs w6 (T + 3) w3.heap.size ⟨1 + e1, (lsn : Int), 0, 6, 0, 0, 0, 0, ⟨#[]⟩, ⟨#[]⟩⟩) := L5.out.below hb6
      go_wp2_with fail
      clear c0 c1 c2 c3 c4 c5 c6 c7 c8 c9 z0 z1 z2 z3 z4 z5 z6 z7 z8 z9
      clear L4
      clear d0 d1 d2 d3 d4 d5 d6 d7 d8 d9 q0 q1 q2 q3 q4 q5 q6 q7 q8 q9
      refine (c_chkT 0 _ _ _ _ 0 0 0 0 w6 (by omega) (fun h => by omega) (fun h => by omega) (by omega) (by omega)).mono ?_
      rintro e w7 ⟨rfl, hb⟩
      have L7 : Hid (LS w0 w g a n c zs w7 (T + 3) w3.heap.size ⟨1 + e1, (lsn : Int), 0, 6, 0, 0, 0, 0, ⟨#[]⟩, ⟨#[]⟩⟩) := L6.out.below hb
      clear hb L6
      obtain ⟨d0, d1, d2, d3, d4, d5, d6, d7, d8, d9⟩ := box10 L7.out.bx
      obtain ⟨q0, q1, q2, q3, q4, q5, q6, q7, q8, q9⟩ := thaw10 L7.out.bx
      obtain ⟨w8, hw8⟩ : ∃ W, w7.setCell ⟨w3.heap.size, 9, none⟩ (.string (chkT 0 0 0 0 0)) = W := ⟨_, rfl⟩
      have L8 : Hid (LS w0 w g a n c zs w8 (T + 3) w3.heap.size ⟨1 + e1, (lsn : Int), 0, 6, 0, 0, 0, 0, ⟨#[]⟩, chkT 0 0 0 0 0⟩) := by unfold Hid; rw [← hw8]; exact L7.out.store 9 _ _ rfl
      obtain ⟨c0, c1, c2, c3, c4, c5, c6, c7, c8, c9⟩ := box10 L8.out.bx
      obtain ⟨z0, z1, z2, z3, z4, z5, z6, z7, z8, z9⟩ := thaw10 L8.out.bx
      obtain ⟨v9, hv9⟩ : ∃ W, w8.alloc (.cells #[.int .i64 1, .int .i64 1] 185) = W := ⟨_, rfl⟩
      obtain ⟨w9, hw9⟩ : ∃ W, v9.alloc (.cells #[.int .i64 1, .int .i64 ((lsn : Int) - 1)] 185) = W := ⟨_, rfl⟩
      have hb9 : Below w8.heap.size w8 w9 := by rw [← hw9, ← hv9]; exact ((Below.refl _ _).alloc (Nat.le_refl _) _).alloc (by simp) _
      have L9 : Hid (LS w0 w g a n c zs w9 (T + 3) w3.heap.size ⟨1 + e1, (lsn : Int), 0, 6, 0, 0, 0, 0, ⟨#[]⟩, chkT 0 0 0 0 0⟩) := L8.out.below hb9
      have P1 : Hid (PairAt w9 (some ⟨w8.heap.size, 0, none⟩) 1 1) := by unfold Hid; have q := (Box.new w8 #[.int .i64 1, .int .i64 1] 185).alloc (.cells #[.int .i64 1, .int .i64 ((lsn : Int) - 1)] 185); rw [hv9, hw9] at q; exact ⟨_, 0, rfl, q.lt, q.cell 0, q.cell 1⟩
      have P2 : Hid (PairAt w9 (some ⟨v9.heap.size, 0, none⟩) 1 ((lsn : Int) - 1)) := by unfold Hid; have q := Box.new v9 #[.int .i64 1, .int .i64 ((lsn : Int) - 1)] 185; rw [hw9] at q; exact ⟨_, 0, rfl, q.lt, q.cell 0, q.cell 1⟩
      have hgt : (1 : Int) < (lsn : Int) := by omega
      go_wp2_with fail
      clear d0 d1 d2 d3 d4 d5 d6 d7 d8 d9 q0 q1 q2 q3 q4 q5 q6 q7 q8 q9
      clear L7
      clear c0 c1 c2 c3 c4 c5 c6 c7 c8 c9 z0 z1 z2 z3 z4 z5 z6 z7 z8 z9
      refine (c_chkT 1 _ _ _ _ 1 1 1 ((lsn : Int) - 1) w9 (by omega) (fun _ => P1.out) (fun _ => P2.out) (by omega) (by omega)).mono ?_
      rintro e w10 ⟨rfl, hb⟩
      have L10 : Hid (LS w0 w g a n c zs w10 (T + 3) w3.heap.size ⟨1 + e1, (lsn : Int), 0, 6, 0, 0, 0, 0, ⟨#[]⟩, chkT 0 0 0 0 0⟩) := L9.out.below hb
      clear hb L9
      obtain ⟨c0, c1, c2, c3, c4, c5, c6, c7, c8, c9⟩ := box10 L10.out.bx
      obtain ⟨z0, z1, z2, z3, z4, z5, z6, z7, z8, z9⟩ := thaw10 L10.out.bx
      obtain ⟨w11, hw11⟩ : ∃ W, w10.setCell ⟨w3.heap.size, 9, none⟩ (.string (chkT 1 1 1 1 ((lsn : Int) - 1))) = W := ⟨_, rfl⟩
      have L11 : Hid (LS w0 w g a n c zs w11 (T + 3) w3.heap.size ⟨1 + e1, (lsn : Int), 0, 6, 0, 0, 0, 0, ⟨#[]⟩, chkT 1 1 1 1 ((lsn : Int) - 1)⟩) := by unfold Hid; rw [← hw11]; exact L10.out.store 9 _ _ rfl
      obtain ⟨d0, d1, d2, d3, d4, d5, d6, d7, d8, d9⟩ := box10 L11.out.bx
      obtain ⟨q0, q1, q2, q3, q4, q5, q6, q7, q8, q9⟩ := thaw10 L11.out.bx
      obtain ⟨y0, y1, y2, y3, y4, y5, y6, y7, y8, y9⟩ := box10 L11.out.r0
      obtain ⟨x0, x1, x2, x3, x4, x5, x6, x7, x8, x9⟩ := thaw10 L11.out.r0
      go_wp2
      refine retR1 Tryd.results94 rfl rfl (put10_box (D0 := zeroR) L11.out.r0 ⟨1 + e1, (lsn : Int), 0, 6, 0, 0, 0, 0, ⟨#[]⟩, chkT 1 1 1 1 ((lsn : Int) - 1)⟩) ⟨⟨⟨1 + e1, (lsn : Int), 0, 6, 0, 0, 0, 0, ⟨#[]⟩, chkT 1 1 1 1 ((lsn : Int) - 1)⟩, rfl, ?_⟩, ?_⟩
      · exact ok_six (by omega) (by omega) (ck_one lsn (by omega) (by omega))
      · exact put10_inn L11.out ⟨1 + e1, (lsn : Int), 0, 6, 0, 0, 0, 0, ⟨#[]⟩, chkT 1 1 1 1 ((lsn : Int) - 1)⟩

end Go.Proofs.YtbjefhdacfijpaaDoor
