/-
  The walk of the law of NewEngine.
-/
import Derived.Test.YtlocgbjdnfnilaaDoorNeb
namespace Go.Proofs.YtlocgbjdnfnilaaDoor
open Go Go.RowKit
attribute [local go_sem ↓] Go.wp_at_zero Go.wp_at_succ

theorem RdV.inn0 {w w' : World} {B E : Nat} {a : Option Addr} {n : Nat} {xs : List Value} (h : RdV w a n xs) (hb : Inn B E w w') (ha : ∀ x, a = some x → x.block < B ∨ E ≤ x.block) : RdV w' a n xs := by
  obtain ⟨h1, h3⟩ := h
  refine ⟨h1, fun hn => ?_⟩
  obtain ⟨b, off, e, hlt, hc⟩ := h3 hn
  exact ⟨b, off, e, Nat.lt_of_lt_of_le hlt hb.size, fun i hi => (World.cell?_of_block (hb.block b hlt (ha _ e))).trans (hc i hi)⟩
set_option maxRecDepth 100000 in
set_option maxHeartbeats 8000000 in
theorem lawNE (w : World) (ht : TabH w) :
    Calls Tryd.prog 4 #[] w fun e w' => e = .returned (.bool true) ∧ Below w.heap.size w w' := by
  have HT : Hid (TabH w) := ht
  clear ht
  go_enter Tryd.func4, Tryd.ntmps4
  go_wp2_with fail
  refine (c_specNE w).mono ?_
  rintro e w1 ⟨⟨hw, tw, rfl, ow, _⟩, hb⟩
  obtain ⟨xw2, hxw2⟩ : ∃ W, w1.alloc (.cells #[.slice none 0 0, .slice none 0 0, .bool false, .slice none 0 0, .int .i64 0, .slice none 0 0, .int .i64 0, .slice none 0 0, .int .i64 0, .bool false, .slice none 0 0, .slice none 0 0, .slice none 0 0, .int .i64 0] 37) = W := ⟨_, rfl⟩
  have ba : Box xw2 w1.heap.size 37 #[.slice none 0 0, .slice none 0 0, .bool false, .slice none 0 0, .int .i64 0, .slice none 0 0, .int .i64 0, .slice none 0 0, .int .i64 0, .bool false, .slice none 0 0, .slice none 0 0, .slice none 0 0, .int .i64 0] := by rw [← hxw2]; exact Box.new _ _ _
  obtain ⟨y0, y1, y2, y3, y4, y5, y6, y7, y8, y9, y10, y11, y12, y13⟩ := box14 ba
  have z0 := ba.thaw 0
  have z1 := ba.thaw 1
  have z2 := ba.thaw 2
  have z3 := ba.thaw 3
  have z4 := ba.thaw 4
  have z5 := ba.thaw 5
  have z6 := ba.thaw 6
  have z7 := ba.thaw 7
  have z8 := ba.thaw 8
  have z9 := ba.thaw 9
  have z10 := ba.thaw 10
  have z11 := ba.thaw 11
  have z12 := ba.thaw 12
  have z13 := ba.thaw 13
  obtain ⟨w2, hpw2⟩ : ∃ W, put14 xw2 w1.heap.size (.slice hw.a0 69 hw.c0) (.slice hw.a1 0 hw.c1) (.bool false) (.slice hw.a2 0 hw.c2) (.int .i64 1) (.slice hw.a3 0 hw.c3) (.int .i64 0) (.slice hw.a4 0 hw.c4) (.int .i64 0) (.bool true) (.slice tw.a5 0 tw.c5) (.slice tw.a6 0 tw.c6) (.slice tw.a7 0 tw.c7) (.int .i64 1) = W := ⟨_, rfl⟩
  have hww2 := hpw2
  unfold put14 at hww2
  have hb12 : Below w1.heap.size w1 w2 := by rw [← hpw2]; exact put14_below (by rw [← hxw2]; exact (Below.refl _ _).alloc (Nat.le_refl _) _) (Nat.le_refl _) _ _ _ _ _ _ _ _ _ _ _ _ _ _
  have B2 : Hid (Below w.heap.size w w2) := hb.trans (hb12.mono hb.size)
  have YW2 : Hid (Box w2 w1.heap.size 37 #[.slice hw.a0 69 hw.c0, .slice hw.a1 0 hw.c1, .bool false, .slice hw.a2 0 hw.c2, .int .i64 1, .slice hw.a3 0 hw.c3, .int .i64 0, .slice hw.a4 0 hw.c4, .int .i64 0, .bool true, .slice tw.a5 0 tw.c5, .slice tw.a6 0 tw.c6, .slice tw.a7 0 tw.c7, .int .i64 1]) := by unfold Hid; rw [← hpw2]; exact put14_box ba _ _ _ _ _ _ _ _ _ _ _ _ _ _
  have RW2 : Hid (RdV w2 hw.a0 69 (S0.map Value.string)) := (RdV.own ow).below hb12
  have q0 : w.heap.size ≤ w1.heap.size := hb.size
  have q12 : w1.heap.size < w2.heap.size := YW2.out.lt
  have LW : Hid (∀ x, hw.a0 = some x → x.block < w1.heap.size) := fun x e => (ow.lt x.block (by rw [ob_slice]; unfold ob; rw [e]; rfl)).2
  clear hb hb12 ow
  go_wp2_with fail
  clear ba hpw2 hxw2 hww2 y0 y1 y2 y3 y4 y5 y6 y7 y8 y9 y10 y11 y12 y13 z0 z1 z2 z3 z4 z5 z6 z7 z8 z9 z10 z11 z12 z13
  refine (c_implNE w2 (HT.out.below B2.out)).mono ?_
  rintro e w3 ⟨⟨hg, tg, rfl, og, lg⟩, hb⟩
  have OG3 : Hid (w3.ownsRow w2.heap.size 9 1 (.slice hg.a0 69 hg.c0) 69 (S0.map Value.string)) := og
  have LG : Hid (∀ g, ob hg.a0 = some g → g < w3.heap.size) := lg
  have q23 : w2.heap.size ≤ w3.heap.size := hb.size
  have B3 : Hid (Below w.heap.size w w3) := B2.out.trans (Below.mono hb B2.out.size)
  have YW3 : Hid (Box w3 w1.heap.size 37 #[.slice hw.a0 69 hw.c0, .slice hw.a1 0 hw.c1, .bool false, .slice hw.a2 0 hw.c2, .int .i64 1, .slice hw.a3 0 hw.c3, .int .i64 0, .slice hw.a4 0 hw.c4, .int .i64 0, .bool true, .slice tw.a5 0 tw.c5, .slice tw.a6 0 tw.c6, .slice tw.a7 0 tw.c7, .int .i64 1]) := YW2.out.belowS hb
  have RW3 : Hid (RdV w3 hw.a0 69 (S0.map Value.string)) := RW2.out.below hb
  clear B2 YW2 RW2
  clear hb og lg
  obtain ⟨xw4, hxw4⟩ : ∃ W, w3.alloc (.cells #[.slice none 0 0, .slice none 0 0, .bool false, .slice none 0 0, .int .i64 0, .slice none 0 0, .int .i64 0, .slice none 0 0, .int .i64 0, .bool false, .slice none 0 0, .slice none 0 0, .slice none 0 0, .int .i64 0] 37) = W := ⟨_, rfl⟩
  have ba : Box xw4 w3.heap.size 37 #[.slice none 0 0, .slice none 0 0, .bool false, .slice none 0 0, .int .i64 0, .slice none 0 0, .int .i64 0, .slice none 0 0, .int .i64 0, .bool false, .slice none 0 0, .slice none 0 0, .slice none 0 0, .int .i64 0] := by rw [← hxw4]; exact Box.new _ _ _
  obtain ⟨y0, y1, y2, y3, y4, y5, y6, y7, y8, y9, y10, y11, y12, y13⟩ := box14 ba
  have z0 := ba.thaw 0
  have z1 := ba.thaw 1
  have z2 := ba.thaw 2
  have z3 := ba.thaw 3
  have z4 := ba.thaw 4
  have z5 := ba.thaw 5
  have z6 := ba.thaw 6
  have z7 := ba.thaw 7
  have z8 := ba.thaw 8
  have z9 := ba.thaw 9
  have z10 := ba.thaw 10
  have z11 := ba.thaw 11
  have z12 := ba.thaw 12
  have z13 := ba.thaw 13
  obtain ⟨w4, hpw4⟩ : ∃ W, put14 xw4 w3.heap.size (.slice hg.a0 69 hg.c0) (.slice hg.a1 0 hg.c1) (.bool false) (.slice hg.a2 0 hg.c2) (.int .i64 1) (.slice hg.a3 0 hg.c3) (.int .i64 0) (.slice hg.a4 0 hg.c4) (.int .i64 0) (.bool true) (.slice tg.a5 0 tg.c5) (.slice tg.a6 0 tg.c6) (.slice tg.a7 0 tg.c7) (.int .i64 1) = W := ⟨_, rfl⟩
  have hww4 := hpw4
  unfold put14 at hww4
  have hb : Below w3.heap.size w3 w4 := by rw [← hpw4]; exact put14_below (by rw [← hxw4]; exact (Below.refl _ _).alloc (Nat.le_refl _) _) (Nat.le_refl _) _ _ _ _ _ _ _ _ _ _ _ _ _ _
  have YG4 : Hid (Box w4 w3.heap.size 37 #[.slice hg.a0 69 hg.c0, .slice hg.a1 0 hg.c1, .bool false, .slice hg.a2 0 hg.c2, .int .i64 1, .slice hg.a3 0 hg.c3, .int .i64 0, .slice hg.a4 0 hg.c4, .int .i64 0, .bool true, .slice tg.a5 0 tg.c5, .slice tg.a6 0 tg.c6, .slice tg.a7 0 tg.c7, .int .i64 1]) := by unfold Hid; rw [← hpw4]; exact put14_box ba _ _ _ _ _ _ _ _ _ _ _ _ _ _
  have OG4 : Hid (w4.ownsRow w2.heap.size 9 1 (.slice hg.a0 69 hg.c0) 69 (S0.map Value.string)) := own_same OG3.out (fun k e => hb.block k (LG.out k (by rw [← ob_slice]; exact e)))
  have q34 : w3.heap.size < w4.heap.size := YG4.out.lt
  have B4 : Hid (Below w.heap.size w w4) := B3.out.trans (Below.mono hb B3.out.size)
  have YW4 : Hid (Box w4 w1.heap.size 37 #[.slice hw.a0 69 hw.c0, .slice hw.a1 0 hw.c1, .bool false, .slice hw.a2 0 hw.c2, .int .i64 1, .slice hw.a3 0 hw.c3, .int .i64 0, .slice hw.a4 0 hw.c4, .int .i64 0, .bool true, .slice tw.a5 0 tw.c5, .slice tw.a6 0 tw.c6, .slice tw.a7 0 tw.c7, .int .i64 1]) := YW3.out.belowS hb
  have RW4 : Hid (RdV w4 hw.a0 69 (S0.map Value.string)) := RW3.out.below hb
  clear B3 YW3 RW3
  clear hb OG3
  obtain ⟨v0, v1, v2, v3, v4, v5, v6, v7, v8, v9, v10, v11, v12, v13⟩ := box14 YG4.out
  obtain ⟨u0, u1, u2, u3, u4, u5, u6, u7, u8, u9, u10, u11, u12, u13⟩ := box14 YW4.out
  go_wp2_with fail
  clear ba hpw4 hxw4 hww4 y0 y1 y2 y3 y4 y5 y6 y7 y8 y9 y10 y11 y12 y13 z0 z1 z2 z3 z4 z5 z6 z7 z8 z9 z10 z11 z12 z13
  refine (c_eqE hg hw tg tw S0 w4 (RdV.own OG4.out) RW4.out).mono ?_
  rintro e w5 ⟨rfl, hb⟩
  have q45 : w4.heap.size ≤ w5.heap.size := hb.size
  have OG5 : Hid (w5.ownsRow w2.heap.size 9 1 (.slice hg.a0 69 hg.c0) 69 (S0.map Value.string)) := own_same OG4.out (fun k e => hb.block k (by have := LG.out k (by rw [← ob_slice]; exact e); omega))
  have B5 : Hid (Below w.heap.size w w5) := B4.out.trans (Below.mono hb B4.out.size)
  have YW5 : Hid (Box w5 w1.heap.size 37 #[.slice hw.a0 69 hw.c0, .slice hw.a1 0 hw.c1, .bool false, .slice hw.a2 0 hw.c2, .int .i64 1, .slice hw.a3 0 hw.c3, .int .i64 0, .slice hw.a4 0 hw.c4, .int .i64 0, .bool true, .slice tw.a5 0 tw.c5, .slice tw.a6 0 tw.c6, .slice tw.a7 0 tw.c7, .int .i64 1]) := YW4.out.belowS hb
  have YG5 : Hid (Box w5 w3.heap.size 37 #[.slice hg.a0 69 hg.c0, .slice hg.a1 0 hg.c1, .bool false, .slice hg.a2 0 hg.c2, .int .i64 1, .slice hg.a3 0 hg.c3, .int .i64 0, .slice hg.a4 0 hg.c4, .int .i64 0, .bool true, .slice tg.a5 0 tg.c5, .slice tg.a6 0 tg.c6, .slice tg.a7 0 tg.c7, .int .i64 1]) := YG4.out.belowS hb
  have RW5 : Hid (RdV w5 hw.a0 69 (S0.map Value.string)) := RW4.out.below hb
  clear B4 YW4 YG4 RW4
  clear hb OG4 v0 v1 v2 v3 v4 v5 v6 v7 v8 v9 v10 v11 v12 v13 u0 u1 u2 u3 u4 u5 u6 u7 u8 u9 u10 u11 u12 u13
  obtain ⟨v0, v1, v2, v3, v4, v5, v6, v7, v8, v9, v10, v11, v12, v13⟩ := box14 YG5.out
  go_wp2_with fail
  refine (c_markE hg tg w2.heap.size w3.heap.size (S0.map Value.string) w5 OG5.out LG.out (by omega)).mono ?_
  rintro e w6 ⟨rfl, om, hi⟩
  have B6 : Hid (Below w.heap.size w w6) := B5.out.trans (hi.below (by have := YW5.out.lt; have := B5.out.size; have := q0; omega) B5.out.size)
  have YW6 : Hid (Box w6 w1.heap.size 37 #[.slice hw.a0 69 hw.c0, .slice hw.a1 0 hw.c1, .bool false, .slice hw.a2 0 hw.c2, .int .i64 1, .slice hw.a3 0 hw.c3, .int .i64 0, .slice hw.a4 0 hw.c4, .int .i64 0, .bool true, .slice tw.a5 0 tw.c5, .slice tw.a6 0 tw.c6, .slice tw.a7 0 tw.c7, .int .i64 1]) := YW5.out.innO hi (.inl (by omega))
  have YG6 : Hid (Box w6 w3.heap.size 37 #[.slice hg.a0 69 hg.c0, .slice hg.a1 0 hg.c1, .bool false, .slice hg.a2 0 hg.c2, .int .i64 1, .slice hg.a3 0 hg.c3, .int .i64 0, .slice hg.a4 0 hg.c4, .int .i64 0, .bool true, .slice tg.a5 0 tg.c5, .slice tg.a6 0 tg.c6, .slice tg.a7 0 tg.c7, .int .i64 1]) := YG5.out.innO hi (.inr (by omega))
  have RW6 : Hid (RdV w6 hw.a0 69 (S0.map Value.string)) := RW5.out.inn0 hi (fun x e => .inl (by have := LW.out x e; omega))
  have RG6 : Hid (RdV w6 hg.a0 69 (marksS 1 69)) := RdV.own om
  have q56 : w5.heap.size ≤ w6.heap.size := hi.size
  clear om hi B5 YW5 YG5 RW5 OG5 v0 v1 v2 v3 v4 v5 v6 v7 v8 v9 v10 v11 v12 v13
  obtain ⟨v0, v1, v2, v3, v4, v5, v6, v7, v8, v9, v10, v11, v12, v13⟩ := box14 YG6.out
  go_wp2_with fail
  refine (c_heldE hg tg w6 RG6.out).mono ?_
  rintro e w7 ⟨rfl, hb⟩
  have B7 : Hid (Below w.heap.size w w7) := B6.out.trans (Below.mono hb B6.out.size)
  have YW7 : Hid (Box w7 w1.heap.size 37 #[.slice hw.a0 69 hw.c0, .slice hw.a1 0 hw.c1, .bool false, .slice hw.a2 0 hw.c2, .int .i64 1, .slice hw.a3 0 hw.c3, .int .i64 0, .slice hw.a4 0 hw.c4, .int .i64 0, .bool true, .slice tw.a5 0 tw.c5, .slice tw.a6 0 tw.c6, .slice tw.a7 0 tw.c7, .int .i64 1]) := YW6.out.belowS hb
  have YG7 : Hid (Box w7 w3.heap.size 37 #[.slice hg.a0 69 hg.c0, .slice hg.a1 0 hg.c1, .bool false, .slice hg.a2 0 hg.c2, .int .i64 1, .slice hg.a3 0 hg.c3, .int .i64 0, .slice hg.a4 0 hg.c4, .int .i64 0, .bool true, .slice tg.a5 0 tg.c5, .slice tg.a6 0 tg.c6, .slice tg.a7 0 tg.c7, .int .i64 1]) := YG6.out.belowS hb
  have RW7 : Hid (RdV w7 hw.a0 69 (S0.map Value.string)) := RW6.out.below hb
  have RG7 : Hid (RdV w7 hg.a0 69 (marksS 1 69)) := RG6.out.below hb
  clear B6 YW6 YG6 RW6 RG6
  clear hb v0 v1 v2 v3 v4 v5 v6 v7 v8 v9 v10 v11 v12 v13
  go_wp2_with fail
  refine (c_implNE w7 (HT.out.below B7.out)).mono ?_
  rintro e w8 ⟨⟨hh, th, rfl, oh, _⟩, hb⟩
  have OH8 := RdV.own oh
  have B8 : Hid (Below w.heap.size w w8) := B7.out.trans (Below.mono hb B7.out.size)
  have YW8 : Hid (Box w8 w1.heap.size 37 #[.slice hw.a0 69 hw.c0, .slice hw.a1 0 hw.c1, .bool false, .slice hw.a2 0 hw.c2, .int .i64 1, .slice hw.a3 0 hw.c3, .int .i64 0, .slice hw.a4 0 hw.c4, .int .i64 0, .bool true, .slice tw.a5 0 tw.c5, .slice tw.a6 0 tw.c6, .slice tw.a7 0 tw.c7, .int .i64 1]) := YW7.out.belowS hb
  have YG8 : Hid (Box w8 w3.heap.size 37 #[.slice hg.a0 69 hg.c0, .slice hg.a1 0 hg.c1, .bool false, .slice hg.a2 0 hg.c2, .int .i64 1, .slice hg.a3 0 hg.c3, .int .i64 0, .slice hg.a4 0 hg.c4, .int .i64 0, .bool true, .slice tg.a5 0 tg.c5, .slice tg.a6 0 tg.c6, .slice tg.a7 0 tg.c7, .int .i64 1]) := YG7.out.belowS hb
  have RW8 : Hid (RdV w8 hw.a0 69 (S0.map Value.string)) := RW7.out.below hb
  have RG8 : Hid (RdV w8 hg.a0 69 (marksS 1 69)) := RG7.out.below hb
  clear B7 YW7 YG7 RW7 RG7
  clear hb oh
  obtain ⟨xw9, hxw9⟩ : ∃ W, w8.alloc (.cells #[.slice none 0 0, .slice none 0 0, .bool false, .slice none 0 0, .int .i64 0, .slice none 0 0, .int .i64 0, .slice none 0 0, .int .i64 0, .bool false, .slice none 0 0, .slice none 0 0, .slice none 0 0, .int .i64 0] 37) = W := ⟨_, rfl⟩
  have ba : Box xw9 w8.heap.size 37 #[.slice none 0 0, .slice none 0 0, .bool false, .slice none 0 0, .int .i64 0, .slice none 0 0, .int .i64 0, .slice none 0 0, .int .i64 0, .bool false, .slice none 0 0, .slice none 0 0, .slice none 0 0, .int .i64 0] := by rw [← hxw9]; exact Box.new _ _ _
  obtain ⟨y0, y1, y2, y3, y4, y5, y6, y7, y8, y9, y10, y11, y12, y13⟩ := box14 ba
  have z0 := ba.thaw 0
  have z1 := ba.thaw 1
  have z2 := ba.thaw 2
  have z3 := ba.thaw 3
  have z4 := ba.thaw 4
  have z5 := ba.thaw 5
  have z6 := ba.thaw 6
  have z7 := ba.thaw 7
  have z8 := ba.thaw 8
  have z9 := ba.thaw 9
  have z10 := ba.thaw 10
  have z11 := ba.thaw 11
  have z12 := ba.thaw 12
  have z13 := ba.thaw 13
  obtain ⟨w9, hpw9⟩ : ∃ W, put14 xw9 w8.heap.size (.slice hh.a0 69 hh.c0) (.slice hh.a1 0 hh.c1) (.bool false) (.slice hh.a2 0 hh.c2) (.int .i64 1) (.slice hh.a3 0 hh.c3) (.int .i64 0) (.slice hh.a4 0 hh.c4) (.int .i64 0) (.bool true) (.slice th.a5 0 th.c5) (.slice th.a6 0 th.c6) (.slice th.a7 0 th.c7) (.int .i64 1) = W := ⟨_, rfl⟩
  have hww9 := hpw9
  unfold put14 at hww9
  have hb : Below w8.heap.size w8 w9 := by rw [← hpw9]; exact put14_below (by rw [← hxw9]; exact (Below.refl _ _).alloc (Nat.le_refl _) _) (Nat.le_refl _) _ _ _ _ _ _ _ _ _ _ _ _ _ _
  have YH9 : Hid (Box w9 w8.heap.size 37 #[.slice hh.a0 69 hh.c0, .slice hh.a1 0 hh.c1, .bool false, .slice hh.a2 0 hh.c2, .int .i64 1, .slice hh.a3 0 hh.c3, .int .i64 0, .slice hh.a4 0 hh.c4, .int .i64 0, .bool true, .slice th.a5 0 th.c5, .slice th.a6 0 th.c6, .slice th.a7 0 th.c7, .int .i64 1]) := by unfold Hid; rw [← hpw9]; exact put14_box ba _ _ _ _ _ _ _ _ _ _ _ _ _ _
  have RH9 : Hid (RdV w9 hh.a0 69 (S0.map Value.string)) := OH8.below hb
  have B9 : Hid (Below w.heap.size w w9) := B8.out.trans (Below.mono hb B8.out.size)
  have YW9 : Hid (Box w9 w1.heap.size 37 #[.slice hw.a0 69 hw.c0, .slice hw.a1 0 hw.c1, .bool false, .slice hw.a2 0 hw.c2, .int .i64 1, .slice hw.a3 0 hw.c3, .int .i64 0, .slice hw.a4 0 hw.c4, .int .i64 0, .bool true, .slice tw.a5 0 tw.c5, .slice tw.a6 0 tw.c6, .slice tw.a7 0 tw.c7, .int .i64 1]) := YW8.out.belowS hb
  have YG9 : Hid (Box w9 w3.heap.size 37 #[.slice hg.a0 69 hg.c0, .slice hg.a1 0 hg.c1, .bool false, .slice hg.a2 0 hg.c2, .int .i64 1, .slice hg.a3 0 hg.c3, .int .i64 0, .slice hg.a4 0 hg.c4, .int .i64 0, .bool true, .slice tg.a5 0 tg.c5, .slice tg.a6 0 tg.c6, .slice tg.a7 0 tg.c7, .int .i64 1]) := YG8.out.belowS hb
  have RW9 : Hid (RdV w9 hw.a0 69 (S0.map Value.string)) := RW8.out.below hb
  have RG9 : Hid (RdV w9 hg.a0 69 (marksS 1 69)) := RG8.out.below hb
  clear B8 YW8 YG8 RW8 RG8
  clear hb OH8
  obtain ⟨v0, v1, v2, v3, v4, v5, v6, v7, v8, v9, v10, v11, v12, v13⟩ := box14 YH9.out
  obtain ⟨u0, u1, u2, u3, u4, u5, u6, u7, u8, u9, u10, u11, u12, u13⟩ := box14 YW9.out
  go_wp2_with fail
  clear ba hpw9 hxw9 hww9 y0 y1 y2 y3 y4 y5 y6 y7 y8 y9 y10 y11 y12 y13 z0 z1 z2 z3 z4 z5 z6 z7 z8 z9 z10 z11 z12 z13
  refine (c_eqE hh hw th tw S0 w9 RH9.out RW9.out).mono ?_
  rintro e wA ⟨rfl, hb⟩
  have BA : Hid (Below w.heap.size w wA) := B9.out.trans (Below.mono hb B9.out.size)
  have YGA : Hid (Box wA w3.heap.size 37 #[.slice hg.a0 69 hg.c0, .slice hg.a1 0 hg.c1, .bool false, .slice hg.a2 0 hg.c2, .int .i64 1, .slice hg.a3 0 hg.c3, .int .i64 0, .slice hg.a4 0 hg.c4, .int .i64 0, .bool true, .slice tg.a5 0 tg.c5, .slice tg.a6 0 tg.c6, .slice tg.a7 0 tg.c7, .int .i64 1]) := YG9.out.belowS hb
  have RGA : Hid (RdV wA hg.a0 69 (marksS 1 69)) := RG9.out.below hb
  clear B9 YG9 RG9
  clear hb v0 v1 v2 v3 v4 v5 v6 v7 v8 v9 v10 v11 v12 v13 u0 u1 u2 u3 u4 u5 u6 u7 u8 u9 u10 u11 u12 u13 YH9 RH9
  obtain ⟨v0, v1, v2, v3, v4, v5, v6, v7, v8, v9, v10, v11, v12, v13⟩ := box14 YGA.out
  go_wp2_with fail
  refine (c_heldE hg tg wA RGA.out).mono ?_
  rintro e wB ⟨rfl, hb⟩
  have BB : Hid (Below w.heap.size w wB) := BA.out.trans (hb.mono BA.out.size)
  clear hb v0 v1 v2 v3 v4 v5 v6 v7 v8 v9 v10 v11 v12 v13
  go_wp2
  go_ret
  exact ⟨rfl, BB.out⟩

end Go.Proofs.YtlocgbjdnfnilaaDoor
