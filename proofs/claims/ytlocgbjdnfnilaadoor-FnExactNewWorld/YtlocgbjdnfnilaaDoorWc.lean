/-
  The walk of the law of NewWorld.
-/
import Derived.Test.YtlocgbjdnfnilaaDoorWb2
import Derived.Deep.RegionHeld3
import Derived.Laws.Tables
import Derived.Laws.Rows
namespace Go.Proofs.YtlocgbjdnfnilaaDoor
open Go Go.RowKit
attribute [local go_sem ↓] Go.wp_at_zero Go.wp_at_succ

set_option linter.unusedVariables false
set_option linter.unusedSimpArgs false
set_option maxRecDepth 100000 in
set_option maxHeartbeats 8000000 in
theorem lawNW (w : World) (ht : TabH w) :
    Calls Tryd.prog 3 #[] w fun e w' => e = .returned (.bool true) ∧ Below w.heap.size w w' := by
  have HT : Hid (TabH w) := ht
  clear ht
  go_enter Tryd.func3, Tryd.ntmps3
  go_wp2_with fail
  refine (c_specNW w).mono ?_
  rintro e w1 ⟨⟨hW, tW, sW, BW, EW, rfl, _, _, ow, _, _, _, qw⟩, hb⟩
  obtain ⟨xw2, hxw2⟩ : ∃ W, w1.alloc (.cells #[.slice none 0 0, .slice none 0 0, .bool false, .slice none 0 0, .int .i64 0, .slice none 0 0, .int .i64 0, .slice none 0 0, .int .i64 0, .bool false, .slice none 0 0, .slice none 0 0, .slice none 0 0, .int .i64 0, .slice none 0 0, .slice none 0 0, .slice none 0 0, .slice none 0 0, .bool false] 40) = W := ⟨_, rfl⟩
  have bzw2 : Box xw2 w1.heap.size 40 #[.slice none 0 0, .slice none 0 0, .bool false, .slice none 0 0, .int .i64 0, .slice none 0 0, .int .i64 0, .slice none 0 0, .int .i64 0, .bool false, .slice none 0 0, .slice none 0 0, .slice none 0 0, .int .i64 0, .slice none 0 0, .slice none 0 0, .slice none 0 0, .slice none 0 0, .bool false] := by rw [← hxw2]; exact Box.new _ _ _
  obtain ⟨w2, hnw2⟩ : ∃ Q, xw2.setRow w1.heap.size #[.slice hW.a0 69 hW.c0, .slice hW.a1 0 hW.c1, .bool false, .slice hW.a2 0 hW.c2, .int .i64 1, .slice hW.a3 0 hW.c3, .int .i64 0, .slice hW.a4 0 hW.c4, .int .i64 0, .bool true, .slice tW.a5 0 tW.c5, .slice tW.a6 0 tW.c6, .slice tW.a7 0 tW.c7, .int .i64 1, .slice (some ⟨sW.g, 0, none⟩) 3 3, .slice sW.ao 0 sW.co, .slice sW.ad 0 sW.cd, .slice sW.ab 0 sW.cb, .bool false] = Q := ⟨_, rfl⟩
  have ba : Box w2 w1.heap.size 40 #[.slice hW.a0 69 hW.c0, .slice hW.a1 0 hW.c1, .bool false, .slice hW.a2 0 hW.c2, .int .i64 1, .slice hW.a3 0 hW.c3, .int .i64 0, .slice hW.a4 0 hW.c4, .int .i64 0, .bool true, .slice tW.a5 0 tW.c5, .slice tW.a6 0 tW.c6, .slice tW.a7 0 tW.c7, .int .i64 1, .slice (some ⟨sW.g, 0, none⟩) 3 3, .slice sW.ao 0 sW.co, .slice sW.ad 0 sW.cd, .slice sW.ab 0 sW.cb, .bool false] := by rw [← hnw2]; exact setRow_heap xw2 w1.heap.size _ _ 40 _ bzw2
  have hb12 : Below w1.heap.size w1 w2 := by rw [← hnw2]; exact Below.grown (by rw [← hxw2]; exact (Below.refl _ _).alloc (Nat.le_refl _) _) (grown_setRow _ _ _) (by rw [← hxw2]; simp) (fun x hx => by cases hx; exact Nat.le_refl _)
  have B2 : Hid (Below w.heap.size w w2) := hb.trans (hb12.mono hb.size)
  have YW2 : Hid (Box w2 w1.heap.size 40 #[.slice hW.a0 69 hW.c0, .slice hW.a1 0 hW.c1, .bool false, .slice hW.a2 0 hW.c2, .int .i64 1, .slice hW.a3 0 hW.c3, .int .i64 0, .slice hW.a4 0 hW.c4, .int .i64 0, .bool true, .slice tW.a5 0 tW.c5, .slice tW.a6 0 tW.c6, .slice tW.a7 0 tW.c7, .int .i64 1, .slice (some ⟨sW.g, 0, none⟩) 3 3, .slice sW.ao 0 sW.co, .slice sW.ad 0 sW.cd, .slice sW.ab 0 sW.cb, .bool false]) := ba
  have RW2 : Hid (RdV w2 hW.a0 69 (S0.map Value.string)) := (RdV.own ow).below hb12
  have QW2 : Hid (Box w2 sW.g 3 #[.int .i64 0, .int .i64 0, .int .i64 0]) := qw.belowS hb12
  have q0 : w.heap.size ≤ w1.heap.size := hb.size
  have q12 : w1.heap.size < w2.heap.size := YW2.out.lt
  have LW_ : Hid (∀ x, hW.a0 = some x → x.block < w1.heap.size) := fun x e => (ow.lt x.block (by rw [ob_slice]; unfold ob; rw [e]; rfl)).2
  have lW : sW.g < w1.heap.size := qw.lt
  clear hb hb12 ow qw ba
  go_wp2_with (first | (refine wpList_store_row rfl 40 (.tmp 1) (.tmp 6) rfl w1.heap.size #[.slice hW.a0 69 hW.c0, .slice hW.a1 0 hW.c1, .bool false, .slice hW.a2 0 hW.c2, .int .i64 1, .slice hW.a3 0 hW.c3, .int .i64 0, .slice hW.a4 0 hW.c4, .int .i64 0, .bool true, .slice tW.a5 0 tW.c5, .slice tW.a6 0 tW.c6, .slice tW.a7 0 tW.c7, .int .i64 1, .slice (some ⟨sW.g, 0, none⟩) 3 3, .slice sW.ao 0 sW.co, .slice sW.ad 0 sW.cd, .slice sW.ab 0 sW.cb, .bool false] rfl rfl 40 #[.slice none 0 0, .slice none 0 0, .bool false, .slice none 0 0, .int .i64 0, .slice none 0 0, .int .i64 0, .slice none 0 0, .int .i64 0, .bool false, .slice none 0 0, .slice none 0 0, .slice none 0 0, .int .i64 0, .slice none 0 0, .slice none 0 0, .slice none 0 0, .slice none 0 0, .bool false] bzw2 (by kernel_rfl) rfl (by first | kernel_rfl | (simp [Value.oneCell'])) ?_; rw [hnw2]))
  clear hxw2 hnw2 bzw2
  refine (c_implNW w2 (HT.out.below B2.out)).mono ?_
  rintro e w3 ⟨⟨hG, tG, sG, BG, EG, rfl, gB, gE, og, lg, gs, gd, qg⟩, hb⟩
  have OG3 : Hid (w3.ownsRow BG 9 1 (.slice hG.a0 69 hG.c0) 69 (S0.map Value.string)) := og
  have LG : Hid (∀ g, ob hG.a0 = some g → g < EG) := lg
  have QG3 : Hid (Box w3 sG.g 3 #[.int .i64 0, .int .i64 0, .int .i64 0]) := qg
  have q23 : w2.heap.size ≤ w3.heap.size := hb.size
  have lG : sG.g < w3.heap.size := qg.lt
  have B3 : Hid (Below w.heap.size w w3) := B2.out.trans (Below.mono hb B2.out.size)
  have YW3 : Hid (Box w3 w1.heap.size 40 #[.slice hW.a0 69 hW.c0, .slice hW.a1 0 hW.c1, .bool false, .slice hW.a2 0 hW.c2, .int .i64 1, .slice hW.a3 0 hW.c3, .int .i64 0, .slice hW.a4 0 hW.c4, .int .i64 0, .bool true, .slice tW.a5 0 tW.c5, .slice tW.a6 0 tW.c6, .slice tW.a7 0 tW.c7, .int .i64 1, .slice (some ⟨sW.g, 0, none⟩) 3 3, .slice sW.ao 0 sW.co, .slice sW.ad 0 sW.cd, .slice sW.ab 0 sW.cb, .bool false]) := YW2.out.belowS hb
  have RW3 : Hid (RdV w3 hW.a0 69 (S0.map Value.string)) := RW2.out.below hb
  have QW3 : Hid (Box w3 sW.g 3 #[.int .i64 0, .int .i64 0, .int .i64 0]) := QW2.out.belowS hb
  clear B2 YW2 RW2 QW2
  clear hb og lg qg
  obtain ⟨xw4, hxw4⟩ : ∃ W, w3.alloc (.cells #[.slice none 0 0, .slice none 0 0, .bool false, .slice none 0 0, .int .i64 0, .slice none 0 0, .int .i64 0, .slice none 0 0, .int .i64 0, .bool false, .slice none 0 0, .slice none 0 0, .slice none 0 0, .int .i64 0, .slice none 0 0, .slice none 0 0, .slice none 0 0, .slice none 0 0, .bool false] 40) = W := ⟨_, rfl⟩
  have bzw4 : Box xw4 w3.heap.size 40 #[.slice none 0 0, .slice none 0 0, .bool false, .slice none 0 0, .int .i64 0, .slice none 0 0, .int .i64 0, .slice none 0 0, .int .i64 0, .bool false, .slice none 0 0, .slice none 0 0, .slice none 0 0, .int .i64 0, .slice none 0 0, .slice none 0 0, .slice none 0 0, .slice none 0 0, .bool false] := by rw [← hxw4]; exact Box.new _ _ _
  obtain ⟨w4, hnw4⟩ : ∃ Q, xw4.setRow w3.heap.size #[.slice hG.a0 69 hG.c0, .slice hG.a1 0 hG.c1, .bool false, .slice hG.a2 0 hG.c2, .int .i64 1, .slice hG.a3 0 hG.c3, .int .i64 0, .slice hG.a4 0 hG.c4, .int .i64 0, .bool true, .slice tG.a5 0 tG.c5, .slice tG.a6 0 tG.c6, .slice tG.a7 0 tG.c7, .int .i64 1, .slice (some ⟨sG.g, 0, none⟩) 3 3, .slice sG.ao 0 sG.co, .slice sG.ad 0 sG.cd, .slice sG.ab 0 sG.cb, .bool false] = Q := ⟨_, rfl⟩
  have ba : Box w4 w3.heap.size 40 #[.slice hG.a0 69 hG.c0, .slice hG.a1 0 hG.c1, .bool false, .slice hG.a2 0 hG.c2, .int .i64 1, .slice hG.a3 0 hG.c3, .int .i64 0, .slice hG.a4 0 hG.c4, .int .i64 0, .bool true, .slice tG.a5 0 tG.c5, .slice tG.a6 0 tG.c6, .slice tG.a7 0 tG.c7, .int .i64 1, .slice (some ⟨sG.g, 0, none⟩) 3 3, .slice sG.ao 0 sG.co, .slice sG.ad 0 sG.cd, .slice sG.ab 0 sG.cb, .bool false] := by rw [← hnw4]; exact setRow_heap xw4 w3.heap.size _ _ 40 _ bzw4
  have hb : Below w3.heap.size w3 w4 := by rw [← hnw4]; exact Below.grown (by rw [← hxw4]; exact (Below.refl _ _).alloc (Nat.le_refl _) _) (grown_setRow _ _ _) (by rw [← hxw4]; simp) (fun x hx => by cases hx; exact Nat.le_refl _)
  have YG4 : Hid (Box w4 w3.heap.size 40 #[.slice hG.a0 69 hG.c0, .slice hG.a1 0 hG.c1, .bool false, .slice hG.a2 0 hG.c2, .int .i64 1, .slice hG.a3 0 hG.c3, .int .i64 0, .slice hG.a4 0 hG.c4, .int .i64 0, .bool true, .slice tG.a5 0 tG.c5, .slice tG.a6 0 tG.c6, .slice tG.a7 0 tG.c7, .int .i64 1, .slice (some ⟨sG.g, 0, none⟩) 3 3, .slice sG.ao 0 sG.co, .slice sG.ad 0 sG.cd, .slice sG.ab 0 sG.cb, .bool false]) := ba
  have OG4 : Hid (w4.ownsRow BG 9 1 (.slice hG.a0 69 hG.c0) 69 (S0.map Value.string)) := own_below OG3.out hb
  have QG4 : Hid (Box w4 sG.g 3 #[.int .i64 0, .int .i64 0, .int .i64 0]) := QG3.out.belowS hb
  have q34 : w3.heap.size < w4.heap.size := YG4.out.lt
  have B4 : Hid (Below w.heap.size w w4) := B3.out.trans (Below.mono hb B3.out.size)
  have YW4 : Hid (Box w4 w1.heap.size 40 #[.slice hW.a0 69 hW.c0, .slice hW.a1 0 hW.c1, .bool false, .slice hW.a2 0 hW.c2, .int .i64 1, .slice hW.a3 0 hW.c3, .int .i64 0, .slice hW.a4 0 hW.c4, .int .i64 0, .bool true, .slice tW.a5 0 tW.c5, .slice tW.a6 0 tW.c6, .slice tW.a7 0 tW.c7, .int .i64 1, .slice (some ⟨sW.g, 0, none⟩) 3 3, .slice sW.ao 0 sW.co, .slice sW.ad 0 sW.cd, .slice sW.ab 0 sW.cb, .bool false]) := YW3.out.belowS hb
  have RW4 : Hid (RdV w4 hW.a0 69 (S0.map Value.string)) := RW3.out.below hb
  have QW4 : Hid (Box w4 sW.g 3 #[.int .i64 0, .int .i64 0, .int .i64 0]) := QW3.out.belowS hb
  clear B3 YW3 RW3 QW3
  clear hb OG3 QG3 ba
  go_wp2_with (first | (refine wpList_load_row rfl 40 (.tmp 2) rfl w3.heap.size rfl 40 #[.slice hG.a0 69 hG.c0, .slice hG.a1 0 hG.c1, .bool false, .slice hG.a2 0 hG.c2, .int .i64 1, .slice hG.a3 0 hG.c3, .int .i64 0, .slice hG.a4 0 hG.c4, .int .i64 0, .bool true, .slice tG.a5 0 tG.c5, .slice tG.a6 0 tG.c6, .slice tG.a7 0 tG.c7, .int .i64 1, .slice (some ⟨sG.g, 0, none⟩) 3 3, .slice sG.ao 0 sG.co, .slice sG.ad 0 sG.cd, .slice sG.ab 0 sG.cb, .bool false] (0, 0) _ YG4.out Tryd.underlying40 rfl (by kernel_rfl) ?_) | (refine wpList_load_row rfl 40 (.tmp 1) rfl w1.heap.size rfl 40 #[.slice hW.a0 69 hW.c0, .slice hW.a1 0 hW.c1, .bool false, .slice hW.a2 0 hW.c2, .int .i64 1, .slice hW.a3 0 hW.c3, .int .i64 0, .slice hW.a4 0 hW.c4, .int .i64 0, .bool true, .slice tW.a5 0 tW.c5, .slice tW.a6 0 tW.c6, .slice tW.a7 0 tW.c7, .int .i64 1, .slice (some ⟨sW.g, 0, none⟩) 3 3, .slice sW.ao 0 sW.co, .slice sW.ad 0 sW.cd, .slice sW.ab 0 sW.cb, .bool false] (0, 0) _ YW4.out Tryd.underlying40 rfl (by kernel_rfl) ?_) | (refine wpList_store_row rfl 40 (.tmp 2) (.tmp 7) rfl w3.heap.size #[.slice hG.a0 69 hG.c0, .slice hG.a1 0 hG.c1, .bool false, .slice hG.a2 0 hG.c2, .int .i64 1, .slice hG.a3 0 hG.c3, .int .i64 0, .slice hG.a4 0 hG.c4, .int .i64 0, .bool true, .slice tG.a5 0 tG.c5, .slice tG.a6 0 tG.c6, .slice tG.a7 0 tG.c7, .int .i64 1, .slice (some ⟨sG.g, 0, none⟩) 3 3, .slice sG.ao 0 sG.co, .slice sG.ad 0 sG.cd, .slice sG.ab 0 sG.cb, .bool false] rfl rfl 40 #[.slice none 0 0, .slice none 0 0, .bool false, .slice none 0 0, .int .i64 0, .slice none 0 0, .int .i64 0, .slice none 0 0, .int .i64 0, .bool false, .slice none 0 0, .slice none 0 0, .slice none 0 0, .int .i64 0, .slice none 0 0, .slice none 0 0, .slice none 0 0, .slice none 0 0, .bool false] bzw4 (by kernel_rfl) rfl (by first | kernel_rfl | (simp [Value.oneCell'])) ?_; rw [hnw4]))
  clear hxw4 hnw4 bzw4
  refine (c_eqW hG hW tG tW sG sW S0 w4 (RdV.own OG4.out) RW4.out QG4.out QW4.out).mono ?_
  rintro e w5 ⟨rfl, hb⟩
  have q45 : w4.heap.size ≤ w5.heap.size := hb.size
  have OG5 : Hid (w5.ownsRow BG 9 1 (.slice hG.a0 69 hG.c0) 69 (S0.map Value.string)) := own_below OG4.out hb
  have B5 : Hid (Below w.heap.size w w5) := B4.out.trans (Below.mono hb B4.out.size)
  have YW5 : Hid (Box w5 w1.heap.size 40 #[.slice hW.a0 69 hW.c0, .slice hW.a1 0 hW.c1, .bool false, .slice hW.a2 0 hW.c2, .int .i64 1, .slice hW.a3 0 hW.c3, .int .i64 0, .slice hW.a4 0 hW.c4, .int .i64 0, .bool true, .slice tW.a5 0 tW.c5, .slice tW.a6 0 tW.c6, .slice tW.a7 0 tW.c7, .int .i64 1, .slice (some ⟨sW.g, 0, none⟩) 3 3, .slice sW.ao 0 sW.co, .slice sW.ad 0 sW.cd, .slice sW.ab 0 sW.cb, .bool false]) := YW4.out.belowS hb
  have YG5 : Hid (Box w5 w3.heap.size 40 #[.slice hG.a0 69 hG.c0, .slice hG.a1 0 hG.c1, .bool false, .slice hG.a2 0 hG.c2, .int .i64 1, .slice hG.a3 0 hG.c3, .int .i64 0, .slice hG.a4 0 hG.c4, .int .i64 0, .bool true, .slice tG.a5 0 tG.c5, .slice tG.a6 0 tG.c6, .slice tG.a7 0 tG.c7, .int .i64 1, .slice (some ⟨sG.g, 0, none⟩) 3 3, .slice sG.ao 0 sG.co, .slice sG.ad 0 sG.cd, .slice sG.ab 0 sG.cb, .bool false]) := YG4.out.belowS hb
  have RW5 : Hid (RdV w5 hW.a0 69 (S0.map Value.string)) := RW4.out.below hb
  have QW5 : Hid (Box w5 sW.g 3 #[.int .i64 0, .int .i64 0, .int .i64 0]) := QW4.out.belowS hb
  have QG5 : Hid (Box w5 sG.g 3 #[.int .i64 0, .int .i64 0, .int .i64 0]) := QG4.out.belowS hb
  clear B4 YW4 YG4 RW4 QW4 QG4
  clear hb OG4
  go_wp2_with (first | (refine wpList_load_row rfl 40 (.tmp 2) rfl w3.heap.size rfl 40 #[.slice hG.a0 69 hG.c0, .slice hG.a1 0 hG.c1, .bool false, .slice hG.a2 0 hG.c2, .int .i64 1, .slice hG.a3 0 hG.c3, .int .i64 0, .slice hG.a4 0 hG.c4, .int .i64 0, .bool true, .slice tG.a5 0 tG.c5, .slice tG.a6 0 tG.c6, .slice tG.a7 0 tG.c7, .int .i64 1, .slice (some ⟨sG.g, 0, none⟩) 3 3, .slice sG.ao 0 sG.co, .slice sG.ad 0 sG.cd, .slice sG.ab 0 sG.cb, .bool false] (0, 0) _ YG5.out Tryd.underlying40 rfl (by kernel_rfl) ?_))
  refine (c_markW hG tG sG BG EG (S0.map Value.string) w5 OG5.out LG.out (by omega) QG5.out gd).mono ?_
  rintro e w6 ⟨rfl, om, qm, wm, i1, i2⟩
  have z1 : w5.heap.size ≤ wm.heap.size := i1.size
  have B6 : Hid (Below w.heap.size w w6) := (B5.out.trans (i1.below (by omega) B5.out.size)).trans (i2.below (by omega) (by have := B5.out.size; omega))
  have YW6 : Hid (Box w6 w1.heap.size 40 #[.slice hW.a0 69 hW.c0, .slice hW.a1 0 hW.c1, .bool false, .slice hW.a2 0 hW.c2, .int .i64 1, .slice hW.a3 0 hW.c3, .int .i64 0, .slice hW.a4 0 hW.c4, .int .i64 0, .bool true, .slice tW.a5 0 tW.c5, .slice tW.a6 0 tW.c6, .slice tW.a7 0 tW.c7, .int .i64 1, .slice (some ⟨sW.g, 0, none⟩) 3 3, .slice sW.ao 0 sW.co, .slice sW.ad 0 sW.cd, .slice sW.ab 0 sW.cb, .bool false]) := (YW5.out.innO i1 (.inl (by omega))).innO i2 (.inl (by omega))
  have YG6 : Hid (Box w6 w3.heap.size 40 #[.slice hG.a0 69 hG.c0, .slice hG.a1 0 hG.c1, .bool false, .slice hG.a2 0 hG.c2, .int .i64 1, .slice hG.a3 0 hG.c3, .int .i64 0, .slice hG.a4 0 hG.c4, .int .i64 0, .bool true, .slice tG.a5 0 tG.c5, .slice tG.a6 0 tG.c6, .slice tG.a7 0 tG.c7, .int .i64 1, .slice (some ⟨sG.g, 0, none⟩) 3 3, .slice sG.ao 0 sG.co, .slice sG.ad 0 sG.cd, .slice sG.ab 0 sG.cb, .bool false]) := (YG5.out.innO i1 (.inr (by omega))).innO i2 (.inr (by omega))
  have RW6 : Hid (RdV w6 hW.a0 69 (S0.map Value.string)) := (RW5.out.inn0 i1 (fun x e => .inl (by have := LW_.out x e; omega))).inn0 i2 (fun x e => .inl (by have := LW_.out x e; omega))
  have QW6 : Hid (Box w6 sW.g 3 #[.int .i64 0, .int .i64 0, .int .i64 0]) := (QW5.out.innO i1 (.inl (by omega))).innO i2 (.inl (by omega))
  have RG6 : Hid (RdV w6 hG.a0 69 (marksS 1 69)) := RdV.own om
  have QG6 : Hid (Box w6 sG.g 3 #[.int .i64 70, .int .i64 71, .int .i64 72]) := qm
  have q56 : w5.heap.size ≤ w6.heap.size := Nat.le_trans z1 i2.size
  clear om qm i1 i2 z1 B5 YW5 YG5 RW5 QW5 QG5 OG5
  go_wp2_with (first | (refine wpList_load_row rfl 40 (.tmp 2) rfl w3.heap.size rfl 40 #[.slice hG.a0 69 hG.c0, .slice hG.a1 0 hG.c1, .bool false, .slice hG.a2 0 hG.c2, .int .i64 1, .slice hG.a3 0 hG.c3, .int .i64 0, .slice hG.a4 0 hG.c4, .int .i64 0, .bool true, .slice tG.a5 0 tG.c5, .slice tG.a6 0 tG.c6, .slice tG.a7 0 tG.c7, .int .i64 1, .slice (some ⟨sG.g, 0, none⟩) 3 3, .slice sG.ao 0 sG.co, .slice sG.ad 0 sG.cd, .slice sG.ab 0 sG.cb, .bool false] (0, 0) _ YG6.out Tryd.underlying40 rfl (by kernel_rfl) ?_))
  refine (c_heldW hG tG sG w6 RG6.out QG6.out).mono ?_
  rintro e w7 ⟨rfl, hb⟩
  have B7 : Hid (Below w.heap.size w w7) := B6.out.trans (Below.mono hb B6.out.size)
  have YW7 : Hid (Box w7 w1.heap.size 40 #[.slice hW.a0 69 hW.c0, .slice hW.a1 0 hW.c1, .bool false, .slice hW.a2 0 hW.c2, .int .i64 1, .slice hW.a3 0 hW.c3, .int .i64 0, .slice hW.a4 0 hW.c4, .int .i64 0, .bool true, .slice tW.a5 0 tW.c5, .slice tW.a6 0 tW.c6, .slice tW.a7 0 tW.c7, .int .i64 1, .slice (some ⟨sW.g, 0, none⟩) 3 3, .slice sW.ao 0 sW.co, .slice sW.ad 0 sW.cd, .slice sW.ab 0 sW.cb, .bool false]) := YW6.out.belowS hb
  have YG7 : Hid (Box w7 w3.heap.size 40 #[.slice hG.a0 69 hG.c0, .slice hG.a1 0 hG.c1, .bool false, .slice hG.a2 0 hG.c2, .int .i64 1, .slice hG.a3 0 hG.c3, .int .i64 0, .slice hG.a4 0 hG.c4, .int .i64 0, .bool true, .slice tG.a5 0 tG.c5, .slice tG.a6 0 tG.c6, .slice tG.a7 0 tG.c7, .int .i64 1, .slice (some ⟨sG.g, 0, none⟩) 3 3, .slice sG.ao 0 sG.co, .slice sG.ad 0 sG.cd, .slice sG.ab 0 sG.cb, .bool false]) := YG6.out.belowS hb
  have RW7 : Hid (RdV w7 hW.a0 69 (S0.map Value.string)) := RW6.out.below hb
  have RG7 : Hid (RdV w7 hG.a0 69 (marksS 1 69)) := RG6.out.below hb
  have QW7 : Hid (Box w7 sW.g 3 #[.int .i64 0, .int .i64 0, .int .i64 0]) := QW6.out.belowS hb
  have QG7 : Hid (Box w7 sG.g 3 #[.int .i64 70, .int .i64 71, .int .i64 72]) := QG6.out.belowS hb
  clear B6 YW6 YG6 RW6 RG6 QW6 QG6
  clear hb
  go_wp2_with fail
  refine (c_implNW w7 (HT.out.below B7.out)).mono ?_
  rintro e w8 ⟨⟨hH, tH, sH, BH, EH, rfl, _, _, oh, _, _, _, qh⟩, hb⟩
  have OH8 := RdV.own oh
  have B8 : Hid (Below w.heap.size w w8) := B7.out.trans (Below.mono hb B7.out.size)
  have YW8 : Hid (Box w8 w1.heap.size 40 #[.slice hW.a0 69 hW.c0, .slice hW.a1 0 hW.c1, .bool false, .slice hW.a2 0 hW.c2, .int .i64 1, .slice hW.a3 0 hW.c3, .int .i64 0, .slice hW.a4 0 hW.c4, .int .i64 0, .bool true, .slice tW.a5 0 tW.c5, .slice tW.a6 0 tW.c6, .slice tW.a7 0 tW.c7, .int .i64 1, .slice (some ⟨sW.g, 0, none⟩) 3 3, .slice sW.ao 0 sW.co, .slice sW.ad 0 sW.cd, .slice sW.ab 0 sW.cb, .bool false]) := YW7.out.belowS hb
  have YG8 : Hid (Box w8 w3.heap.size 40 #[.slice hG.a0 69 hG.c0, .slice hG.a1 0 hG.c1, .bool false, .slice hG.a2 0 hG.c2, .int .i64 1, .slice hG.a3 0 hG.c3, .int .i64 0, .slice hG.a4 0 hG.c4, .int .i64 0, .bool true, .slice tG.a5 0 tG.c5, .slice tG.a6 0 tG.c6, .slice tG.a7 0 tG.c7, .int .i64 1, .slice (some ⟨sG.g, 0, none⟩) 3 3, .slice sG.ao 0 sG.co, .slice sG.ad 0 sG.cd, .slice sG.ab 0 sG.cb, .bool false]) := YG7.out.belowS hb
  have RW8 : Hid (RdV w8 hW.a0 69 (S0.map Value.string)) := RW7.out.below hb
  have RG8 : Hid (RdV w8 hG.a0 69 (marksS 1 69)) := RG7.out.below hb
  have QW8 : Hid (Box w8 sW.g 3 #[.int .i64 0, .int .i64 0, .int .i64 0]) := QW7.out.belowS hb
  have QG8 : Hid (Box w8 sG.g 3 #[.int .i64 70, .int .i64 71, .int .i64 72]) := QG7.out.belowS hb
  clear B7 YW7 YG7 RW7 RG7 QW7 QG7
  clear hb oh
  obtain ⟨xw9, hxw9⟩ : ∃ W, w8.alloc (.cells #[.slice none 0 0, .slice none 0 0, .bool false, .slice none 0 0, .int .i64 0, .slice none 0 0, .int .i64 0, .slice none 0 0, .int .i64 0, .bool false, .slice none 0 0, .slice none 0 0, .slice none 0 0, .int .i64 0, .slice none 0 0, .slice none 0 0, .slice none 0 0, .slice none 0 0, .bool false] 40) = W := ⟨_, rfl⟩
  have bzw9 : Box xw9 w8.heap.size 40 #[.slice none 0 0, .slice none 0 0, .bool false, .slice none 0 0, .int .i64 0, .slice none 0 0, .int .i64 0, .slice none 0 0, .int .i64 0, .bool false, .slice none 0 0, .slice none 0 0, .slice none 0 0, .int .i64 0, .slice none 0 0, .slice none 0 0, .slice none 0 0, .slice none 0 0, .bool false] := by rw [← hxw9]; exact Box.new _ _ _
  obtain ⟨w9, hnw9⟩ : ∃ Q, xw9.setRow w8.heap.size #[.slice hH.a0 69 hH.c0, .slice hH.a1 0 hH.c1, .bool false, .slice hH.a2 0 hH.c2, .int .i64 1, .slice hH.a3 0 hH.c3, .int .i64 0, .slice hH.a4 0 hH.c4, .int .i64 0, .bool true, .slice tH.a5 0 tH.c5, .slice tH.a6 0 tH.c6, .slice tH.a7 0 tH.c7, .int .i64 1, .slice (some ⟨sH.g, 0, none⟩) 3 3, .slice sH.ao 0 sH.co, .slice sH.ad 0 sH.cd, .slice sH.ab 0 sH.cb, .bool false] = Q := ⟨_, rfl⟩
  have ba : Box w9 w8.heap.size 40 #[.slice hH.a0 69 hH.c0, .slice hH.a1 0 hH.c1, .bool false, .slice hH.a2 0 hH.c2, .int .i64 1, .slice hH.a3 0 hH.c3, .int .i64 0, .slice hH.a4 0 hH.c4, .int .i64 0, .bool true, .slice tH.a5 0 tH.c5, .slice tH.a6 0 tH.c6, .slice tH.a7 0 tH.c7, .int .i64 1, .slice (some ⟨sH.g, 0, none⟩) 3 3, .slice sH.ao 0 sH.co, .slice sH.ad 0 sH.cd, .slice sH.ab 0 sH.cb, .bool false] := by rw [← hnw9]; exact setRow_heap xw9 w8.heap.size _ _ 40 _ bzw9
  have hb : Below w8.heap.size w8 w9 := by rw [← hnw9]; exact Below.grown (by rw [← hxw9]; exact (Below.refl _ _).alloc (Nat.le_refl _) _) (grown_setRow _ _ _) (by rw [← hxw9]; simp) (fun x hx => by cases hx; exact Nat.le_refl _)
  have YH9 : Hid (Box w9 w8.heap.size 40 #[.slice hH.a0 69 hH.c0, .slice hH.a1 0 hH.c1, .bool false, .slice hH.a2 0 hH.c2, .int .i64 1, .slice hH.a3 0 hH.c3, .int .i64 0, .slice hH.a4 0 hH.c4, .int .i64 0, .bool true, .slice tH.a5 0 tH.c5, .slice tH.a6 0 tH.c6, .slice tH.a7 0 tH.c7, .int .i64 1, .slice (some ⟨sH.g, 0, none⟩) 3 3, .slice sH.ao 0 sH.co, .slice sH.ad 0 sH.cd, .slice sH.ab 0 sH.cb, .bool false]) := ba
  have RH9 : Hid (RdV w9 hH.a0 69 (S0.map Value.string)) := OH8.below hb
  have QH9 : Hid (Box w9 sH.g 3 #[.int .i64 0, .int .i64 0, .int .i64 0]) := qh.belowS hb
  have B9 : Hid (Below w.heap.size w w9) := B8.out.trans (Below.mono hb B8.out.size)
  have YW9 : Hid (Box w9 w1.heap.size 40 #[.slice hW.a0 69 hW.c0, .slice hW.a1 0 hW.c1, .bool false, .slice hW.a2 0 hW.c2, .int .i64 1, .slice hW.a3 0 hW.c3, .int .i64 0, .slice hW.a4 0 hW.c4, .int .i64 0, .bool true, .slice tW.a5 0 tW.c5, .slice tW.a6 0 tW.c6, .slice tW.a7 0 tW.c7, .int .i64 1, .slice (some ⟨sW.g, 0, none⟩) 3 3, .slice sW.ao 0 sW.co, .slice sW.ad 0 sW.cd, .slice sW.ab 0 sW.cb, .bool false]) := YW8.out.belowS hb
  have YG9 : Hid (Box w9 w3.heap.size 40 #[.slice hG.a0 69 hG.c0, .slice hG.a1 0 hG.c1, .bool false, .slice hG.a2 0 hG.c2, .int .i64 1, .slice hG.a3 0 hG.c3, .int .i64 0, .slice hG.a4 0 hG.c4, .int .i64 0, .bool true, .slice tG.a5 0 tG.c5, .slice tG.a6 0 tG.c6, .slice tG.a7 0 tG.c7, .int .i64 1, .slice (some ⟨sG.g, 0, none⟩) 3 3, .slice sG.ao 0 sG.co, .slice sG.ad 0 sG.cd, .slice sG.ab 0 sG.cb, .bool false]) := YG8.out.belowS hb
  have RW9 : Hid (RdV w9 hW.a0 69 (S0.map Value.string)) := RW8.out.below hb
  have RG9 : Hid (RdV w9 hG.a0 69 (marksS 1 69)) := RG8.out.below hb
  have QW9 : Hid (Box w9 sW.g 3 #[.int .i64 0, .int .i64 0, .int .i64 0]) := QW8.out.belowS hb
  have QG9 : Hid (Box w9 sG.g 3 #[.int .i64 70, .int .i64 71, .int .i64 72]) := QG8.out.belowS hb
  clear B8 YW8 YG8 RW8 RG8 QW8 QG8
  clear hb OH8 qh ba
  go_wp2_with (first | (refine wpList_load_row rfl 40 (.tmp 5) rfl w8.heap.size rfl 40 #[.slice hH.a0 69 hH.c0, .slice hH.a1 0 hH.c1, .bool false, .slice hH.a2 0 hH.c2, .int .i64 1, .slice hH.a3 0 hH.c3, .int .i64 0, .slice hH.a4 0 hH.c4, .int .i64 0, .bool true, .slice tH.a5 0 tH.c5, .slice tH.a6 0 tH.c6, .slice tH.a7 0 tH.c7, .int .i64 1, .slice (some ⟨sH.g, 0, none⟩) 3 3, .slice sH.ao 0 sH.co, .slice sH.ad 0 sH.cd, .slice sH.ab 0 sH.cb, .bool false] (0, 0) _ YH9.out Tryd.underlying40 rfl (by kernel_rfl) ?_) | (refine wpList_load_row rfl 40 (.tmp 1) rfl w1.heap.size rfl 40 #[.slice hW.a0 69 hW.c0, .slice hW.a1 0 hW.c1, .bool false, .slice hW.a2 0 hW.c2, .int .i64 1, .slice hW.a3 0 hW.c3, .int .i64 0, .slice hW.a4 0 hW.c4, .int .i64 0, .bool true, .slice tW.a5 0 tW.c5, .slice tW.a6 0 tW.c6, .slice tW.a7 0 tW.c7, .int .i64 1, .slice (some ⟨sW.g, 0, none⟩) 3 3, .slice sW.ao 0 sW.co, .slice sW.ad 0 sW.cd, .slice sW.ab 0 sW.cb, .bool false] (0, 0) _ YW9.out Tryd.underlying40 rfl (by kernel_rfl) ?_) | (refine wpList_store_row rfl 40 (.tmp 5) (.tmp 23) rfl w8.heap.size #[.slice hH.a0 69 hH.c0, .slice hH.a1 0 hH.c1, .bool false, .slice hH.a2 0 hH.c2, .int .i64 1, .slice hH.a3 0 hH.c3, .int .i64 0, .slice hH.a4 0 hH.c4, .int .i64 0, .bool true, .slice tH.a5 0 tH.c5, .slice tH.a6 0 tH.c6, .slice tH.a7 0 tH.c7, .int .i64 1, .slice (some ⟨sH.g, 0, none⟩) 3 3, .slice sH.ao 0 sH.co, .slice sH.ad 0 sH.cd, .slice sH.ab 0 sH.cb, .bool false] rfl rfl 40 #[.slice none 0 0, .slice none 0 0, .bool false, .slice none 0 0, .int .i64 0, .slice none 0 0, .int .i64 0, .slice none 0 0, .int .i64 0, .bool false, .slice none 0 0, .slice none 0 0, .slice none 0 0, .int .i64 0, .slice none 0 0, .slice none 0 0, .slice none 0 0, .slice none 0 0, .bool false] bzw9 (by kernel_rfl) rfl (by first | kernel_rfl | (simp [Value.oneCell'])) ?_; rw [hnw9]))
  clear hxw9 hnw9 bzw9
  refine (c_eqW hH hW tH tW sH sW S0 w9 RH9.out RW9.out QH9.out QW9.out).mono ?_
  rintro e wA ⟨rfl, hb⟩
  have BA : Hid (Below w.heap.size w wA) := B9.out.trans (Below.mono hb B9.out.size)
  have YGA : Hid (Box wA w3.heap.size 40 #[.slice hG.a0 69 hG.c0, .slice hG.a1 0 hG.c1, .bool false, .slice hG.a2 0 hG.c2, .int .i64 1, .slice hG.a3 0 hG.c3, .int .i64 0, .slice hG.a4 0 hG.c4, .int .i64 0, .bool true, .slice tG.a5 0 tG.c5, .slice tG.a6 0 tG.c6, .slice tG.a7 0 tG.c7, .int .i64 1, .slice (some ⟨sG.g, 0, none⟩) 3 3, .slice sG.ao 0 sG.co, .slice sG.ad 0 sG.cd, .slice sG.ab 0 sG.cb, .bool false]) := YG9.out.belowS hb
  have RGA : Hid (RdV wA hG.a0 69 (marksS 1 69)) := RG9.out.below hb
  have QGA : Hid (Box wA sG.g 3 #[.int .i64 70, .int .i64 71, .int .i64 72]) := QG9.out.belowS hb
  clear B9 YG9 RG9 QG9
  clear hb YH9 RH9 QH9
  go_wp2_with (first | (refine wpList_load_row rfl 40 (.tmp 2) rfl w3.heap.size rfl 40 #[.slice hG.a0 69 hG.c0, .slice hG.a1 0 hG.c1, .bool false, .slice hG.a2 0 hG.c2, .int .i64 1, .slice hG.a3 0 hG.c3, .int .i64 0, .slice hG.a4 0 hG.c4, .int .i64 0, .bool true, .slice tG.a5 0 tG.c5, .slice tG.a6 0 tG.c6, .slice tG.a7 0 tG.c7, .int .i64 1, .slice (some ⟨sG.g, 0, none⟩) 3 3, .slice sG.ao 0 sG.co, .slice sG.ad 0 sG.cd, .slice sG.ab 0 sG.cb, .bool false] (0, 0) _ YGA.out Tryd.underlying40 rfl (by kernel_rfl) ?_))
  refine (c_heldW hG tG sG wA RGA.out QGA.out).mono ?_
  rintro e wB ⟨rfl, hb⟩
  have BB : Hid (Below w.heap.size w wB) := BA.out.trans (hb.mono BA.out.size)
  clear hb
  go_wp2
  go_ret
  exact ⟨rfl, BB.out⟩

end Go.Proofs.YtlocgbjdnfnilaaDoor
