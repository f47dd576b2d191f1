/-
  The walk of the law of NewTree.
-/
import Derived.Test.YthnggpjgajkaeaaTc
namespace Go.Proofs.Ythnggpjgajkaeaa
open Go Go.RowKit
attribute [local go_sem ↓] Go.wp_at_zero Go.wp_at_succ

set_option maxRecDepth 100000 in
set_option maxHeartbeats 8000000 in
theorem lawNT (w : World) :
    Calls Try.prog 5 #[] w fun e w' => e = .returned (.bool true) ∧ Below w.heap.size w w' := by
  go_enter Try.func5, Try.ntmps5
  go_wp2_with fail
  refine (c_specNT w).mono ?_
  rintro e w1 ⟨⟨b, c, rfl, hn, hlt⟩, hb⟩
  obtain ⟨w2, hw2⟩ : ∃ Q, w1.alloc (.cells #[.int .i64 0, .slice (some ⟨b, 0, none⟩) 1 c] 27) = Q := ⟨_, rfl⟩
  have bw2 : Below w1.heap.size w1 w2 := by rw [← hw2]; exact (Below.refl _ _).alloc (Nat.le_refl _) _
  have Xw2 : Hid (Box w2 w1.heap.size 27 #[.int .i64 0, .slice (some ⟨b, 0, none⟩) 1 c]) := by unfold Hid; rw [← hw2]; exact Box.new _ _ _
  have B2 : Hid (Below w.heap.size w w2) := hb.trans (bw2.mono hb.size)
  have N2 : Hid (NB w2 b true) := hn.below bw2
  have lb : b < w1.heap.size := hn.lt
  have l12 : w1.heap.size < w2.heap.size := Xw2.out.lt
  clear hn hb bw2
  go_wp2_with fail
  clear hw2
  refine (c_implNT w2).mono ?_
  rintro e w3 ⟨⟨b', c', rfl, hn, hlt'⟩, hb⟩
  obtain ⟨w4, hw4⟩ : ∃ Q, w3.alloc (.cells #[.int .i64 0, .slice (some ⟨b', 0, none⟩) 1 c'] 27) = Q := ⟨_, rfl⟩
  have bw4 : Below w3.heap.size w3 w4 := by rw [← hw4]; exact (Below.refl _ _).alloc (Nat.le_refl _) _
  have Xw4 : Hid (Box w4 w3.heap.size 27 #[.int .i64 0, .slice (some ⟨b', 0, none⟩) 1 c']) := by unfold Hid; rw [← hw4]; exact Box.new _ _ _
  have hb4 := hb.trans (bw4.mono hb.size)
  have B4 : Hid (Below w.heap.size w w4) := B2.out.trans (hb4.mono B2.out.size)
  have N4 : Hid (NB w4 b true) := N2.out.below hb4
  have M4 : Hid (NB w4 b' true) := hn.below bw4
  have Y4 : Hid (Box w4 w1.heap.size 27 #[.int .i64 0, .slice (some ⟨b, 0, none⟩) 1 c]) := Xw2.out.belowS hb4
  have lb' : b' < w3.heap.size := hn.lt
  have l34 : w3.heap.size < w4.heap.size := Xw4.out.lt
  have l23 : w2.heap.size ≤ w3.heap.size := hb.size
  clear hn hb bw4 hb4 B2 N2 Xw2
  have x0 : w4.cell? ⟨w3.heap.size, 0, none⟩ = some (.int .i64 0) := Xw4.out.cell 0
  have x1 : w4.cell? ⟨w3.heap.size, 1, none⟩ = some (.slice (some ⟨b', 0, none⟩) 1 c') := Xw4.out.cell 1
  have y0 : w4.cell? ⟨w1.heap.size, 0, none⟩ = some (.int .i64 0) := Y4.out.cell 0
  have y1 : w4.cell? ⟨w1.heap.size, 1, none⟩ = some (.slice (some ⟨b, 0, none⟩) 1 c) := Y4.out.cell 1
  go_wp2_with fail
  clear hw4
  refine (c_eqT b' b c' c true w4 M4.out N4.out).mono ?_
  rintro e w5 ⟨rfl, hb⟩
  have B5 : Hid (Below w.heap.size w w5) := B4.out.trans (hb.mono B4.out.size)
  have N5 : Hid (NB w5 b true) := N4.out.below hb
  have M5 : Hid (NB w5 b' true) := M4.out.below hb
  have Y5 : Hid (Box w5 w1.heap.size 27 #[.int .i64 0, .slice (some ⟨b, 0, none⟩) 1 c]) := Y4.out.belowS hb
  have Z5 : Hid (Box w5 w3.heap.size 27 #[.int .i64 0, .slice (some ⟨b', 0, none⟩) 1 c']) := Xw4.out.belowS hb
  have l45 : w4.heap.size ≤ w5.heap.size := hb.size
  clear hb B4 N4 M4 Y4 Xw4 x0 x1 y0 y1
  have x0 : w5.cell? ⟨w3.heap.size, 0, none⟩ = some (.int .i64 0) := Z5.out.cell 0
  have x1 : w5.cell? ⟨w3.heap.size, 1, none⟩ = some (.slice (some ⟨b', 0, none⟩) 1 c') := Z5.out.cell 1
  go_wp2_with fail
  refine (c_markT b' c' true w5 M5.out).mono ?_
  rintro e w6 ⟨rfl, hm, hi⟩
  have B6 : Hid (Below w.heap.size w w6) := B5.out.trans (hi.below (by have := B5.out.size; omega) B5.out.size)
  have N6 : Hid (NB w6 b true) := N5.out.inn hi (.inl (by omega))
  have M6 : Hid (NB w6 b' false) := hm
  have Y6 : Hid (Box w6 w1.heap.size 27 #[.int .i64 0, .slice (some ⟨b, 0, none⟩) 1 c]) := Y5.out.innO hi (.inl (by omega))
  have Z6 : Hid (Box w6 w3.heap.size 27 #[.int .i64 0, .slice (some ⟨b', 0, none⟩) 1 c']) := Z5.out.innO hi (.inr (by omega))
  clear hm hi B5 N5 M5 Y5 Z5 x0 x1
  have x0 : w6.cell? ⟨w3.heap.size, 0, none⟩ = some (.int .i64 0) := Z6.out.cell 0
  have x1 : w6.cell? ⟨w3.heap.size, 1, none⟩ = some (.slice (some ⟨b', 0, none⟩) 1 c') := Z6.out.cell 1
  go_wp2_with fail
  refine (c_heldT b' c' w6 M6.out).mono ?_
  rintro e w7 ⟨rfl, hb⟩
  have B7 : Hid (Below w.heap.size w w7) := B6.out.trans (hb.mono B6.out.size)
  have N7 : Hid (NB w7 b true) := N6.out.below hb
  have M7 : Hid (NB w7 b' false) := M6.out.below hb
  have Y7 : Hid (Box w7 w1.heap.size 27 #[.int .i64 0, .slice (some ⟨b, 0, none⟩) 1 c]) := Y6.out.belowS hb
  have Z7 : Hid (Box w7 w3.heap.size 27 #[.int .i64 0, .slice (some ⟨b', 0, none⟩) 1 c']) := Z6.out.belowS hb
  clear hb B6 N6 M6 Y6 Z6 x0 x1
  go_wp2_with fail
  refine (c_implNT w7).mono ?_
  rintro e w8 ⟨⟨d, k, rfl, hn, hlt8⟩, hb⟩
  obtain ⟨w9, hw9⟩ : ∃ Q, w8.alloc (.cells #[.int .i64 0, .slice (some ⟨d, 0, none⟩) 1 k] 27) = Q := ⟨_, rfl⟩
  have bw9 : Below w8.heap.size w8 w9 := by rw [← hw9]; exact (Below.refl _ _).alloc (Nat.le_refl _) _
  have Xw9 : Hid (Box w9 w8.heap.size 27 #[.int .i64 0, .slice (some ⟨d, 0, none⟩) 1 k]) := by unfold Hid; rw [← hw9]; exact Box.new _ _ _
  have hb9 := hb.trans (bw9.mono hb.size)
  have B9 : Hid (Below w.heap.size w w9) := B7.out.trans (hb9.mono B7.out.size)
  have N9 : Hid (NB w9 b true) := N7.out.below hb9
  have M9 : Hid (NB w9 b' false) := M7.out.below hb9
  have K9 : Hid (NB w9 d true) := hn.below bw9
  have Y9 : Hid (Box w9 w1.heap.size 27 #[.int .i64 0, .slice (some ⟨b, 0, none⟩) 1 c]) := Y7.out.belowS hb9
  have Z9 : Hid (Box w9 w3.heap.size 27 #[.int .i64 0, .slice (some ⟨b', 0, none⟩) 1 c']) := Z7.out.belowS hb9
  clear hn hb bw9 hb9 B7 N7 M7 Y7 Z7
  have x0 : w9.cell? ⟨w8.heap.size, 0, none⟩ = some (.int .i64 0) := Xw9.out.cell 0
  have x1 : w9.cell? ⟨w8.heap.size, 1, none⟩ = some (.slice (some ⟨d, 0, none⟩) 1 k) := Xw9.out.cell 1
  have y0 : w9.cell? ⟨w1.heap.size, 0, none⟩ = some (.int .i64 0) := Y9.out.cell 0
  have y1 : w9.cell? ⟨w1.heap.size, 1, none⟩ = some (.slice (some ⟨b, 0, none⟩) 1 c) := Y9.out.cell 1
  go_wp2_with fail
  clear hw9
  refine (c_eqT d b k c true w9 K9.out N9.out).mono ?_
  rintro e wA ⟨rfl, hb⟩
  have BA : Hid (Below w.heap.size w wA) := B9.out.trans (hb.mono B9.out.size)
  have MA : Hid (NB wA b' false) := M9.out.below hb
  have ZA : Hid (Box wA w3.heap.size 27 #[.int .i64 0, .slice (some ⟨b', 0, none⟩) 1 c']) := Z9.out.belowS hb
  clear hb B9 N9 M9 K9 Y9 Z9 Xw9 x0 x1 y0 y1
  have x0 : wA.cell? ⟨w3.heap.size, 0, none⟩ = some (.int .i64 0) := ZA.out.cell 0
  have x1 : wA.cell? ⟨w3.heap.size, 1, none⟩ = some (.slice (some ⟨b', 0, none⟩) 1 c') := ZA.out.cell 1
  go_wp2_with fail
  refine (c_heldT b' c' wA MA.out).mono ?_
  rintro e wB ⟨rfl, hb⟩
  have BB : Hid (Below w.heap.size w wB) := BA.out.trans (hb.mono BA.out.size)
  clear hb x0 x1
  go_wp2
  go_ret
  exact ⟨rfl, BB.out⟩

end Go.Proofs.Ythnggpjgajkaeaa
