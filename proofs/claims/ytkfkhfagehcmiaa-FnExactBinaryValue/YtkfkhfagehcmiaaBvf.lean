/-
  The walk of the law of BinaryValue.
-/
import Derived.Test.YtkfkhfagehcmiaaBve
import Derived.Test.YtkfkhfagehcmiaaCmpLaw
import Derived.Deep.RegionHeld3
import Derived.Deep.DrawnRows
import Derived.Deep.DeepCutAuto
namespace Go.Proofs.Ytkfkhfagehcmiaa
open Go Go.RowKit
attribute [local go_sem ↓] Go.wp_at_zero Go.wp_at_succ

def CutV (W : World) (r : BR) (sp sc : Value) (wx : World) : Prop := ∃ gb : Nat, sp = .pointer (some ⟨gb, 0, none⟩) ∧ sc = .int .i64 r.c ∧ Below W.heap.size W wx ∧ W.heap.size ≤ gb ∧ Box wx gb 25 #[.int .i64 r.k, .int .i64 r.n, .string ⟨#[]⟩]
theorem cutV_new {W y : World} {r : BR} (H : Below W.heap.size W y) : CutV W r (.pointer (some ⟨y.heap.size, 0, none⟩)) (.int .i64 r.c) (y.alloc (.cells #[.int .i64 r.k, .int .i64 r.n, .string ⟨#[]⟩] 25)) :=
  ⟨y.heap.size, rfl, rfl, H.alloc H.size _, H.size, Box.new _ _ _⟩
theorem cutV_put {W y : World} {r : BR} {g : Nat} (H : Below W.heap.size W y) (zb : Box y g 25 #[.int .i64 0, .int .i64 0, .string ⟨#[]⟩]) (h1 : W.heap.size ≤ g) : CutV W r (.pointer (some ⟨g, 0, none⟩)) (.int .i64 r.c) ((((y).setCell ⟨g, 0, none⟩ (.int .i64 r.k)).setCell ⟨g, 1, none⟩ (.int .i64 r.n)).setCell ⟨g, 2, none⟩ (.string ⟨#[]⟩)) :=
  ⟨g, rfl, rfl, put3_below H h1 _ _ _, h1, put3_box zb _ _ _⟩
theorem put3_cell (w : World) (g b o : Nat) (v0 v1 v2 : Value) (h : b ≠ g) : ((((w).setCell ⟨g, 0, none⟩ (v0)).setCell ⟨g, 1, none⟩ (v1)).setCell ⟨g, 2, none⟩ (v2)).cell? ⟨b, o, none⟩ = w.cell? ⟨b, o, none⟩ := World.cell?_of_block (((Below.heap_setCell _ _ _ b h).trans (Below.heap_setCell _ _ _ b h)).trans (Below.heap_setCell _ _ _ b h))
theorem zb3 {w w' : World} (hb : Below (w.alloc (.cells #[.int .i64 0, .int .i64 0, .string ⟨#[]⟩] 25)).heap.size (w.alloc (.cells #[.int .i64 0, .int .i64 0, .string ⟨#[]⟩] 25)) w') : Box w' w.heap.size 25 #[.int .i64 0, .int .i64 0, .string ⟨#[]⟩] := (Box.new w #[.int .i64 0, .int .i64 0, .string ⟨#[]⟩] 25).belowS hb
theorem zb3d {w w' : World} (hb : Below (w.alloc (.cells #[.int .i64 0, .int .i64 0, .string ⟨#[]⟩] 25)).drew.heap.size (w.alloc (.cells #[.int .i64 0, .int .i64 0, .string ⟨#[]⟩] 25)).drew w') : Box w' w.heap.size 25 #[.int .i64 0, .int .i64 0, .string ⟨#[]⟩] := (show Box (w.alloc (.cells #[.int .i64 0, .int .i64 0, .string ⟨#[]⟩] 25)).drew w.heap.size 25 #[.int .i64 0, .int .i64 0, .string ⟨#[]⟩] from Box.new w #[.int .i64 0, .int .i64 0, .string ⟨#[]⟩] 25).belowS hb
theorem zb3e {w w' : World} (hb : Below (w.drew.alloc (.cells #[.int .i64 0, .int .i64 0, .string ⟨#[]⟩] 25)).heap.size (w.drew.alloc (.cells #[.int .i64 0, .int .i64 0, .string ⟨#[]⟩] 25)) w') : Box w' w.heap.size 25 #[.int .i64 0, .int .i64 0, .string ⟨#[]⟩] := (Box.new w.drew #[.int .i64 0, .int .i64 0, .string ⟨#[]⟩] 25).belowS hb
set_option maxHeartbeats 400000 in
theorem c_eqVal (k n : Int) (w : World) : Calls Try.prog 16 #[.agg #[.int .i64 k, .int .i64 n, .string ⟨#[]⟩], .agg #[.int .i64 k, .int .i64 n, .string ⟨#[]⟩]] w fun e w' => e = .returned (.bool true) ∧ Below w.heap.size w w' := by
  have e1 : (k != k) = false := by simp
  have e2 : (n != n) = false := by simp
  go_enter Try.func16, Try.ntmps16
  go_wp2
  go_ret
  exact ⟨rfl, ((Below.refl _ _).alloc (Nat.le_refl _) _).alloc (by simp) _⟩
set_option maxRecDepth 100000 in
set_option maxHeartbeats 4000000 in
theorem law_FnExactBinaryValue (op : Int) (k n : Int) (t : ByteArray) (k' n' : Int) (t' : ByteArray) (w : World) (hs : t.size ≤ maxLen) (hs' : t'.size ≤ maxLen) :
    Calls Try.prog 3 #[.int .i64 op, .agg #[.int .i64 k, .int .i64 n, .string t], .agg #[.int .i64 k', .int .i64 n', .string t']] w fun e w' => e = .returned (.bool true) ∧ Below w.heap.size w w' := by
  have gs := hs
  unfold maxLen at gs
  go_enter Try.func3, Try.ntmps3
  go_wp2_with fail
  refine (c_sz _ _ _ _ _ hs (by omega) (by omega)).mono ?_
  rintro e w1 ⟨rfl, hb1⟩
  have HB1 : Boxes w k n t k' n' t' w1 := hb1
  clear hb1
  by_cases h : (1048576 : Int) - t.size < 0
  · rw [if_pos h]
    go_wp2
    go_ret
    exact ⟨rfl, HB1.below⟩
  rw [if_neg h]
  obtain ⟨q0, q1, q2, p0, p1, p2⟩ := HB1.six
  go_wp2_with fail
  refine (c_sz _ _ _ _ _ hs' (by omega) (by omega)).mono ?_
  rintro e w2 ⟨rfl, hb2⟩
  have HB2 := HB1.later hb2
  clear q0 q1 q2 p0 p1 p2 hb2 HB1
  by_cases h' : (1048576 : Int) - t.size - t'.size < 0
  · rw [if_pos h']
    go_wp2
    go_ret
    exact ⟨rfl, HB2.below⟩
  rw [if_neg h']
  clear gs
  obtain ⟨q0, q1, q2, p0, p1, p2⟩ := HB2.six
  have HH2 : Hid (Boxes w k n t k' n' t' w2) := HB2
  have l2 : w.heap.size + 1 < w2.heap.size := by have := Below.size HB2; simp at this; omega
  clear HB2
  go_wp2_with fail
  go_cut [8, 9] (fun sp sc wx => CutV w2 (binA op k n t k' n' t') sp sc wx)
  case first =>
    have Kd0 : Hid ((w2.drew).cell? ⟨w.heap.size, 0, none⟩ = some (.int .i64 k) ∧ (w2.drew).cell? ⟨w.heap.size, 1, none⟩ = some (.int .i64 n) ∧ (w2.drew).cell? ⟨w.heap.size, 2, none⟩ = some (.string t) ∧ (w2.drew).cell? ⟨(w.heap.size + 1), 0, none⟩ = some (.int .i64 k') ∧ (w2.drew).cell? ⟨(w.heap.size + 1), 1, none⟩ = some (.int .i64 n') ∧ (w2.drew).cell? ⟨(w.heap.size + 1), 2, none⟩ = some (.string t')) := ⟨q0, q1, q2, p0, p1, p2⟩
    have Ke0 : Hid ((w2.drew.alloc (.cells #[.int .i64 0, .int .i64 0, .string ⟨#[]⟩] 25)).cell? ⟨w.heap.size, 0, none⟩ = some (.int .i64 k) ∧ (w2.drew.alloc (.cells #[.int .i64 0, .int .i64 0, .string ⟨#[]⟩] 25)).cell? ⟨w.heap.size, 1, none⟩ = some (.int .i64 n) ∧ (w2.drew.alloc (.cells #[.int .i64 0, .int .i64 0, .string ⟨#[]⟩] 25)).cell? ⟨w.heap.size, 2, none⟩ = some (.string t) ∧ (w2.drew.alloc (.cells #[.int .i64 0, .int .i64 0, .string ⟨#[]⟩] 25)).cell? ⟨(w.heap.size + 1), 0, none⟩ = some (.int .i64 k') ∧ (w2.drew.alloc (.cells #[.int .i64 0, .int .i64 0, .string ⟨#[]⟩] 25)).cell? ⟨(w.heap.size + 1), 1, none⟩ = some (.int .i64 n') ∧ (w2.drew.alloc (.cells #[.int .i64 0, .int .i64 0, .string ⟨#[]⟩] 25)).cell? ⟨(w.heap.size + 1), 2, none⟩ = some (.string t')) := ⟨far6 (w := w2.drew) ((Below.refl _ _).alloc (Nat.le_refl _) _) q0, far6 (w := w2.drew) ((Below.refl _ _).alloc (Nat.le_refl _) _) q1, far6 (w := w2.drew) ((Below.refl _ _).alloc (Nat.le_refl _) _) q2, far6 (w := w2.drew) ((Below.refl _ _).alloc (Nat.le_refl _) _) p0, far6 (w := w2.drew) ((Below.refl _ _).alloc (Nat.le_refl _) _) p1, far6 (w := w2.drew) ((Below.refl _ _).alloc (Nat.le_refl _) _) p2⟩
    have Kf0 : Hid ((w2.alloc (.cells #[.int .i64 0, .int .i64 0, .string ⟨#[]⟩] 25)).drew.cell? ⟨w.heap.size, 0, none⟩ = some (.int .i64 k) ∧ (w2.alloc (.cells #[.int .i64 0, .int .i64 0, .string ⟨#[]⟩] 25)).drew.cell? ⟨w.heap.size, 1, none⟩ = some (.int .i64 n) ∧ (w2.alloc (.cells #[.int .i64 0, .int .i64 0, .string ⟨#[]⟩] 25)).drew.cell? ⟨w.heap.size, 2, none⟩ = some (.string t) ∧ (w2.alloc (.cells #[.int .i64 0, .int .i64 0, .string ⟨#[]⟩] 25)).drew.cell? ⟨(w.heap.size + 1), 0, none⟩ = some (.int .i64 k') ∧ (w2.alloc (.cells #[.int .i64 0, .int .i64 0, .string ⟨#[]⟩] 25)).drew.cell? ⟨(w.heap.size + 1), 1, none⟩ = some (.int .i64 n') ∧ (w2.alloc (.cells #[.int .i64 0, .int .i64 0, .string ⟨#[]⟩] 25)).drew.cell? ⟨(w.heap.size + 1), 2, none⟩ = some (.string t')) := ⟨far6 (((Below.refl _ _).alloc (Nat.le_refl _) (.cells #[.int .i64 0, .int .i64 0, .string ⟨#[]⟩] 25)).drew) q0, far6 (((Below.refl _ _).alloc (Nat.le_refl _) (.cells #[.int .i64 0, .int .i64 0, .string ⟨#[]⟩] 25)).drew) q1, far6 (((Below.refl _ _).alloc (Nat.le_refl _) (.cells #[.int .i64 0, .int .i64 0, .string ⟨#[]⟩] 25)).drew) q2, far6 (((Below.refl _ _).alloc (Nat.le_refl _) (.cells #[.int .i64 0, .int .i64 0, .string ⟨#[]⟩] 25)).drew) p0, far6 (((Below.refl _ _).alloc (Nat.le_refl _) (.cells #[.int .i64 0, .int .i64 0, .string ⟨#[]⟩] 25)).drew) p1, far6 (((Below.refl _ _).alloc (Nat.le_refl _) (.cells #[.int .i64 0, .int .i64 0, .string ⟨#[]⟩] 25)).drew) p2⟩
    go_region_held3 (fun y => y.cell? ⟨w.heap.size, 0, none⟩ = some (.int .i64 k) ∧ y.cell? ⟨w.heap.size, 1, none⟩ = some (.int .i64 n) ∧ y.cell? ⟨w.heap.size, 2, none⟩ = some (.string t) ∧ y.cell? ⟨(w.heap.size + 1), 0, none⟩ = some (.int .i64 k') ∧ y.cell? ⟨(w.heap.size + 1), 1, none⟩ = some (.int .i64 n') ∧ y.cell? ⟨(w.heap.size + 1), 2, none⟩ = some (.string t'))
      (first | with_reducible exact KP.out | with_reducible exact Kb3.out | with_reducible exact Kc3.out | with_reducible exact Ka3.out | with_reducible exact Kc2.out | with_reducible exact Ka2.out | with_reducible exact Kc1.out | with_reducible exact Ka1.out | with_reducible exact Kd0.out | with_reducible exact Ke0.out | with_reducible exact Kf0.out | go_keep)
      (first | (go_at_call 14
                have HH := H1
                clear HH
                refine (c_to _ _ _ _).mono ?_
                rintro e y2 ⟨rfl, hb2⟩
                have G2 : Below y1.heap.size y1 y2 := Below.trans (by first | exact Below.refl _ _ | exact (Below.refl _ _).drew | exact (Below.refl _ _).alloc (Nat.le_refl _) _ | exact ((Below.refl _ _).alloc (Nat.le_refl _) _).drew | exact (Below.refl _ _).drew.alloc (Nat.le_refl _) _) (hb2.mono (by first | exact Nat.le_refl _ | simp))
                have H2 : Below w2.heap.size w2 y2 := H1.trans (G2.mono H1.size)
                have e2 : y1.heap.size ≤ y2.heap.size := G2.size
                have q0_2 := far6 G2 q0_1
                have q1_2 := far6 G2 q1_1
                have q2_2 := far6 G2 q2_1
                have p0_2 := far6 G2 p0_1
                have p1_2 := far6 G2 p1_1
                have p2_2 := far6 G2 p2_1
                have Kc2 : Hid (y2.cell? ⟨w.heap.size, 0, none⟩ = some (.int .i64 k) ∧ y2.cell? ⟨w.heap.size, 1, none⟩ = some (.int .i64 n) ∧ y2.cell? ⟨w.heap.size, 2, none⟩ = some (.string t) ∧ y2.cell? ⟨(w.heap.size + 1), 0, none⟩ = some (.int .i64 k') ∧ y2.cell? ⟨(w.heap.size + 1), 1, none⟩ = some (.int .i64 n') ∧ y2.cell? ⟨(w.heap.size + 1), 2, none⟩ = some (.string t')) := ⟨q0_2, q1_2, q2_2, p0_2, p1_2, p2_2⟩
                have Ka2 : Hid ((y2.alloc (.cells #[.int .i64 0, .int .i64 0, .string ⟨#[]⟩] 25)).cell? ⟨w.heap.size, 0, none⟩ = some (.int .i64 k) ∧ (y2.alloc (.cells #[.int .i64 0, .int .i64 0, .string ⟨#[]⟩] 25)).cell? ⟨w.heap.size, 1, none⟩ = some (.int .i64 n) ∧ (y2.alloc (.cells #[.int .i64 0, .int .i64 0, .string ⟨#[]⟩] 25)).cell? ⟨w.heap.size, 2, none⟩ = some (.string t) ∧ (y2.alloc (.cells #[.int .i64 0, .int .i64 0, .string ⟨#[]⟩] 25)).cell? ⟨(w.heap.size + 1), 0, none⟩ = some (.int .i64 k') ∧ (y2.alloc (.cells #[.int .i64 0, .int .i64 0, .string ⟨#[]⟩] 25)).cell? ⟨(w.heap.size + 1), 1, none⟩ = some (.int .i64 n') ∧ (y2.alloc (.cells #[.int .i64 0, .int .i64 0, .string ⟨#[]⟩] 25)).cell? ⟨(w.heap.size + 1), 2, none⟩ = some (.string t')) := ⟨far6 ((Below.refl _ _).alloc (Nat.le_refl _) _) q0_2, far6 ((Below.refl _ _).alloc (Nat.le_refl _) _) q1_2, far6 ((Below.refl _ _).alloc (Nat.le_refl _) _) q2_2, far6 ((Below.refl _ _).alloc (Nat.le_refl _) _) p0_2, far6 ((Below.refl _ _).alloc (Nat.le_refl _) _) p1_2, far6 ((Below.refl _ _).alloc (Nat.le_refl _) _) p2_2⟩
                first
                  | (have ZB2_0 := ZB1_0.belowS G2)
                  | (have ZB2_1 := zb3 hb2)
                  | (have ZB2_1 := zb3d hb2)
                  | (have ZB2_1 := zb3e hb2)
                  | skip)
             | (go_at_call 14
                refine (c_to _ _ _ _).mono ?_
                rintro e y1 ⟨rfl, hb1⟩
                have G1 : Below w2.heap.size w2 y1 := Below.trans (by first | exact Below.refl _ _ | exact (Below.refl _ _).drew | exact (Below.refl _ _).alloc (Nat.le_refl _) _ | exact ((Below.refl _ _).alloc (Nat.le_refl _) _).drew | exact (Below.refl _ _).drew.alloc (Nat.le_refl _) _) (hb1.mono (by first | exact Nat.le_refl _ | simp))
                have H1 : Below w2.heap.size w2 y1 := G1
                have e1 : w2.heap.size ≤ y1.heap.size := G1.size
                have q0_1 := far6 G1 q0
                have q1_1 := far6 G1 q1
                have q2_1 := far6 G1 q2
                have p0_1 := far6 G1 p0
                have p1_1 := far6 G1 p1
                have p2_1 := far6 G1 p2
                have Kc1 : Hid (y1.cell? ⟨w.heap.size, 0, none⟩ = some (.int .i64 k) ∧ y1.cell? ⟨w.heap.size, 1, none⟩ = some (.int .i64 n) ∧ y1.cell? ⟨w.heap.size, 2, none⟩ = some (.string t) ∧ y1.cell? ⟨(w.heap.size + 1), 0, none⟩ = some (.int .i64 k') ∧ y1.cell? ⟨(w.heap.size + 1), 1, none⟩ = some (.int .i64 n') ∧ y1.cell? ⟨(w.heap.size + 1), 2, none⟩ = some (.string t')) := ⟨q0_1, q1_1, q2_1, p0_1, p1_1, p2_1⟩
                have Ka1 : Hid ((y1.alloc (.cells #[.int .i64 0, .int .i64 0, .string ⟨#[]⟩] 25)).cell? ⟨w.heap.size, 0, none⟩ = some (.int .i64 k) ∧ (y1.alloc (.cells #[.int .i64 0, .int .i64 0, .string ⟨#[]⟩] 25)).cell? ⟨w.heap.size, 1, none⟩ = some (.int .i64 n) ∧ (y1.alloc (.cells #[.int .i64 0, .int .i64 0, .string ⟨#[]⟩] 25)).cell? ⟨w.heap.size, 2, none⟩ = some (.string t) ∧ (y1.alloc (.cells #[.int .i64 0, .int .i64 0, .string ⟨#[]⟩] 25)).cell? ⟨(w.heap.size + 1), 0, none⟩ = some (.int .i64 k') ∧ (y1.alloc (.cells #[.int .i64 0, .int .i64 0, .string ⟨#[]⟩] 25)).cell? ⟨(w.heap.size + 1), 1, none⟩ = some (.int .i64 n') ∧ (y1.alloc (.cells #[.int .i64 0, .int .i64 0, .string ⟨#[]⟩] 25)).cell? ⟨(w.heap.size + 1), 2, none⟩ = some (.string t')) := ⟨far6 ((Below.refl _ _).alloc (Nat.le_refl _) _) q0_1, far6 ((Below.refl _ _).alloc (Nat.le_refl _) _) q1_1, far6 ((Below.refl _ _).alloc (Nat.le_refl _) _) q2_1, far6 ((Below.refl _ _).alloc (Nat.le_refl _) _) p0_1, far6 ((Below.refl _ _).alloc (Nat.le_refl _) _) p1_1, far6 ((Below.refl _ _).alloc (Nat.le_refl _) _) p2_1⟩
                first
                  | (have ZB1_0 := zb3 hb1)
                  | (have ZB1_0 := zb3d hb1)
                  | (have ZB1_0 := zb3e hb1)
                  | skip)
             | (go_at_call 13
                refine (c_specBV op k n t k' n' t' _ hs hs').mono ?_
                rintro e y3 ⟨rfl, hb3⟩
                have G3 : Below y2.heap.size y2 y3 := Below.trans (by first | exact Below.refl _ _ | exact (Below.refl _ _).drew | exact (Below.refl _ _).alloc (Nat.le_refl _) _ | exact ((Below.refl _ _).alloc (Nat.le_refl _) _).drew | exact (Below.refl _ _).drew.alloc (Nat.le_refl _) _) (hb3.mono (by first | exact Nat.le_refl _ | simp))
                have H3 : Below w2.heap.size w2 y3 := H2.trans (G3.mono H2.size)
                have e3 : y2.heap.size ≤ y3.heap.size := G3.size
                have q0_3 := far6 G3 q0_2
                have q1_3 := far6 G3 q1_2
                have q2_3 := far6 G3 q2_2
                have p0_3 := far6 G3 p0_2
                have p1_3 := far6 G3 p1_2
                have p2_3 := far6 G3 p2_2
                have Kc3 : Hid (y3.cell? ⟨w.heap.size, 0, none⟩ = some (.int .i64 k) ∧ y3.cell? ⟨w.heap.size, 1, none⟩ = some (.int .i64 n) ∧ y3.cell? ⟨w.heap.size, 2, none⟩ = some (.string t) ∧ y3.cell? ⟨(w.heap.size + 1), 0, none⟩ = some (.int .i64 k') ∧ y3.cell? ⟨(w.heap.size + 1), 1, none⟩ = some (.int .i64 n') ∧ y3.cell? ⟨(w.heap.size + 1), 2, none⟩ = some (.string t')) := ⟨q0_3, q1_3, q2_3, p0_3, p1_3, p2_3⟩
                have Ka3 : Hid ((y3.alloc (.cells #[.int .i64 0, .int .i64 0, .string ⟨#[]⟩] 25)).cell? ⟨w.heap.size, 0, none⟩ = some (.int .i64 k) ∧ (y3.alloc (.cells #[.int .i64 0, .int .i64 0, .string ⟨#[]⟩] 25)).cell? ⟨w.heap.size, 1, none⟩ = some (.int .i64 n) ∧ (y3.alloc (.cells #[.int .i64 0, .int .i64 0, .string ⟨#[]⟩] 25)).cell? ⟨w.heap.size, 2, none⟩ = some (.string t) ∧ (y3.alloc (.cells #[.int .i64 0, .int .i64 0, .string ⟨#[]⟩] 25)).cell? ⟨(w.heap.size + 1), 0, none⟩ = some (.int .i64 k') ∧ (y3.alloc (.cells #[.int .i64 0, .int .i64 0, .string ⟨#[]⟩] 25)).cell? ⟨(w.heap.size + 1), 1, none⟩ = some (.int .i64 n') ∧ (y3.alloc (.cells #[.int .i64 0, .int .i64 0, .string ⟨#[]⟩] 25)).cell? ⟨(w.heap.size + 1), 2, none⟩ = some (.string t')) := ⟨far6 ((Below.refl _ _).alloc (Nat.le_refl _) _) q0_3, far6 ((Below.refl _ _).alloc (Nat.le_refl _) _) q1_3, far6 ((Below.refl _ _).alloc (Nat.le_refl _) _) q2_3, far6 ((Below.refl _ _).alloc (Nat.le_refl _) _) p0_3, far6 ((Below.refl _ _).alloc (Nat.le_refl _) _) p1_3, far6 ((Below.refl _ _).alloc (Nat.le_refl _) _) p2_3⟩
                have Kb3 : Hid ((y3.alloc (.cells #[.int .i64 (binA op k n t k' n' t').k, .int .i64 (binA op k n t k' n' t').n, .string ⟨#[]⟩] 25)).cell? ⟨w.heap.size, 0, none⟩ = some (.int .i64 k) ∧ (y3.alloc (.cells #[.int .i64 (binA op k n t k' n' t').k, .int .i64 (binA op k n t k' n' t').n, .string ⟨#[]⟩] 25)).cell? ⟨w.heap.size, 1, none⟩ = some (.int .i64 n) ∧ (y3.alloc (.cells #[.int .i64 (binA op k n t k' n' t').k, .int .i64 (binA op k n t k' n' t').n, .string ⟨#[]⟩] 25)).cell? ⟨w.heap.size, 2, none⟩ = some (.string t) ∧ (y3.alloc (.cells #[.int .i64 (binA op k n t k' n' t').k, .int .i64 (binA op k n t k' n' t').n, .string ⟨#[]⟩] 25)).cell? ⟨(w.heap.size + 1), 0, none⟩ = some (.int .i64 k') ∧ (y3.alloc (.cells #[.int .i64 (binA op k n t k' n' t').k, .int .i64 (binA op k n t k' n' t').n, .string ⟨#[]⟩] 25)).cell? ⟨(w.heap.size + 1), 1, none⟩ = some (.int .i64 n') ∧ (y3.alloc (.cells #[.int .i64 (binA op k n t k' n' t').k, .int .i64 (binA op k n t k' n' t').n, .string ⟨#[]⟩] 25)).cell? ⟨(w.heap.size + 1), 2, none⟩ = some (.string t')) := ⟨far6 ((Below.refl _ _).alloc (Nat.le_refl _) _) q0_3, far6 ((Below.refl _ _).alloc (Nat.le_refl _) _) q1_3, far6 ((Below.refl _ _).alloc (Nat.le_refl _) _) q2_3, far6 ((Below.refl _ _).alloc (Nat.le_refl _) _) p0_3, far6 ((Below.refl _ _).alloc (Nat.le_refl _) _) p1_3, far6 ((Below.refl _ _).alloc (Nat.le_refl _) _) p2_3⟩
                first
                  | (have ZB3_0 := ZB2_0.belowS G3)
                  | (have ZB3_1 := ZB2_1.belowS G3)
                  | (have ZB3_2 := zb3 hb3)
                  | (have ZB3_2 := zb3d hb3)
                  | (have ZB3_2 := zb3e hb3)
                  | skip
                first
                  | (have KP : Hid (((((y3).setCell ⟨w2.heap.size, 0, none⟩ (.int .i64 (binA op k n t k' n' t').k)).setCell ⟨w2.heap.size, 1, none⟩ (.int .i64 (binA op k n t k' n' t').n)).setCell ⟨w2.heap.size, 2, none⟩ (.string ⟨#[]⟩)).cell? ⟨w.heap.size, 0, none⟩ = some (.int .i64 k) ∧ ((((y3).setCell ⟨w2.heap.size, 0, none⟩ (.int .i64 (binA op k n t k' n' t').k)).setCell ⟨w2.heap.size, 1, none⟩ (.int .i64 (binA op k n t k' n' t').n)).setCell ⟨w2.heap.size, 2, none⟩ (.string ⟨#[]⟩)).cell? ⟨w.heap.size, 1, none⟩ = some (.int .i64 n) ∧ ((((y3).setCell ⟨w2.heap.size, 0, none⟩ (.int .i64 (binA op k n t k' n' t').k)).setCell ⟨w2.heap.size, 1, none⟩ (.int .i64 (binA op k n t k' n' t').n)).setCell ⟨w2.heap.size, 2, none⟩ (.string ⟨#[]⟩)).cell? ⟨w.heap.size, 2, none⟩ = some (.string t) ∧ ((((y3).setCell ⟨w2.heap.size, 0, none⟩ (.int .i64 (binA op k n t k' n' t').k)).setCell ⟨w2.heap.size, 1, none⟩ (.int .i64 (binA op k n t k' n' t').n)).setCell ⟨w2.heap.size, 2, none⟩ (.string ⟨#[]⟩)).cell? ⟨(w.heap.size + 1), 0, none⟩ = some (.int .i64 k') ∧ ((((y3).setCell ⟨w2.heap.size, 0, none⟩ (.int .i64 (binA op k n t k' n' t').k)).setCell ⟨w2.heap.size, 1, none⟩ (.int .i64 (binA op k n t k' n' t').n)).setCell ⟨w2.heap.size, 2, none⟩ (.string ⟨#[]⟩)).cell? ⟨(w.heap.size + 1), 1, none⟩ = some (.int .i64 n') ∧ ((((y3).setCell ⟨w2.heap.size, 0, none⟩ (.int .i64 (binA op k n t k' n' t').k)).setCell ⟨w2.heap.size, 1, none⟩ (.int .i64 (binA op k n t k' n' t').n)).setCell ⟨w2.heap.size, 2, none⟩ (.string ⟨#[]⟩)).cell? ⟨(w.heap.size + 1), 2, none⟩ = some (.string t')) := ⟨(put3_cell _ _ _ _ _ _ _ (by omega)).trans q0_3, (put3_cell _ _ _ _ _ _ _ (by omega)).trans q1_3, (put3_cell _ _ _ _ _ _ _ (by omega)).trans q2_3, (put3_cell _ _ _ _ _ _ _ (by omega)).trans p0_3, (put3_cell _ _ _ _ _ _ _ (by omega)).trans p1_3, (put3_cell _ _ _ _ _ _ _ (by omega)).trans p2_3⟩
                     have lB := ZB3_0.lt
                     obtain ⟨zc0, zc1, zc2⟩ := box3 ZB3_0
                     have zt0 := ZB3_0.thaw 0
                     have zt1 := ZB3_0.thaw 1
                     have zt2 := ZB3_0.thaw 2
                     skip)
                  | (have KP : Hid (((((y3).setCell ⟨y1.heap.size, 0, none⟩ (.int .i64 (binA op k n t k' n' t').k)).setCell ⟨y1.heap.size, 1, none⟩ (.int .i64 (binA op k n t k' n' t').n)).setCell ⟨y1.heap.size, 2, none⟩ (.string ⟨#[]⟩)).cell? ⟨w.heap.size, 0, none⟩ = some (.int .i64 k) ∧ ((((y3).setCell ⟨y1.heap.size, 0, none⟩ (.int .i64 (binA op k n t k' n' t').k)).setCell ⟨y1.heap.size, 1, none⟩ (.int .i64 (binA op k n t k' n' t').n)).setCell ⟨y1.heap.size, 2, none⟩ (.string ⟨#[]⟩)).cell? ⟨w.heap.size, 1, none⟩ = some (.int .i64 n) ∧ ((((y3).setCell ⟨y1.heap.size, 0, none⟩ (.int .i64 (binA op k n t k' n' t').k)).setCell ⟨y1.heap.size, 1, none⟩ (.int .i64 (binA op k n t k' n' t').n)).setCell ⟨y1.heap.size, 2, none⟩ (.string ⟨#[]⟩)).cell? ⟨w.heap.size, 2, none⟩ = some (.string t) ∧ ((((y3).setCell ⟨y1.heap.size, 0, none⟩ (.int .i64 (binA op k n t k' n' t').k)).setCell ⟨y1.heap.size, 1, none⟩ (.int .i64 (binA op k n t k' n' t').n)).setCell ⟨y1.heap.size, 2, none⟩ (.string ⟨#[]⟩)).cell? ⟨(w.heap.size + 1), 0, none⟩ = some (.int .i64 k') ∧ ((((y3).setCell ⟨y1.heap.size, 0, none⟩ (.int .i64 (binA op k n t k' n' t').k)).setCell ⟨y1.heap.size, 1, none⟩ (.int .i64 (binA op k n t k' n' t').n)).setCell ⟨y1.heap.size, 2, none⟩ (.string ⟨#[]⟩)).cell? ⟨(w.heap.size + 1), 1, none⟩ = some (.int .i64 n') ∧ ((((y3).setCell ⟨y1.heap.size, 0, none⟩ (.int .i64 (binA op k n t k' n' t').k)).setCell ⟨y1.heap.size, 1, none⟩ (.int .i64 (binA op k n t k' n' t').n)).setCell ⟨y1.heap.size, 2, none⟩ (.string ⟨#[]⟩)).cell? ⟨(w.heap.size + 1), 2, none⟩ = some (.string t')) := ⟨(put3_cell _ _ _ _ _ _ _ (by omega)).trans q0_3, (put3_cell _ _ _ _ _ _ _ (by omega)).trans q1_3, (put3_cell _ _ _ _ _ _ _ (by omega)).trans q2_3, (put3_cell _ _ _ _ _ _ _ (by omega)).trans p0_3, (put3_cell _ _ _ _ _ _ _ (by omega)).trans p1_3, (put3_cell _ _ _ _ _ _ _ (by omega)).trans p2_3⟩
                     have lB := ZB3_1.lt
                     obtain ⟨zc0, zc1, zc2⟩ := box3 ZB3_1
                     have zt0 := ZB3_1.thaw 0
                     have zt1 := ZB3_1.thaw 1
                     have zt2 := ZB3_1.thaw 2
                     skip)
                  | (have KP : Hid (((((y3).setCell ⟨y2.heap.size, 0, none⟩ (.int .i64 (binA op k n t k' n' t').k)).setCell ⟨y2.heap.size, 1, none⟩ (.int .i64 (binA op k n t k' n' t').n)).setCell ⟨y2.heap.size, 2, none⟩ (.string ⟨#[]⟩)).cell? ⟨w.heap.size, 0, none⟩ = some (.int .i64 k) ∧ ((((y3).setCell ⟨y2.heap.size, 0, none⟩ (.int .i64 (binA op k n t k' n' t').k)).setCell ⟨y2.heap.size, 1, none⟩ (.int .i64 (binA op k n t k' n' t').n)).setCell ⟨y2.heap.size, 2, none⟩ (.string ⟨#[]⟩)).cell? ⟨w.heap.size, 1, none⟩ = some (.int .i64 n) ∧ ((((y3).setCell ⟨y2.heap.size, 0, none⟩ (.int .i64 (binA op k n t k' n' t').k)).setCell ⟨y2.heap.size, 1, none⟩ (.int .i64 (binA op k n t k' n' t').n)).setCell ⟨y2.heap.size, 2, none⟩ (.string ⟨#[]⟩)).cell? ⟨w.heap.size, 2, none⟩ = some (.string t) ∧ ((((y3).setCell ⟨y2.heap.size, 0, none⟩ (.int .i64 (binA op k n t k' n' t').k)).setCell ⟨y2.heap.size, 1, none⟩ (.int .i64 (binA op k n t k' n' t').n)).setCell ⟨y2.heap.size, 2, none⟩ (.string ⟨#[]⟩)).cell? ⟨(w.heap.size + 1), 0, none⟩ = some (.int .i64 k') ∧ ((((y3).setCell ⟨y2.heap.size, 0, none⟩ (.int .i64 (binA op k n t k' n' t').k)).setCell ⟨y2.heap.size, 1, none⟩ (.int .i64 (binA op k n t k' n' t').n)).setCell ⟨y2.heap.size, 2, none⟩ (.string ⟨#[]⟩)).cell? ⟨(w.heap.size + 1), 1, none⟩ = some (.int .i64 n') ∧ ((((y3).setCell ⟨y2.heap.size, 0, none⟩ (.int .i64 (binA op k n t k' n' t').k)).setCell ⟨y2.heap.size, 1, none⟩ (.int .i64 (binA op k n t k' n' t').n)).setCell ⟨y2.heap.size, 2, none⟩ (.string ⟨#[]⟩)).cell? ⟨(w.heap.size + 1), 2, none⟩ = some (.string t')) := ⟨(put3_cell _ _ _ _ _ _ _ (by omega)).trans q0_3, (put3_cell _ _ _ _ _ _ _ (by omega)).trans q1_3, (put3_cell _ _ _ _ _ _ _ (by omega)).trans q2_3, (put3_cell _ _ _ _ _ _ _ (by omega)).trans p0_3, (put3_cell _ _ _ _ _ _ _ (by omega)).trans p1_3, (put3_cell _ _ _ _ _ _ _ (by omega)).trans p2_3⟩
                     have lB := ZB3_2.lt
                     obtain ⟨zc0, zc1, zc2⟩ := box3 ZB3_2
                     have zt0 := ZB3_2.thaw 0
                     have zt1 := ZB3_2.thaw 1
                     have zt2 := ZB3_2.thaw 2
                     skip)
                  | skip))
    all_goals (clear Kc1 Ka1 Kc2 Ka2 Kc3 Ka3 Kb3 Kd0 Ke0 Kf0 q0_1 q1_1 q2_1 p0_1 p1_1 p2_1 q0_2 q1_2 q2_2 p0_2 p1_2 p2_2 q0_3 q1_3 q2_3 p0_3 p1_3 p2_3)
    all_goals (clear q0 q1 q2 p0 p1 p2)
    all_goals (go_wp2_with fail; go_meet)
    all_goals first
      | with_reducible exact cutV_new H3
      | with_reducible exact cutV_put H3 ZB3_0 (by omega)
      | with_reducible exact cutV_put H3 ZB3_1 (by omega)
      | with_reducible exact cutV_put H3 ZB3_2 (by omega)
  case rest =>
    rename World => w3
    obtain ⟨gb, rfl, rfl, hb, hgb, wbx⟩ := hcut
    have HH3 : Hid (Boxes w k n t k' n' t' w3) := HH2.out.later hb
    have WB3 : Hid (Box w3 gb 25 #[.int .i64 (binA op k n t k' n' t').k, .int .i64 (binA op k n t k' n' t').n, .string ⟨#[]⟩]) := wbx
    have l3 : w.heap.size + 1 < w3.heap.size := by have := hb.size; omega
    clear q0 q1 q2 p0 p1 p2 hb hgb wbx HH2
    obtain ⟨q0, q1, q2, p0, p1, p2⟩ := HH3.out.six
    go_wp2_with fail
    go_cut [10, 11] (fun sp sc wx => CutV w3 (binA op k n t k' n' t') sp sc wx)
    case first =>
      have Kd0 : Hid ((w3.drew).cell? ⟨w.heap.size, 0, none⟩ = some (.int .i64 k) ∧ (w3.drew).cell? ⟨w.heap.size, 1, none⟩ = some (.int .i64 n) ∧ (w3.drew).cell? ⟨w.heap.size, 2, none⟩ = some (.string t) ∧ (w3.drew).cell? ⟨(w.heap.size + 1), 0, none⟩ = some (.int .i64 k') ∧ (w3.drew).cell? ⟨(w.heap.size + 1), 1, none⟩ = some (.int .i64 n') ∧ (w3.drew).cell? ⟨(w.heap.size + 1), 2, none⟩ = some (.string t')) := ⟨q0, q1, q2, p0, p1, p2⟩
      have Ke0 : Hid ((w3.drew.alloc (.cells #[.int .i64 0, .int .i64 0, .string ⟨#[]⟩] 25)).cell? ⟨w.heap.size, 0, none⟩ = some (.int .i64 k) ∧ (w3.drew.alloc (.cells #[.int .i64 0, .int .i64 0, .string ⟨#[]⟩] 25)).cell? ⟨w.heap.size, 1, none⟩ = some (.int .i64 n) ∧ (w3.drew.alloc (.cells #[.int .i64 0, .int .i64 0, .string ⟨#[]⟩] 25)).cell? ⟨w.heap.size, 2, none⟩ = some (.string t) ∧ (w3.drew.alloc (.cells #[.int .i64 0, .int .i64 0, .string ⟨#[]⟩] 25)).cell? ⟨(w.heap.size + 1), 0, none⟩ = some (.int .i64 k') ∧ (w3.drew.alloc (.cells #[.int .i64 0, .int .i64 0, .string ⟨#[]⟩] 25)).cell? ⟨(w.heap.size + 1), 1, none⟩ = some (.int .i64 n') ∧ (w3.drew.alloc (.cells #[.int .i64 0, .int .i64 0, .string ⟨#[]⟩] 25)).cell? ⟨(w.heap.size + 1), 2, none⟩ = some (.string t')) := ⟨far6 (w := w3.drew) ((Below.refl _ _).alloc (Nat.le_refl _) _) q0, far6 (w := w3.drew) ((Below.refl _ _).alloc (Nat.le_refl _) _) q1, far6 (w := w3.drew) ((Below.refl _ _).alloc (Nat.le_refl _) _) q2, far6 (w := w3.drew) ((Below.refl _ _).alloc (Nat.le_refl _) _) p0, far6 (w := w3.drew) ((Below.refl _ _).alloc (Nat.le_refl _) _) p1, far6 (w := w3.drew) ((Below.refl _ _).alloc (Nat.le_refl _) _) p2⟩
      have Kf0 : Hid ((w3.alloc (.cells #[.int .i64 0, .int .i64 0, .string ⟨#[]⟩] 25)).drew.cell? ⟨w.heap.size, 0, none⟩ = some (.int .i64 k) ∧ (w3.alloc (.cells #[.int .i64 0, .int .i64 0, .string ⟨#[]⟩] 25)).drew.cell? ⟨w.heap.size, 1, none⟩ = some (.int .i64 n) ∧ (w3.alloc (.cells #[.int .i64 0, .int .i64 0, .string ⟨#[]⟩] 25)).drew.cell? ⟨w.heap.size, 2, none⟩ = some (.string t) ∧ (w3.alloc (.cells #[.int .i64 0, .int .i64 0, .string ⟨#[]⟩] 25)).drew.cell? ⟨(w.heap.size + 1), 0, none⟩ = some (.int .i64 k') ∧ (w3.alloc (.cells #[.int .i64 0, .int .i64 0, .string ⟨#[]⟩] 25)).drew.cell? ⟨(w.heap.size + 1), 1, none⟩ = some (.int .i64 n') ∧ (w3.alloc (.cells #[.int .i64 0, .int .i64 0, .string ⟨#[]⟩] 25)).drew.cell? ⟨(w.heap.size + 1), 2, none⟩ = some (.string t')) := ⟨far6 (((Below.refl _ _).alloc (Nat.le_refl _) (.cells #[.int .i64 0, .int .i64 0, .string ⟨#[]⟩] 25)).drew) q0, far6 (((Below.refl _ _).alloc (Nat.le_refl _) (.cells #[.int .i64 0, .int .i64 0, .string ⟨#[]⟩] 25)).drew) q1, far6 (((Below.refl _ _).alloc (Nat.le_refl _) (.cells #[.int .i64 0, .int .i64 0, .string ⟨#[]⟩] 25)).drew) q2, far6 (((Below.refl _ _).alloc (Nat.le_refl _) (.cells #[.int .i64 0, .int .i64 0, .string ⟨#[]⟩] 25)).drew) p0, far6 (((Below.refl _ _).alloc (Nat.le_refl _) (.cells #[.int .i64 0, .int .i64 0, .string ⟨#[]⟩] 25)).drew) p1, far6 (((Below.refl _ _).alloc (Nat.le_refl _) (.cells #[.int .i64 0, .int .i64 0, .string ⟨#[]⟩] 25)).drew) p2⟩
      go_region_held3 (fun y => y.cell? ⟨w.heap.size, 0, none⟩ = some (.int .i64 k) ∧ y.cell? ⟨w.heap.size, 1, none⟩ = some (.int .i64 n) ∧ y.cell? ⟨w.heap.size, 2, none⟩ = some (.string t) ∧ y.cell? ⟨(w.heap.size + 1), 0, none⟩ = some (.int .i64 k') ∧ y.cell? ⟨(w.heap.size + 1), 1, none⟩ = some (.int .i64 n') ∧ y.cell? ⟨(w.heap.size + 1), 2, none⟩ = some (.string t'))
        (first | with_reducible exact KP.out | with_reducible exact Kb3.out | with_reducible exact Kc3.out | with_reducible exact Ka3.out | with_reducible exact Kc2.out | with_reducible exact Ka2.out | with_reducible exact Kc1.out | with_reducible exact Ka1.out | with_reducible exact Kd0.out | with_reducible exact Ke0.out | with_reducible exact Kf0.out | go_keep)
        (first | (go_at_call 14
                  have HH := H1
                  clear HH
                  refine (c_to _ _ _ _).mono ?_
                  rintro e y2 ⟨rfl, hb2⟩
                  have G2 : Below y1.heap.size y1 y2 := Below.trans (by first | exact Below.refl _ _ | exact (Below.refl _ _).drew | exact (Below.refl _ _).alloc (Nat.le_refl _) _ | exact ((Below.refl _ _).alloc (Nat.le_refl _) _).drew | exact (Below.refl _ _).drew.alloc (Nat.le_refl _) _) (hb2.mono (by first | exact Nat.le_refl _ | simp))
                  have H2 : Below w3.heap.size w3 y2 := H1.trans (G2.mono H1.size)
                  have e2 : y1.heap.size ≤ y2.heap.size := G2.size
                  have q0_2 := far6 G2 q0_1
                  have q1_2 := far6 G2 q1_1
                  have q2_2 := far6 G2 q2_1
                  have p0_2 := far6 G2 p0_1
                  have p1_2 := far6 G2 p1_1
                  have p2_2 := far6 G2 p2_1
                  have Kc2 : Hid (y2.cell? ⟨w.heap.size, 0, none⟩ = some (.int .i64 k) ∧ y2.cell? ⟨w.heap.size, 1, none⟩ = some (.int .i64 n) ∧ y2.cell? ⟨w.heap.size, 2, none⟩ = some (.string t) ∧ y2.cell? ⟨(w.heap.size + 1), 0, none⟩ = some (.int .i64 k') ∧ y2.cell? ⟨(w.heap.size + 1), 1, none⟩ = some (.int .i64 n') ∧ y2.cell? ⟨(w.heap.size + 1), 2, none⟩ = some (.string t')) := ⟨q0_2, q1_2, q2_2, p0_2, p1_2, p2_2⟩
                  have Ka2 : Hid ((y2.alloc (.cells #[.int .i64 0, .int .i64 0, .string ⟨#[]⟩] 25)).cell? ⟨w.heap.size, 0, none⟩ = some (.int .i64 k) ∧ (y2.alloc (.cells #[.int .i64 0, .int .i64 0, .string ⟨#[]⟩] 25)).cell? ⟨w.heap.size, 1, none⟩ = some (.int .i64 n) ∧ (y2.alloc (.cells #[.int .i64 0, .int .i64 0, .string ⟨#[]⟩] 25)).cell? ⟨w.heap.size, 2, none⟩ = some (.string t) ∧ (y2.alloc (.cells #[.int .i64 0, .int .i64 0, .string ⟨#[]⟩] 25)).cell? ⟨(w.heap.size + 1), 0, none⟩ = some (.int .i64 k') ∧ (y2.alloc (.cells #[.int .i64 0, .int .i64 0, .string ⟨#[]⟩] 25)).cell? ⟨(w.heap.size + 1), 1, none⟩ = some (.int .i64 n') ∧ (y2.alloc (.cells #[.int .i64 0, .int .i64 0, .string ⟨#[]⟩] 25)).cell? ⟨(w.heap.size + 1), 2, none⟩ = some (.string t')) := ⟨far6 ((Below.refl _ _).alloc (Nat.le_refl _) _) q0_2, far6 ((Below.refl _ _).alloc (Nat.le_refl _) _) q1_2, far6 ((Below.refl _ _).alloc (Nat.le_refl _) _) q2_2, far6 ((Below.refl _ _).alloc (Nat.le_refl _) _) p0_2, far6 ((Below.refl _ _).alloc (Nat.le_refl _) _) p1_2, far6 ((Below.refl _ _).alloc (Nat.le_refl _) _) p2_2⟩
                  first
                    | (have ZB2_0 := ZB1_0.belowS G2)
                    | (have ZB2_1 := zb3 hb2)
                    | (have ZB2_1 := zb3d hb2)
                    | (have ZB2_1 := zb3e hb2)
                    | skip)
               | (go_at_call 14
                  refine (c_to _ _ _ _).mono ?_
                  rintro e y1 ⟨rfl, hb1⟩
                  have G1 : Below w3.heap.size w3 y1 := Below.trans (by first | exact Below.refl _ _ | exact (Below.refl _ _).drew | exact (Below.refl _ _).alloc (Nat.le_refl _) _ | exact ((Below.refl _ _).alloc (Nat.le_refl _) _).drew | exact (Below.refl _ _).drew.alloc (Nat.le_refl _) _) (hb1.mono (by first | exact Nat.le_refl _ | simp))
                  have H1 : Below w3.heap.size w3 y1 := G1
                  have e1 : w3.heap.size ≤ y1.heap.size := G1.size
                  have q0_1 := far6 G1 q0
                  have q1_1 := far6 G1 q1
                  have q2_1 := far6 G1 q2
                  have p0_1 := far6 G1 p0
                  have p1_1 := far6 G1 p1
                  have p2_1 := far6 G1 p2
                  have Kc1 : Hid (y1.cell? ⟨w.heap.size, 0, none⟩ = some (.int .i64 k) ∧ y1.cell? ⟨w.heap.size, 1, none⟩ = some (.int .i64 n) ∧ y1.cell? ⟨w.heap.size, 2, none⟩ = some (.string t) ∧ y1.cell? ⟨(w.heap.size + 1), 0, none⟩ = some (.int .i64 k') ∧ y1.cell? ⟨(w.heap.size + 1), 1, none⟩ = some (.int .i64 n') ∧ y1.cell? ⟨(w.heap.size + 1), 2, none⟩ = some (.string t')) := ⟨q0_1, q1_1, q2_1, p0_1, p1_1, p2_1⟩
                  have Ka1 : Hid ((y1.alloc (.cells #[.int .i64 0, .int .i64 0, .string ⟨#[]⟩] 25)).cell? ⟨w.heap.size, 0, none⟩ = some (.int .i64 k) ∧ (y1.alloc (.cells #[.int .i64 0, .int .i64 0, .string ⟨#[]⟩] 25)).cell? ⟨w.heap.size, 1, none⟩ = some (.int .i64 n) ∧ (y1.alloc (.cells #[.int .i64 0, .int .i64 0, .string ⟨#[]⟩] 25)).cell? ⟨w.heap.size, 2, none⟩ = some (.string t) ∧ (y1.alloc (.cells #[.int .i64 0, .int .i64 0, .string ⟨#[]⟩] 25)).cell? ⟨(w.heap.size + 1), 0, none⟩ = some (.int .i64 k') ∧ (y1.alloc (.cells #[.int .i64 0, .int .i64 0, .string ⟨#[]⟩] 25)).cell? ⟨(w.heap.size + 1), 1, none⟩ = some (.int .i64 n') ∧ (y1.alloc (.cells #[.int .i64 0, .int .i64 0, .string ⟨#[]⟩] 25)).cell? ⟨(w.heap.size + 1), 2, none⟩ = some (.string t')) := ⟨far6 ((Below.refl _ _).alloc (Nat.le_refl _) _) q0_1, far6 ((Below.refl _ _).alloc (Nat.le_refl _) _) q1_1, far6 ((Below.refl _ _).alloc (Nat.le_refl _) _) q2_1, far6 ((Below.refl _ _).alloc (Nat.le_refl _) _) p0_1, far6 ((Below.refl _ _).alloc (Nat.le_refl _) _) p1_1, far6 ((Below.refl _ _).alloc (Nat.le_refl _) _) p2_1⟩
                  first
                    | (have ZB1_0 := zb3 hb1)
                    | (have ZB1_0 := zb3d hb1)
                    | (have ZB1_0 := zb3e hb1)
                    | skip)
               | (go_at_call 15
                  refine (c_implBV op k n t k' n' t' _ hs hs').mono ?_
                  rintro e y3 ⟨rfl, hb3⟩
                  have G3 : Below y2.heap.size y2 y3 := Below.trans (by first | exact Below.refl _ _ | exact (Below.refl _ _).drew | exact (Below.refl _ _).alloc (Nat.le_refl _) _ | exact ((Below.refl _ _).alloc (Nat.le_refl _) _).drew | exact (Below.refl _ _).drew.alloc (Nat.le_refl _) _) (hb3.mono (by first | exact Nat.le_refl _ | simp))
                  have H3 : Below w3.heap.size w3 y3 := H2.trans (G3.mono H2.size)
                  have e3 : y2.heap.size ≤ y3.heap.size := G3.size
                  have q0_3 := far6 G3 q0_2
                  have q1_3 := far6 G3 q1_2
                  have q2_3 := far6 G3 q2_2
                  have p0_3 := far6 G3 p0_2
                  have p1_3 := far6 G3 p1_2
                  have p2_3 := far6 G3 p2_2
                  have Kc3 : Hid (y3.cell? ⟨w.heap.size, 0, none⟩ = some (.int .i64 k) ∧ y3.cell? ⟨w.heap.size, 1, none⟩ = some (.int .i64 n) ∧ y3.cell? ⟨w.heap.size, 2, none⟩ = some (.string t) ∧ y3.cell? ⟨(w.heap.size + 1), 0, none⟩ = some (.int .i64 k') ∧ y3.cell? ⟨(w.heap.size + 1), 1, none⟩ = some (.int .i64 n') ∧ y3.cell? ⟨(w.heap.size + 1), 2, none⟩ = some (.string t')) := ⟨q0_3, q1_3, q2_3, p0_3, p1_3, p2_3⟩
                  have Ka3 : Hid ((y3.alloc (.cells #[.int .i64 0, .int .i64 0, .string ⟨#[]⟩] 25)).cell? ⟨w.heap.size, 0, none⟩ = some (.int .i64 k) ∧ (y3.alloc (.cells #[.int .i64 0, .int .i64 0, .string ⟨#[]⟩] 25)).cell? ⟨w.heap.size, 1, none⟩ = some (.int .i64 n) ∧ (y3.alloc (.cells #[.int .i64 0, .int .i64 0, .string ⟨#[]⟩] 25)).cell? ⟨w.heap.size, 2, none⟩ = some (.string t) ∧ (y3.alloc (.cells #[.int .i64 0, .int .i64 0, .string ⟨#[]⟩] 25)).cell? ⟨(w.heap.size + 1), 0, none⟩ = some (.int .i64 k') ∧ (y3.alloc (.cells #[.int .i64 0, .int .i64 0, .string ⟨#[]⟩] 25)).cell? ⟨(w.heap.size + 1), 1, none⟩ = some (.int .i64 n') ∧ (y3.alloc (.cells #[.int .i64 0, .int .i64 0, .string ⟨#[]⟩] 25)).cell? ⟨(w.heap.size + 1), 2, none⟩ = some (.string t')) := ⟨far6 ((Below.refl _ _).alloc (Nat.le_refl _) _) q0_3, far6 ((Below.refl _ _).alloc (Nat.le_refl _) _) q1_3, far6 ((Below.refl _ _).alloc (Nat.le_refl _) _) q2_3, far6 ((Below.refl _ _).alloc (Nat.le_refl _) _) p0_3, far6 ((Below.refl _ _).alloc (Nat.le_refl _) _) p1_3, far6 ((Below.refl _ _).alloc (Nat.le_refl _) _) p2_3⟩
                  have Kb3 : Hid ((y3.alloc (.cells #[.int .i64 (binA op k n t k' n' t').k, .int .i64 (binA op k n t k' n' t').n, .string ⟨#[]⟩] 25)).cell? ⟨w.heap.size, 0, none⟩ = some (.int .i64 k) ∧ (y3.alloc (.cells #[.int .i64 (binA op k n t k' n' t').k, .int .i64 (binA op k n t k' n' t').n, .string ⟨#[]⟩] 25)).cell? ⟨w.heap.size, 1, none⟩ = some (.int .i64 n) ∧ (y3.alloc (.cells #[.int .i64 (binA op k n t k' n' t').k, .int .i64 (binA op k n t k' n' t').n, .string ⟨#[]⟩] 25)).cell? ⟨w.heap.size, 2, none⟩ = some (.string t) ∧ (y3.alloc (.cells #[.int .i64 (binA op k n t k' n' t').k, .int .i64 (binA op k n t k' n' t').n, .string ⟨#[]⟩] 25)).cell? ⟨(w.heap.size + 1), 0, none⟩ = some (.int .i64 k') ∧ (y3.alloc (.cells #[.int .i64 (binA op k n t k' n' t').k, .int .i64 (binA op k n t k' n' t').n, .string ⟨#[]⟩] 25)).cell? ⟨(w.heap.size + 1), 1, none⟩ = some (.int .i64 n') ∧ (y3.alloc (.cells #[.int .i64 (binA op k n t k' n' t').k, .int .i64 (binA op k n t k' n' t').n, .string ⟨#[]⟩] 25)).cell? ⟨(w.heap.size + 1), 2, none⟩ = some (.string t')) := ⟨far6 ((Below.refl _ _).alloc (Nat.le_refl _) _) q0_3, far6 ((Below.refl _ _).alloc (Nat.le_refl _) _) q1_3, far6 ((Below.refl _ _).alloc (Nat.le_refl _) _) q2_3, far6 ((Below.refl _ _).alloc (Nat.le_refl _) _) p0_3, far6 ((Below.refl _ _).alloc (Nat.le_refl _) _) p1_3, far6 ((Below.refl _ _).alloc (Nat.le_refl _) _) p2_3⟩
                  first
                    | (have ZB3_0 := ZB2_0.belowS G3)
                    | (have ZB3_1 := ZB2_1.belowS G3)
                    | (have ZB3_2 := zb3 hb3)
                    | (have ZB3_2 := zb3d hb3)
                    | (have ZB3_2 := zb3e hb3)
                    | skip
                  first
                    | (have KP : Hid (((((y3).setCell ⟨w3.heap.size, 0, none⟩ (.int .i64 (binA op k n t k' n' t').k)).setCell ⟨w3.heap.size, 1, none⟩ (.int .i64 (binA op k n t k' n' t').n)).setCell ⟨w3.heap.size, 2, none⟩ (.string ⟨#[]⟩)).cell? ⟨w.heap.size, 0, none⟩ = some (.int .i64 k) ∧ ((((y3).setCell ⟨w3.heap.size, 0, none⟩ (.int .i64 (binA op k n t k' n' t').k)).setCell ⟨w3.heap.size, 1, none⟩ (.int .i64 (binA op k n t k' n' t').n)).setCell ⟨w3.heap.size, 2, none⟩ (.string ⟨#[]⟩)).cell? ⟨w.heap.size, 1, none⟩ = some (.int .i64 n) ∧ ((((y3).setCell ⟨w3.heap.size, 0, none⟩ (.int .i64 (binA op k n t k' n' t').k)).setCell ⟨w3.heap.size, 1, none⟩ (.int .i64 (binA op k n t k' n' t').n)).setCell ⟨w3.heap.size, 2, none⟩ (.string ⟨#[]⟩)).cell? ⟨w.heap.size, 2, none⟩ = some (.string t) ∧ ((((y3).setCell ⟨w3.heap.size, 0, none⟩ (.int .i64 (binA op k n t k' n' t').k)).setCell ⟨w3.heap.size, 1, none⟩ (.int .i64 (binA op k n t k' n' t').n)).setCell ⟨w3.heap.size, 2, none⟩ (.string ⟨#[]⟩)).cell? ⟨(w.heap.size + 1), 0, none⟩ = some (.int .i64 k') ∧ ((((y3).setCell ⟨w3.heap.size, 0, none⟩ (.int .i64 (binA op k n t k' n' t').k)).setCell ⟨w3.heap.size, 1, none⟩ (.int .i64 (binA op k n t k' n' t').n)).setCell ⟨w3.heap.size, 2, none⟩ (.string ⟨#[]⟩)).cell? ⟨(w.heap.size + 1), 1, none⟩ = some (.int .i64 n') ∧ ((((y3).setCell ⟨w3.heap.size, 0, none⟩ (.int .i64 (binA op k n t k' n' t').k)).setCell ⟨w3.heap.size, 1, none⟩ (.int .i64 (binA op k n t k' n' t').n)).setCell ⟨w3.heap.size, 2, none⟩ (.string ⟨#[]⟩)).cell? ⟨(w.heap.size + 1), 2, none⟩ = some (.string t')) := ⟨(put3_cell _ _ _ _ _ _ _ (by omega)).trans q0_3, (put3_cell _ _ _ _ _ _ _ (by omega)).trans q1_3, (put3_cell _ _ _ _ _ _ _ (by omega)).trans q2_3, (put3_cell _ _ _ _ _ _ _ (by omega)).trans p0_3, (put3_cell _ _ _ _ _ _ _ (by omega)).trans p1_3, (put3_cell _ _ _ _ _ _ _ (by omega)).trans p2_3⟩
                       have lB := ZB3_0.lt
                       obtain ⟨zc0, zc1, zc2⟩ := box3 ZB3_0
                       have zt0 := ZB3_0.thaw 0
                       have zt1 := ZB3_0.thaw 1
                       have zt2 := ZB3_0.thaw 2
                       skip)
                    | (have KP : Hid (((((y3).setCell ⟨y1.heap.size, 0, none⟩ (.int .i64 (binA op k n t k' n' t').k)).setCell ⟨y1.heap.size, 1, none⟩ (.int .i64 (binA op k n t k' n' t').n)).setCell ⟨y1.heap.size, 2, none⟩ (.string ⟨#[]⟩)).cell? ⟨w.heap.size, 0, none⟩ = some (.int .i64 k) ∧ ((((y3).setCell ⟨y1.heap.size, 0, none⟩ (.int .i64 (binA op k n t k' n' t').k)).setCell ⟨y1.heap.size, 1, none⟩ (.int .i64 (binA op k n t k' n' t').n)).setCell ⟨y1.heap.size, 2, none⟩ (.string ⟨#[]⟩)).cell? ⟨w.heap.size, 1, none⟩ = some (.int .i64 n) ∧ ((((y3).setCell ⟨y1.heap.size, 0, none⟩ (.int .i64 (binA op k n t k' n' t').k)).setCell ⟨y1.heap.size, 1, none⟩ (.int .i64 (binA op k n t k' n' t').n)).setCell ⟨y1.heap.size, 2, none⟩ (.string ⟨#[]⟩)).cell? ⟨w.heap.size, 2, none⟩ = some (.string t) ∧ ((((y3).setCell ⟨y1.heap.size, 0, none⟩ (.int .i64 (binA op k n t k' n' t').k)).setCell ⟨y1.heap.size, 1, none⟩ (.int .i64 (binA op k n t k' n' t').n)).setCell ⟨y1.heap.size, 2, none⟩ (.string ⟨#[]⟩)).cell? ⟨(w.heap.size + 1), 0, none⟩ = some (.int .i64 k') ∧ ((((y3).setCell ⟨y1.heap.size, 0, none⟩ (.int .i64 (binA op k n t k' n' t').k)).setCell ⟨y1.heap.size, 1, none⟩ (.int .i64 (binA op k n t k' n' t').n)).setCell ⟨y1.heap.size, 2, none⟩ (.string ⟨#[]⟩)).cell? ⟨(w.heap.size + 1), 1, none⟩ = some (.int .i64 n') ∧ ((((y3).setCell ⟨y1.heap.size, 0, none⟩ (.int .i64 (binA op k n t k' n' t').k)).setCell ⟨y1.heap.size, 1, none⟩ (.int .i64 (binA op k n t k' n' t').n)).setCell ⟨y1.heap.size, 2, none⟩ (.string ⟨#[]⟩)).cell? ⟨(w.heap.size + 1), 2, none⟩ = some (.string t')) := ⟨(put3_cell _ _ _ _ _ _ _ (by omega)).trans q0_3, (put3_cell _ _ _ _ _ _ _ (by omega)).trans q1_3, (put3_cell _ _ _ _ _ _ _ (by omega)).trans q2_3, (put3_cell _ _ _ _ _ _ _ (by omega)).trans p0_3, (put3_cell _ _ _ _ _ _ _ (by omega)).trans p1_3, (put3_cell _ _ _ _ _ _ _ (by omega)).trans p2_3⟩
                       have lB := ZB3_1.lt
                       obtain ⟨zc0, zc1, zc2⟩ := box3 ZB3_1
                       have zt0 := ZB3_1.thaw 0
                       have zt1 := ZB3_1.thaw 1
                       have zt2 := ZB3_1.thaw 2
                       skip)
                    | (have KP : Hid (((((y3).setCell ⟨y2.heap.size, 0, none⟩ (.int .i64 (binA op k n t k' n' t').k)).setCell ⟨y2.heap.size, 1, none⟩ (.int .i64 (binA op k n t k' n' t').n)).setCell ⟨y2.heap.size, 2, none⟩ (.string ⟨#[]⟩)).cell? ⟨w.heap.size, 0, none⟩ = some (.int .i64 k) ∧ ((((y3).setCell ⟨y2.heap.size, 0, none⟩ (.int .i64 (binA op k n t k' n' t').k)).setCell ⟨y2.heap.size, 1, none⟩ (.int .i64 (binA op k n t k' n' t').n)).setCell ⟨y2.heap.size, 2, none⟩ (.string ⟨#[]⟩)).cell? ⟨w.heap.size, 1, none⟩ = some (.int .i64 n) ∧ ((((y3).setCell ⟨y2.heap.size, 0, none⟩ (.int .i64 (binA op k n t k' n' t').k)).setCell ⟨y2.heap.size, 1, none⟩ (.int .i64 (binA op k n t k' n' t').n)).setCell ⟨y2.heap.size, 2, none⟩ (.string ⟨#[]⟩)).cell? ⟨w.heap.size, 2, none⟩ = some (.string t) ∧ ((((y3).setCell ⟨y2.heap.size, 0, none⟩ (.int .i64 (binA op k n t k' n' t').k)).setCell ⟨y2.heap.size, 1, none⟩ (.int .i64 (binA op k n t k' n' t').n)).setCell ⟨y2.heap.size, 2, none⟩ (.string ⟨#[]⟩)).cell? ⟨(w.heap.size + 1), 0, none⟩ = some (.int .i64 k') ∧ ((((y3).setCell ⟨y2.heap.size, 0, none⟩ (.int .i64 (binA op k n t k' n' t').k)).setCell ⟨y2.heap.size, 1, none⟩ (.int .i64 (binA op k n t k' n' t').n)).setCell ⟨y2.heap.size, 2, none⟩ (.string ⟨#[]⟩)).cell? ⟨(w.heap.size + 1), 1, none⟩ = some (.int .i64 n') ∧ ((((y3).setCell ⟨y2.heap.size, 0, none⟩ (.int .i64 (binA op k n t k' n' t').k)).setCell ⟨y2.heap.size, 1, none⟩ (.int .i64 (binA op k n t k' n' t').n)).setCell ⟨y2.heap.size, 2, none⟩ (.string ⟨#[]⟩)).cell? ⟨(w.heap.size + 1), 2, none⟩ = some (.string t')) := ⟨(put3_cell _ _ _ _ _ _ _ (by omega)).trans q0_3, (put3_cell _ _ _ _ _ _ _ (by omega)).trans q1_3, (put3_cell _ _ _ _ _ _ _ (by omega)).trans q2_3, (put3_cell _ _ _ _ _ _ _ (by omega)).trans p0_3, (put3_cell _ _ _ _ _ _ _ (by omega)).trans p1_3, (put3_cell _ _ _ _ _ _ _ (by omega)).trans p2_3⟩
                       have lB := ZB3_2.lt
                       obtain ⟨zc0, zc1, zc2⟩ := box3 ZB3_2
                       have zt0 := ZB3_2.thaw 0
                       have zt1 := ZB3_2.thaw 1
                       have zt2 := ZB3_2.thaw 2
                       skip)
                    | skip))
      all_goals (clear Kc1 Ka1 Kc2 Ka2 Kc3 Ka3 Kb3 Kd0 Ke0 Kf0 q0_1 q1_1 q2_1 p0_1 p1_1 p2_1 q0_2 q1_2 q2_2 p0_2 p1_2 p2_2 q0_3 q1_3 q2_3 p0_3 p1_3 p2_3)
      all_goals (clear q0 q1 q2 p0 p1 p2)
      all_goals (go_wp2_with fail; go_meet)
      all_goals first
        | with_reducible exact cutV_new H3
        | with_reducible exact cutV_put H3 ZB3_0 (by omega)
        | with_reducible exact cutV_put H3 ZB3_1 (by omega)
        | with_reducible exact cutV_put H3 ZB3_2 (by omega)
    case rest =>
      rename World => w4
      obtain ⟨ga, rfl, rfl, hb, hga, gbx⟩ := hcut
      have HH4 : Hid (Boxes w k n t k' n' t' w4) := HH3.out.later hb
      have WB4 : Hid (Box w4 gb 25 #[.int .i64 (binA op k n t k' n' t').k, .int .i64 (binA op k n t k' n' t').n, .string ⟨#[]⟩]) := WB3.out.belowS hb
      have GB4 : Hid (Box w4 ga 25 #[.int .i64 (binA op k n t k' n' t').k, .int .i64 (binA op k n t k' n' t').n, .string ⟨#[]⟩]) := gbx
      clear q0 q1 q2 p0 p1 p2 hb hga gbx HH3 WB3
      have nc : ((binA op k n t k' n' t').c != (binA op k n t k' n' t').c) = false := by simp
      obtain ⟨q0, q1, q2⟩ := box3 WB4.out
      obtain ⟨p0, p1, p2⟩ := box3 GB4.out
      go_wp2_with fail
      refine (c_eqVal _ _ _).mono ?_
      rintro e w5 ⟨rfl, hb⟩
      have HH5 : Hid (Boxes w k n t k' n' t' w5) := HH4.out.later hb
      clear q0 q1 q2 p0 p1 p2 hb WB4 GB4 HH4
      go_wp2
      go_ret
      exact ⟨rfl, HH5.out.below⟩

end Go.Proofs.Ytkfkhfagehcmiaa
