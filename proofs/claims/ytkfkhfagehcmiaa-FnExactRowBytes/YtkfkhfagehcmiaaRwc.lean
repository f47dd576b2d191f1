/-
  Rows that are copied.
-/
import Derived.Test.YtkfkhfagehcmiaaRwb
import Derived.Deep.QuietTactic
import Derived.BigQuiet
namespace Go.Proofs.Ytkfkhfagehcmiaa
open Go Go.RowKit
attribute [local go_sem ↓] Go.wp_at_zero Go.wp_at_succ

set_option maxRecDepth 100000 in
set_option maxHeartbeats 4000000 in
theorem c_toRow (i : Int) (u v : VV) (w : World) :
    Calls Try.prog 39 #[.agg #[.int .i64 i, .int .i64 u.1, .int .i64 u.2.1, .string u.2.2, .int .i64 v.1, .int .i64 v.2.1, .string v.2.2]] w fun e w' => e = .returned (.agg #[.int .i64 i, .int .i64 u.1, .int .i64 u.2.1, .string u.2.2, .int .i64 v.1, .int .i64 v.2.1, .string v.2.2]) ∧ Below w.heap.size w w' := by
  obtain ⟨V0, hV0⟩ : ∃ V, w.alloc (.cells #[.int .i64 i, .int .i64 u.1, .int .i64 u.2.1, .string u.2.2, .int .i64 v.1, .int .i64 v.2.1, .string v.2.2] 55) = V := ⟨_, rfl⟩
  obtain ⟨V1, hV1⟩ : ∃ V, V0.alloc (.cells #[.int .i64 0, .int .i64 0, .int .i64 0, .string ⟨#[]⟩, .int .i64 0, .int .i64 0, .string ⟨#[]⟩] 59) = V := ⟨_, rfl⟩
  obtain ⟨V, hV⟩ : ∃ V, V1.alloc (.cells #[.int .i64 0, .int .i64 0, .int .i64 0, .string ⟨#[]⟩, .int .i64 0, .int .i64 0, .string ⟨#[]⟩] 59) = V := ⟨_, rfl⟩
  have hb0 : Below w.heap.size w V0 := by rw [← hV0]; exact (Below.refl _ _).alloc (Nat.le_refl _) _
  have hb1 : Below V0.heap.size V0 V1 := by rw [← hV1]; exact (Below.refl _ _).alloc (Nat.le_refl _) _
  have hb2 : Below V1.heap.size V1 V := by rw [← hV]; exact (Below.refl _ _).alloc (Nat.le_refl _) _
  have X : Hid (Box V w.heap.size 55 #[.int .i64 i, .int .i64 u.1, .int .i64 u.2.1, .string u.2.2, .int .i64 v.1, .int .i64 v.2.1, .string v.2.2]) := ((show Box V0 w.heap.size 55 #[.int .i64 i, .int .i64 u.1, .int .i64 u.2.1, .string u.2.2, .int .i64 v.1, .int .i64 v.2.1, .string v.2.2] by rw [← hV0]; exact Box.new _ _ _).belowS hb1).belowS hb2
  have Y : Hid (Box V V0.heap.size 59 #[.int .i64 0, .int .i64 0, .int .i64 0, .string ⟨#[]⟩, .int .i64 0, .int .i64 0, .string ⟨#[]⟩]) := (show Box V1 V0.heap.size 59 #[.int .i64 0, .int .i64 0, .int .i64 0, .string ⟨#[]⟩, .int .i64 0, .int .i64 0, .string ⟨#[]⟩] by rw [← hV1]; exact Box.new _ _ _).belowS hb2
  have Z : Hid (Box V V1.heap.size 59 #[.int .i64 0, .int .i64 0, .int .i64 0, .string ⟨#[]⟩, .int .i64 0, .int .i64 0, .string ⟨#[]⟩]) := by unfold Hid; rw [← hV]; exact Box.new _ _ _
  have BV : Hid (Below w.heap.size w V) := hb0.trans ((hb1.trans (hb2.mono hb1.size)).mono hb0.size)
  have l0 : w.heap.size < V0.heap.size := by rw [← hV0]; simp
  have l1 : V0.heap.size < V1.heap.size := by rw [← hV1]; simp
  obtain ⟨x0, x1, x2, x3, x4, x5, x6⟩ := box7 X.out
  obtain ⟨z0, z1, z2, z3, z4, z5, z6⟩ := box7 Z.out
  obtain ⟨t0, t1, t2, t3, t4, t5, t6⟩ := thaw7 Z.out
  clear hb0 hb1 hb2
  go_enter Try.func39, Try.ntmps39
  go_wp2_with fail
  have X1 : Hid (Box (V.setCell ⟨V1.heap.size, 0, none⟩ (.int .i64 i)) w.heap.size 55 #[.int .i64 i, .int .i64 u.1, .int .i64 u.2.1, .string u.2.2, .int .i64 v.1, .int .i64 v.2.1, .string v.2.2]) := X.out.setOther _ _ (by simp; omega)
  have Y1 : Hid (Box (V.setCell ⟨V1.heap.size, 0, none⟩ (.int .i64 i)) V0.heap.size 59 #[.int .i64 0, .int .i64 0, .int .i64 0, .string ⟨#[]⟩, .int .i64 0, .int .i64 0, .string ⟨#[]⟩]) := Y.out.setOther _ _ (by simp; omega)
  have Z1 : Hid (Box (V.setCell ⟨V1.heap.size, 0, none⟩ (.int .i64 i)) V1.heap.size 59 #[.int .i64 i, .int .i64 0, .int .i64 0, .string ⟨#[]⟩, .int .i64 0, .int .i64 0, .string ⟨#[]⟩]) := Z.out.set 0 _
  have B1 : Hid (Below w.heap.size w (V.setCell ⟨V1.heap.size, 0, none⟩ (.int .i64 i))) := BV.out.setCell (by simp; omega) _
  refine (c_to _ _ _ _).mono ?_
  rintro e w1 ⟨rfl, hb⟩
  have X2 : Hid (Box w1 w.heap.size 55 #[.int .i64 i, .int .i64 u.1, .int .i64 u.2.1, .string u.2.2, .int .i64 v.1, .int .i64 v.2.1, .string v.2.2]) := X1.out.belowS hb
  have Y2 : Hid (Box w1 V0.heap.size 59 #[.int .i64 0, .int .i64 0, .int .i64 0, .string ⟨#[]⟩, .int .i64 0, .int .i64 0, .string ⟨#[]⟩]) := Y1.out.belowS hb
  have Z2 : Hid (Box w1 V1.heap.size 59 #[.int .i64 i, .int .i64 0, .int .i64 0, .string ⟨#[]⟩, .int .i64 0, .int .i64 0, .string ⟨#[]⟩]) := Z1.out.belowS hb
  have B2 : Hid (Below w.heap.size w w1) := B1.out.trans (hb.mono B1.out.size)
  clear hb X Y Z BV X1 Y1 Z1 B1 hV hV0 hV1 x0 x1 x2 x3 x4 x5 x6 z0 z1 z2 z3 z4 z5 z6 t0 t1 t2 t3 t4 t5 t6
  obtain ⟨x0, x1, x2, x3, x4, x5, x6⟩ := box7 X2.out
  obtain ⟨z0, z1, z2, z3, z4, z5, z6⟩ := box7 Z2.out
  obtain ⟨t0, t1, t2, t3, t4, t5, t6⟩ := thaw7 Z2.out
  obtain ⟨wa, hwa⟩ : ∃ Q, ((w1.setCell ⟨V1.heap.size, 1, none⟩ (.int .i64 u.1)).setCell ⟨V1.heap.size, 2, none⟩ (.int .i64 u.2.1)).setCell ⟨V1.heap.size, 3, none⟩ (.string u.2.2) = Q := ⟨_, rfl⟩
  have X3 : Hid (Box wa w.heap.size 55 #[.int .i64 i, .int .i64 u.1, .int .i64 u.2.1, .string u.2.2, .int .i64 v.1, .int .i64 v.2.1, .string v.2.2]) := by unfold Hid; rw [← hwa]; exact ((X2.out.setOther _ _ (by simp; omega)).setOther _ _ (by simp; omega)).setOther _ _ (by simp; omega)
  have Y3 : Hid (Box wa V0.heap.size 59 #[.int .i64 0, .int .i64 0, .int .i64 0, .string ⟨#[]⟩, .int .i64 0, .int .i64 0, .string ⟨#[]⟩]) := by unfold Hid; rw [← hwa]; exact ((Y2.out.setOther _ _ (by simp; omega)).setOther _ _ (by simp; omega)).setOther _ _ (by simp; omega)
  have Z3 : Hid (Box wa V1.heap.size 59 #[.int .i64 i, .int .i64 u.1, .int .i64 u.2.1, .string u.2.2, .int .i64 0, .int .i64 0, .string ⟨#[]⟩]) := by unfold Hid; rw [← hwa]; exact ((Z2.out.set 1 _).set 2 _).set 3 _
  have B3 : Hid (Below w.heap.size w wa) := by unfold Hid; rw [← hwa]; exact ((B2.out.setCell (by simp; omega) _).setCell (by simp; omega) _).setCell (by simp; omega) _
  have x0' := X3.out.cell 0
  have x4' : wa.cell? ⟨w.heap.size, 4, none⟩ = some (.int .i64 v.1) := X3.out.cell 4
  have x5' : wa.cell? ⟨w.heap.size, 5, none⟩ = some (.int .i64 v.2.1) := X3.out.cell 5
  have x6' : wa.cell? ⟨w.heap.size, 6, none⟩ = some (.string v.2.2) := X3.out.cell 6
  go_wp2_with fail
  refine (c_to _ _ _ _).mono ?_
  rintro e w2 ⟨rfl, hb⟩
  have Y4 : Hid (Box w2 V0.heap.size 59 #[.int .i64 0, .int .i64 0, .int .i64 0, .string ⟨#[]⟩, .int .i64 0, .int .i64 0, .string ⟨#[]⟩]) := Y3.out.belowS hb
  have Z4 : Hid (Box w2 V1.heap.size 59 #[.int .i64 i, .int .i64 u.1, .int .i64 u.2.1, .string u.2.2, .int .i64 0, .int .i64 0, .string ⟨#[]⟩]) := Z3.out.belowS hb
  have B4 : Hid (Below w.heap.size w w2) := B3.out.trans (hb.mono B3.out.size)
  clear hb X2 Y2 Z2 B2 X3 Y3 Z3 B3 hwa x0' x4' x5' x6' x0 x1 x2 x3 x4 x5 x6 z0 z1 z2 z3 z4 z5 z6 t0 t1 t2 t3 t4 t5 t6
  obtain ⟨z0, z1, z2, z3, z4, z5, z6⟩ := box7 Z4.out
  obtain ⟨t0, t1, t2, t3, t4, t5, t6⟩ := thaw7 Z4.out
  obtain ⟨wb, hwb⟩ : ∃ Q, ((w2.setCell ⟨V1.heap.size, 4, none⟩ (.int .i64 v.1)).setCell ⟨V1.heap.size, 5, none⟩ (.int .i64 v.2.1)).setCell ⟨V1.heap.size, 6, none⟩ (.string v.2.2) = Q := ⟨_, rfl⟩
  have Y5 : Hid (Box wb V0.heap.size 59 #[.int .i64 0, .int .i64 0, .int .i64 0, .string ⟨#[]⟩, .int .i64 0, .int .i64 0, .string ⟨#[]⟩]) := by unfold Hid; rw [← hwb]; exact ((Y4.out.setOther _ _ (by simp; omega)).setOther _ _ (by simp; omega)).setOther _ _ (by simp; omega)
  have Z5 : Hid (Box wb V1.heap.size 59 #[.int .i64 i, .int .i64 u.1, .int .i64 u.2.1, .string u.2.2, .int .i64 v.1, .int .i64 v.2.1, .string v.2.2]) := by unfold Hid; rw [← hwb]; exact ((Z4.out.set 4 _).set 5 _).set 6 _
  have B5 : Hid (Below w.heap.size w wb) := by unfold Hid; rw [← hwb]; exact ((B4.out.setCell (by simp; omega) _).setCell (by simp; omega) _).setCell (by simp; omega) _
  obtain ⟨a0, a1, a2, a3, a4, a5, a6⟩ := box7 Z5.out
  obtain ⟨y0, y1, y2, y3, y4, y5, y6⟩ := box7 Y5.out
  obtain ⟨s0, s1, s2, s3, s4, s5, s6⟩ := thaw7 Y5.out
  go_wp2
  have Y6 : Box ((((((((wb).setCell ⟨V0.heap.size, 0, none⟩ (.int .i64 i)).setCell ⟨V0.heap.size, 1, none⟩ (.int .i64 u.1)).setCell ⟨V0.heap.size, 2, none⟩ (.int .i64 u.2.1)).setCell ⟨V0.heap.size, 3, none⟩ (.string u.2.2)).setCell ⟨V0.heap.size, 4, none⟩ (.int .i64 v.1)).setCell ⟨V0.heap.size, 5, none⟩ (.int .i64 v.2.1)).setCell ⟨V0.heap.size, 6, none⟩ (.string v.2.2)) V0.heap.size 59 #[.int .i64 i, .int .i64 u.1, .int .i64 u.2.1, .string u.2.2, .int .i64 v.1, .int .i64 v.2.1, .string v.2.2] := ((((((Y5.out.set 0 _).set 1 _).set 2 _).set 3 _).set 4 _).set 5 _).set 6 _
  obtain ⟨b0, b1, b2, b3, b4, b5, b6⟩ := box7 Y6
  refine bodyPost_ret (v := .agg #[.int .i64 i, .int .i64 u.1, .int .i64 u.2.1, .string u.2.2, .int .i64 v.1, .int .i64 v.2.1, .string v.2.2]) (by simp [results, Try.results39, go_sem, b0, b1, b2, b3, b4, b5, b6]) rfl ⟨rfl, ?_⟩
  exact ((((((B5.out.setCell (by simp; omega) _).setCell (by simp; omega) _).setCell (by simp; omega) _).setCell (by simp; omega) _).setCell (by simp; omega) _).setCell (by simp; omega) _).setCell (by simp; omega) _

end Go.Proofs.Ytkfkhfagehcmiaa
