/-
  Rows compared and sized.
-/
import Derived.Test.YtiobobocjokgiaaXr
import Derived.Deep.RegionHeld3
namespace Go.Proofs.Ytiobobocjokgiaa
open Go Go.RowKit
attribute [local go_sem ↓] Go.wp_at_zero Go.wp_at_succ

set_option maxRecDepth 100000 in
set_option maxHeartbeats 4000000 in
theorem c_eqRow (i : Int) (u v : VV) (w : World) : Calls Try.prog 25 #[.agg #[.int .i64 i, .int .i64 u.1, .int .i64 u.2.1, .string u.2.2, .int .i64 v.1, .int .i64 v.2.1, .string v.2.2], .agg #[.int .i64 i, .int .i64 u.1, .int .i64 u.2.1, .string u.2.2, .int .i64 v.1, .int .i64 v.2.1, .string v.2.2]] w fun e w' => e = .returned (.bool true) ∧ Below w.heap.size w w' := by
  have e1 : (i != i) = false := by simp
  obtain ⟨V, hV⟩ : ∃ V, (w.alloc (.cells #[.int .i64 i, .int .i64 u.1, .int .i64 u.2.1, .string u.2.2, .int .i64 v.1, .int .i64 v.2.1, .string v.2.2] 40)).alloc (.cells #[.int .i64 i, .int .i64 u.1, .int .i64 u.2.1, .string u.2.2, .int .i64 v.1, .int .i64 v.2.1, .string v.2.2] 40) = V := ⟨_, rfl⟩
  have BV : Hid (Below w.heap.size w V) := by unfold Hid; rw [← hV]; exact ((Below.refl _ _).alloc (Nat.le_refl _) _).alloc (by simp) _
  have X : Hid (Box V w.heap.size 40 #[.int .i64 i, .int .i64 u.1, .int .i64 u.2.1, .string u.2.2, .int .i64 v.1, .int .i64 v.2.1, .string v.2.2]) := by unfold Hid; rw [← hV]; exact (Box.new _ _ _).alloc _
  have Y : Hid (Box V (w.heap.size + 1) 40 #[.int .i64 i, .int .i64 u.1, .int .i64 u.2.1, .string u.2.2, .int .i64 v.1, .int .i64 v.2.1, .string v.2.2]) := by unfold Hid; rw [← hV]; exact Box.new2 _ _ _ _
  obtain ⟨x0, x1, x2, x3, x4, x5, x6⟩ := box7 X.out
  obtain ⟨y0, y1, y2, y3, y4, y5, y6⟩ := box7 Y.out
  go_enter Try.func25, Try.ntmps25
  go_wp2_with fail
  refine (c_eqV1 u.1 u.2.1 u.2.2 _).mono ?_
  rintro e' w1 ⟨rfl, hb⟩
  have B1 : Hid (Below w.heap.size w w1) := BV.out.trans (hb.mono BV.out.size)
  have X1 : Hid (Box w1 w.heap.size 40 #[.int .i64 i, .int .i64 u.1, .int .i64 u.2.1, .string u.2.2, .int .i64 v.1, .int .i64 v.2.1, .string v.2.2]) := X.out.belowS hb
  have Y1 : Hid (Box w1 (w.heap.size + 1) 40 #[.int .i64 i, .int .i64 u.1, .int .i64 u.2.1, .string u.2.2, .int .i64 v.1, .int .i64 v.2.1, .string v.2.2]) := Y.out.belowS hb
  clear hb hV x0 x1 x2 x3 x4 x5 x6 y0 y1 y2 y3 y4 y5 y6 BV X Y
  obtain ⟨x0, x1, x2, x3, x4, x5, x6⟩ := box7 X1.out
  obtain ⟨y0, y1, y2, y3, y4, y5, y6⟩ := box7 Y1.out
  go_wp2_with fail
  refine (c_eqV1 v.1 v.2.1 v.2.2 _).mono ?_
  rintro e' w2 ⟨rfl, hb⟩
  have B2 : Hid (Below w.heap.size w w2) := B1.out.trans (hb.mono B1.out.size)
  clear hb x0 x1 x2 x3 x4 x5 x6 y0 y1 y2 y3 y4 y5 y6 B1 X1 Y1
  go_wp2
  go_ret
  exact ⟨rfl, B2.out⟩
set_option maxRecDepth 100000 in
set_option maxHeartbeats 4000000 in
theorem c_szRowL (i : Int) (u v : VV) (left : Int) (w : World) (h1 : u.2.2.size ≤ maxLen) (h2 : v.2.2.size ≤ maxLen) (h3 : 0 ≤ left) (h4 : left ≤ 1048576) :
    Calls Try.prog 30 #[.agg #[.int .i64 i, .int .i64 u.1, .int .i64 u.2.1, .string u.2.2, .int .i64 v.1, .int .i64 v.2.1, .string v.2.2], .int .i64 left] w fun e w' => (∃ z : Int, e = .returned (.int .i64 z) ∧ z ≤ left) ∧ Below w.heap.size w w' := by
  obtain ⟨V, hV⟩ : ∃ V, w.alloc (.cells #[.int .i64 i, .int .i64 u.1, .int .i64 u.2.1, .string u.2.2, .int .i64 v.1, .int .i64 v.2.1, .string v.2.2] 47) = V := ⟨_, rfl⟩
  have BV : Hid (Below w.heap.size w V) := by unfold Hid; rw [← hV]; exact (Below.refl _ _).alloc (Nat.le_refl _) _
  have X : Hid (Box V w.heap.size 47 #[.int .i64 i, .int .i64 u.1, .int .i64 u.2.1, .string u.2.2, .int .i64 v.1, .int .i64 v.2.1, .string v.2.2]) := by unfold Hid; rw [← hV]; exact Box.new _ _ _
  obtain ⟨x0, x1, x2, x3, x4, x5, x6⟩ := box7 X.out
  have H1 : Hid (u.2.2.size ≤ maxLen) := h1
  have H2 : Hid (v.2.2.size ≤ maxLen) := h2
  clear h1 h2
  go_enter Try.func30, Try.ntmps30
  go_wp2_with fail
  refine (c_sz _ _ _ left _ H1.out (by omega) (by omega)).mono ?_
  rintro e w1 ⟨rfl, hb⟩
  clear hV
  have B1 : Hid (Below w.heap.size w w1) := BV.out.trans (hb.mono BV.out.size)
  have X1 : Hid (Box w1 w.heap.size 47 #[.int .i64 i, .int .i64 u.1, .int .i64 u.2.1, .string u.2.2, .int .i64 v.1, .int .i64 v.2.1, .string v.2.2]) := X.out.belowS hb
  clear hb x0 x1 x2 x3 x4 x5 x6
  obtain ⟨x0, x1, x2, x3, x4, x5, x6⟩ := box7 X1.out
  obtain ⟨s1, hs1⟩ : ∃ s : Nat, u.2.2.size = s := ⟨_, rfl⟩
  rw [hs1]
  by_cases d1 : left - s1 < 0
  · rw [if_pos d1]
    go_wp2
    go_ret
    exact ⟨⟨_, rfl, by omega⟩, B1.out⟩
  rw [if_neg d1]
  go_wp2_with fail
  refine (c_sz _ _ _ (left - (s1 : Int)) _ H2.out (by omega) (by omega)).mono ?_
  rintro e w2 ⟨rfl, hb⟩
  have B2 : Hid (Below w.heap.size w w2) := B1.out.trans (hb.mono B1.out.size)
  clear hb x0 x1 x2 x3 x4 x5 x6
  obtain ⟨s2, hs2⟩ : ∃ s : Nat, v.2.2.size = s := ⟨_, rfl⟩
  rw [hs2]
  by_cases d2 : left - s1 - s2 < 0
  · rw [if_pos d2]
    go_wp2
    go_ret
    exact ⟨⟨_, rfl, by omega⟩, B2.out⟩
  rw [if_neg d2]
  go_wp2
  go_ret
  exact ⟨⟨_, rfl, by omega⟩, B2.out⟩

end Go.Proofs.Ytiobobocjokgiaa
