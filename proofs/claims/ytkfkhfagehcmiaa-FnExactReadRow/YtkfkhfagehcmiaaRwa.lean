/-
  Rows: what is right, and the walks that copy, size and compare them.
-/
import Derived.Test.YtkfkhfagehcmiaaKb
import Derived.Test.YtkfkhfagehcmiaaBx
import Derived.Deep.QuietTactic
import Derived.BigQuiet
namespace Go.Proofs.Ytkfkhfagehcmiaa
open Go Go.RowKit
attribute [local go_sem ↓] Go.wp_at_zero Go.wp_at_succ

theorem inB_iff {x lo hi : Int} : inB x lo hi = true ↔ lo ≤ x ∧ x ≤ hi := by unfold inB; exact decide_eq_true_iff
def rowB (i : Int) (u v : VV) : Bool := inB i 0 1000 && okV u && okV v && !decide (u.1 = 2) && !decide (v.1 = 1)
theorem row_no0 {i : Int} {u v : VV} (h : inB i 0 1000 = false) : rowB i u v = false := by simp [rowB, h]
theorem row_no1 {i : Int} {u v : VV} (h : okV u = false) : rowB i u v = false := by simp [rowB, h]
theorem row_no2 {i : Int} {u v : VV} (h : okV v = false) : rowB i u v = false := by simp [rowB, h]
theorem row_no3 {i : Int} {u v : VV} (h : u.1 = 2) : rowB i u v = false := by simp [rowB, h]
theorem row_no4 {i : Int} {u v : VV} (h : v.1 = 1) : rowB i u v = false := by simp [rowB, h]
theorem row_yes {i : Int} {u v : VV} (h0 : inB i 0 1000 = true) (h1 : okV u = true) (h2 : okV v = true) (h3 : ¬ u.1 = 2) (h4 : ¬ v.1 = 1) : rowB i u v = true := by simp [rowB, h0, h1, h2, h3, h4]
theorem box7 {w : World} {g : Nat} {t : TypeId} {v0 v1 v2 v3 v4 v5 v6 : Value} (h : Box w g t #[v0, v1, v2, v3, v4, v5, v6]) : w.cell? ⟨g, 0, none⟩ = some v0 ∧ w.cell? ⟨g, 1, none⟩ = some v1 ∧ w.cell? ⟨g, 2, none⟩ = some v2 ∧ w.cell? ⟨g, 3, none⟩ = some v3 ∧ w.cell? ⟨g, 4, none⟩ = some v4 ∧ w.cell? ⟨g, 5, none⟩ = some v5 ∧ w.cell? ⟨g, 6, none⟩ = some v6 := ⟨h.cell 0, h.cell 1, h.cell 2, h.cell 3, h.cell 4, h.cell 5, h.cell 6⟩
set_option maxRecDepth 100000 in
set_option maxHeartbeats 4000000 in
theorem c_isRowId (x : Int) (w : World) : Calls Try.prog 86 #[.int .i64 x] w fun e w' => e = .returned (.bool (inB x 0 1000)) ∧ w' = w := by
  by_cases h1 : (0 : Int) ≤ x
  · by_cases h2 : x ≤ 1000
    · go_enter Try.func86, Try.ntmps86
      go_wp2
      go_ret
      exact ⟨ret_bool (by unfold inB; exact (decide_eq_true ⟨h1, h2⟩).symm), rfl⟩
    · go_enter Try.func86, Try.ntmps86
      go_wp2
      go_ret
      exact ⟨ret_bool (by unfold inB; exact (decide_eq_false (by omega)).symm), rfl⟩
  · go_enter Try.func86, Try.ntmps86
    go_wp2
    go_ret
    exact ⟨ret_bool (by unfold inB; exact (decide_eq_false (by omega)).symm), rfl⟩
set_option maxRecDepth 100000 in
set_option maxHeartbeats 4000000 in
theorem c_isTable (x : Int) (w : World) : Calls Try.prog 65 #[.int .i64 x] w fun e w' => e = .returned (.bool (inB x 1 3)) ∧ w' = w := by
  by_cases h1 : (1 : Int) ≤ x
  · by_cases h2 : x ≤ 3
    · go_enter Try.func65, Try.ntmps65
      go_wp2
      go_ret
      exact ⟨ret_bool (by unfold inB; exact (decide_eq_true ⟨h1, h2⟩).symm), rfl⟩
    · go_enter Try.func65, Try.ntmps65
      go_wp2
      go_ret
      exact ⟨ret_bool (by unfold inB; exact (decide_eq_false (by omega)).symm), rfl⟩
  · go_enter Try.func65, Try.ntmps65
    go_wp2
    go_ret
    exact ⟨ret_bool (by unfold inB; exact (decide_eq_false (by omega)).symm), rfl⟩
set_option maxRecDepth 100000 in
set_option maxHeartbeats 4000000 in
theorem c_isRow (i : Int) (u v : VV) (w : World) (h1 : u.2.2.size ≤ maxLen) (h2 : v.2.2.size ≤ maxLen) :
    Calls Try.prog 64 #[.agg #[.int .i64 i, .int .i64 u.1, .int .i64 u.2.1, .string u.2.2, .int .i64 v.1, .int .i64 v.2.1, .string v.2.2]] w fun e w' => e = .returned (.bool (rowB i u v)) ∧ Below w.heap.size w w' := by
  obtain ⟨V, hV⟩ : ∃ V, w.alloc (.cells #[.int .i64 i, .int .i64 u.1, .int .i64 u.2.1, .string u.2.2, .int .i64 v.1, .int .i64 v.2.1, .string v.2.2] 59) = V := ⟨_, rfl⟩
  have BV : Hid (Below w.heap.size w V) := by unfold Hid; rw [← hV]; exact (Below.refl _ _).alloc (Nat.le_refl _) _
  have X : Hid (Box V w.heap.size 59 #[.int .i64 i, .int .i64 u.1, .int .i64 u.2.1, .string u.2.2, .int .i64 v.1, .int .i64 v.2.1, .string v.2.2]) := by unfold Hid; rw [← hV]; exact Box.new _ _ _
  obtain ⟨x0, x1, x2, x3, x4, x5, x6⟩ := box7 X.out
  obtain ⟨p0, g0⟩ : ∃ p, inB i 0 1000 = p := ⟨_, rfl⟩
  obtain ⟨p1, g1⟩ : ∃ p, okV u = p := ⟨_, rfl⟩
  obtain ⟨p2, g2⟩ : ∃ p, okV v = p := ⟨_, rfl⟩
  have C0 : Hid (∀ W : World, Calls Try.prog 86 #[.int .i64 i] W fun e w' => e = .returned (.bool p0) ∧ w' = W) := fun W => by rw [← g0]; exact c_isRowId i W
  have C1 : Hid (∀ W : World, Calls Try.prog 18 #[.agg #[.int .i64 u.1, .int .i64 u.2.1, .string u.2.2]] W fun e w' => e = .returned (.bool p1) ∧ Below W.heap.size W w') := fun W => by rw [← g1]; exact c_implOK _ _ _ W h1
  have C2 : Hid (∀ W : World, Calls Try.prog 18 #[.agg #[.int .i64 v.1, .int .i64 v.2.1, .string v.2.2]] W fun e w' => e = .returned (.bool p2) ∧ Below W.heap.size W w') := fun W => by rw [← g2]; exact c_implOK _ _ _ W h2
  have G0 : Hid (inB i 0 1000 = p0) := g0
  have G1 : Hid (okV u = p1) := g1
  have G2 : Hid (okV v = p2) := g2
  clear g0 g1 g2 h1 h2
  go_enter Try.func64, Try.ntmps64
  go_wp2_with fail
  refine (C0.out _).mono ?_
  rintro e w0 ⟨rfl, hw⟩
  rw [hw]
  clear hw C0 hV
  cases p0
  · go_wp2
    go_ret
    exact ⟨ret_bool (row_no0 G0.out).symm, BV.out⟩
  go_wp2_with fail
  refine (C1.out _).mono ?_
  rintro e W1 ⟨rfl, hb⟩
  have BW1 : Hid (Below w.heap.size w W1) := BV.out.trans (hb.mono BV.out.size)
  have XW1 : Hid (Box W1 w.heap.size 59 #[.int .i64 i, .int .i64 u.1, .int .i64 u.2.1, .string u.2.2, .int .i64 v.1, .int .i64 v.2.1, .string v.2.2]) := X.out.belowS hb
  clear hb x0 x1 x2 x3 x4 x5 x6
  obtain ⟨x0, x1, x2, x3, x4, x5, x6⟩ := box7 XW1.out
  cases p1
  · go_wp2
    go_ret
    exact ⟨ret_bool (row_no1 G1.out).symm, BW1.out⟩
  by_cases k1 : u.1 = 2
  · have e1 : (u.1 == 2) = true := by simpa using k1
    have n1 : (u.1 != 2) = false := by simp [bne, e1]
    have E : Hid (rowB i u v = false) := row_no3 k1
    clear k1
    go_wp2
    go_ret
    exact ⟨ret_bool (by first | exact E.out.symm | (rw [E.out]; simp [bne, e1]; done) | (rw [E.out]; simp [bne, e2]; done) | (rw [E.out]; simp [bne, e1, e2]; done)), BW1.out⟩
  have e1 : (u.1 == 2) = false := by simpa using k1
  have n1 : (u.1 != 2) = true := by simp [bne, e1]
  have K1 : Hid (¬ u.1 = 2) := k1
  clear k1
  go_wp2_with fail
  refine (C2.out _).mono ?_
  rintro e W2 ⟨rfl, hb⟩
  have BW2 : Hid (Below w.heap.size w W2) := BW1.out.trans (hb.mono BW1.out.size)
  have XW2 : Hid (Box W2 w.heap.size 59 #[.int .i64 i, .int .i64 u.1, .int .i64 u.2.1, .string u.2.2, .int .i64 v.1, .int .i64 v.2.1, .string v.2.2]) := XW1.out.belowS hb
  clear hb x0 x1 x2 x3 x4 x5 x6
  obtain ⟨x0, x1, x2, x3, x4, x5, x6⟩ := box7 XW2.out
  cases p2
  · go_wp2
    go_ret
    exact ⟨ret_bool (row_no2 G2.out).symm, BW2.out⟩
  by_cases k2 : v.1 = 1
  · have e2 : (v.1 == 1) = true := by simpa using k2
    have n2 : (v.1 != 1) = false := by simp [bne, e2]
    have E : Hid (rowB i u v = false) := row_no4 k2
    clear k2
    go_wp2
    go_ret
    exact ⟨ret_bool (by first | exact E.out.symm | (rw [E.out]; simp [bne, e1]; done) | (rw [E.out]; simp [bne, e2]; done) | (rw [E.out]; simp [bne, e1, e2]; done)), BW2.out⟩
  have e2 : (v.1 == 1) = false := by simpa using k2
  have n2 : (v.1 != 1) = true := by simp [bne, e2]
  have E : Hid (rowB i u v = true) := row_yes G0.out G1.out G2.out K1.out k2
  clear k2
  go_wp2
  go_ret
  exact ⟨ret_bool (by first | exact E.out.symm | (rw [E.out]; simp [bne, e1]; done) | (rw [E.out]; simp [bne, e2]; done) | (rw [E.out]; simp [bne, e1, e2]; done)), BW2.out⟩
set_option maxRecDepth 100000 in
set_option maxHeartbeats 4000000 in
theorem c_lRow (i : Int) (u v : VV) (w : World) (h1 : u.2.2.size ≤ maxLen) (h2 : v.2.2.size ≤ maxLen) :
    Calls Try.prog 62 #[.agg #[.int .i64 i, .int .i64 u.1, .int .i64 u.2.1, .string u.2.2, .int .i64 v.1, .int .i64 v.2.1, .string v.2.2]] w fun e w' => e = .returned (.bool (rowB i u v)) ∧ Below w.heap.size w w' := by
  obtain ⟨V, hV⟩ : ∃ V, w.alloc (.cells #[.int .i64 i, .int .i64 u.1, .int .i64 u.2.1, .string u.2.2, .int .i64 v.1, .int .i64 v.2.1, .string v.2.2] 59) = V := ⟨_, rfl⟩
  have BV : Hid (Below w.heap.size w V) := by unfold Hid; rw [← hV]; exact (Below.refl _ _).alloc (Nat.le_refl _) _
  have X : Hid (Box V w.heap.size 59 #[.int .i64 i, .int .i64 u.1, .int .i64 u.2.1, .string u.2.2, .int .i64 v.1, .int .i64 v.2.1, .string v.2.2]) := by unfold Hid; rw [← hV]; exact Box.new _ _ _
  obtain ⟨x0, x1, x2, x3, x4, x5, x6⟩ := box7 X.out
  obtain ⟨p0, g0⟩ : ∃ p, inB i 0 1000 = p := ⟨_, rfl⟩
  obtain ⟨p1, g1⟩ : ∃ p, okV u = p := ⟨_, rfl⟩
  obtain ⟨p2, g2⟩ : ∃ p, okV v = p := ⟨_, rfl⟩
  have C0 : Hid (∀ W : World, Calls Try.prog 44 #[.int .i64 i, .int .i64 0, .int .i64 1000] W fun e w' => e = .returned (.bool p0) ∧ w' = W) := fun W => by rw [← g0]; exact c_in i 0 1000 W
  have C1 : Hid (∀ W : World, Calls Try.prog 21 #[.agg #[.int .i64 u.1, .int .i64 u.2.1, .string u.2.2]] W fun e w' => e = .returned (.bool p1) ∧ Below W.heap.size W w') := fun W => by rw [← g1]; exact c_specOK _ _ _ W h1
  have C2 : Hid (∀ W : World, Calls Try.prog 21 #[.agg #[.int .i64 v.1, .int .i64 v.2.1, .string v.2.2]] W fun e w' => e = .returned (.bool p2) ∧ Below W.heap.size W w') := fun W => by rw [← g2]; exact c_specOK _ _ _ W h2
  have G0 : Hid (inB i 0 1000 = p0) := g0
  have G1 : Hid (okV u = p1) := g1
  have G2 : Hid (okV v = p2) := g2
  clear g0 g1 g2 h1 h2
  go_enter Try.func62, Try.ntmps62
  go_wp2_with fail
  refine (C0.out _).mono ?_
  rintro e w0 ⟨rfl, hw⟩
  rw [hw]
  clear hw C0 hV
  cases p0
  · go_wp2
    go_ret
    exact ⟨ret_bool (row_no0 G0.out).symm, BV.out⟩
  go_wp2_with fail
  refine (C1.out _).mono ?_
  rintro e W1 ⟨rfl, hb⟩
  have BW1 : Hid (Below w.heap.size w W1) := BV.out.trans (hb.mono BV.out.size)
  have XW1 : Hid (Box W1 w.heap.size 59 #[.int .i64 i, .int .i64 u.1, .int .i64 u.2.1, .string u.2.2, .int .i64 v.1, .int .i64 v.2.1, .string v.2.2]) := X.out.belowS hb
  clear hb x0 x1 x2 x3 x4 x5 x6
  obtain ⟨x0, x1, x2, x3, x4, x5, x6⟩ := box7 XW1.out
  cases p1
  · go_wp2
    go_ret
    exact ⟨ret_bool (row_no1 G1.out).symm, BW1.out⟩
  go_wp2_with fail
  refine (C2.out _).mono ?_
  rintro e W2 ⟨rfl, hb⟩
  have BW2 : Hid (Below w.heap.size w W2) := BW1.out.trans (hb.mono BW1.out.size)
  have XW2 : Hid (Box W2 w.heap.size 59 #[.int .i64 i, .int .i64 u.1, .int .i64 u.2.1, .string u.2.2, .int .i64 v.1, .int .i64 v.2.1, .string v.2.2]) := XW1.out.belowS hb
  clear hb x0 x1 x2 x3 x4 x5 x6
  obtain ⟨x0, x1, x2, x3, x4, x5, x6⟩ := box7 XW2.out
  cases p2
  · go_wp2
    go_ret
    exact ⟨ret_bool (row_no2 G2.out).symm, BW2.out⟩
  by_cases k1 : u.1 = 2
  · have e1 : (u.1 == 2) = true := by simpa using k1
    have n1 : (u.1 != 2) = false := by simp [bne, e1]
    have E : Hid (rowB i u v = false) := row_no3 k1
    clear k1
    go_wp2
    go_ret
    exact ⟨ret_bool (by first | exact E.out.symm | (rw [E.out]; simp [bne, e1]; done) | (rw [E.out]; simp [bne, e2]; done) | (rw [E.out]; simp [bne, e1, e2]; done)), BW2.out⟩
  have e1 : (u.1 == 2) = false := by simpa using k1
  have n1 : (u.1 != 2) = true := by simp [bne, e1]
  have K1 : Hid (¬ u.1 = 2) := k1
  clear k1
  by_cases k2 : v.1 = 1
  · have e2 : (v.1 == 1) = true := by simpa using k2
    have n2 : (v.1 != 1) = false := by simp [bne, e2]
    have E : Hid (rowB i u v = false) := row_no4 k2
    clear k2
    go_wp2
    go_ret
    exact ⟨ret_bool (by first | exact E.out.symm | (rw [E.out]; simp [bne, e1]; done) | (rw [E.out]; simp [bne, e2]; done) | (rw [E.out]; simp [bne, e1, e2]; done)), BW2.out⟩
  have e2 : (v.1 == 1) = false := by simpa using k2
  have n2 : (v.1 != 1) = true := by simp [bne, e2]
  have E : Hid (rowB i u v = true) := row_yes G0.out G1.out G2.out K1.out k2
  clear k2
  go_wp2
  go_ret
  exact ⟨ret_bool (by first | exact E.out.symm | (rw [E.out]; simp [bne, e1]; done) | (rw [E.out]; simp [bne, e2]; done) | (rw [E.out]; simp [bne, e1, e2]; done)), BW2.out⟩
set_option maxRecDepth 100000 in
set_option maxHeartbeats 4000000 in
theorem c_szRow (i : Int) (u v : VV) (w : World) (h1 : u.2.2.size ≤ maxLen) (h2 : v.2.2.size ≤ maxLen) :
    Calls Try.prog 37 #[.agg #[.int .i64 i, .int .i64 u.1, .int .i64 u.2.1, .string u.2.2, .int .i64 v.1, .int .i64 v.2.1, .string v.2.2], .int .i64 1048576] w fun e w' => (∃ r : Int, e = .returned (.int .i64 r) ∧ (0 ≤ r → u.2.2.size ≤ 1048576 ∧ v.2.2.size ≤ 1048576)) ∧ Below w.heap.size w w' := by
  obtain ⟨V, hV⟩ : ∃ V, w.alloc (.cells #[.int .i64 i, .int .i64 u.1, .int .i64 u.2.1, .string u.2.2, .int .i64 v.1, .int .i64 v.2.1, .string v.2.2] 55) = V := ⟨_, rfl⟩
  have BV : Hid (Below w.heap.size w V) := by unfold Hid; rw [← hV]; exact (Below.refl _ _).alloc (Nat.le_refl _) _
  have X : Hid (Box V w.heap.size 55 #[.int .i64 i, .int .i64 u.1, .int .i64 u.2.1, .string u.2.2, .int .i64 v.1, .int .i64 v.2.1, .string v.2.2]) := by unfold Hid; rw [← hV]; exact Box.new _ _ _
  obtain ⟨x0, x1, x2, x3, x4, x5, x6⟩ := box7 X.out
  have H1 : Hid (u.2.2.size ≤ maxLen) := h1
  have H2 : Hid (v.2.2.size ≤ maxLen) := h2
  clear h1 h2
  go_enter Try.func37, Try.ntmps37
  go_wp2_with fail
  refine (c_sz _ _ _ 1048576 _ H1.out (by omega) (by omega)).mono ?_
  rintro e w1 ⟨rfl, hb⟩
  clear hV
  have B1 : Hid (Below w.heap.size w w1) := BV.out.trans (hb.mono BV.out.size)
  have X1 : Hid (Box w1 w.heap.size 55 #[.int .i64 i, .int .i64 u.1, .int .i64 u.2.1, .string u.2.2, .int .i64 v.1, .int .i64 v.2.1, .string v.2.2]) := X.out.belowS hb
  clear hb x0 x1 x2 x3 x4 x5 x6
  obtain ⟨x0, x1, x2, x3, x4, x5, x6⟩ := box7 X1.out
  obtain ⟨s1, hs1⟩ : ∃ s : Nat, u.2.2.size = s := ⟨_, rfl⟩
  rw [hs1]
  by_cases d1 : (1048576 : Int) - s1 < 0
  · rw [if_pos d1]
    go_wp2
    go_ret
    exact ⟨⟨_, rfl, fun h => by omega⟩, B1.out⟩
  rw [if_neg d1]
  go_wp2_with fail
  refine (c_sz _ _ _ (1048576 - (s1 : Int)) _ H2.out (by omega) (by omega)).mono ?_
  rintro e w2 ⟨rfl, hb⟩
  have B2 : Hid (Below w.heap.size w w2) := B1.out.trans (hb.mono B1.out.size)
  clear hb x0 x1 x2 x3 x4 x5 x6
  obtain ⟨s2, hs2⟩ : ∃ s : Nat, v.2.2.size = s := ⟨_, rfl⟩
  rw [hs2]
  by_cases d2 : (1048576 : Int) - s1 - s2 < 0
  · rw [if_pos d2]
    go_wp2
    go_ret
    exact ⟨⟨_, rfl, fun h => by omega⟩, B2.out⟩
  rw [if_neg d2]
  go_wp2
  go_ret
  exact ⟨⟨_, rfl, fun _ => ⟨by omega, by omega⟩⟩, B2.out⟩

end Go.Proofs.Ytkfkhfagehcmiaa
