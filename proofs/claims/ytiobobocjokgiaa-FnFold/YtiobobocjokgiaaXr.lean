/-
  Rows: what is right, sizes, copies.
-/
import Derived.Test.YtiobobocjokgiaaXb

import Derived.Deep.QuietTactic
import Derived.BigQuiet
namespace Go.Proofs.Ytiobobocjokgiaa
open Go Go.RowKit
attribute [local go_sem ↓] Go.wp_at_zero Go.wp_at_succ
abbrev VV := Int × Int × ByteArray
def okV (v : VV) : Bool := valB v.1 v.2.1 v.2.2
theorem inB_iff {x lo hi : Int} : inB x lo hi = true ↔ lo ≤ x ∧ x ≤ hi := by unfold inB; exact decide_eq_true_iff
def rowB (i : Int) (u v : VV) : Bool := inB i 0 1000 && okV u && okV v && !decide (u.1 = 2) && !decide (v.1 = 1)
theorem row_no0 {i : Int} {u v : VV} (h : inB i 0 1000 = false) : rowB i u v = false := by simp [rowB, h]
theorem row_no1 {i : Int} {u v : VV} (h : okV u = false) : rowB i u v = false := by simp [rowB, h]
theorem row_no2 {i : Int} {u v : VV} (h : okV v = false) : rowB i u v = false := by simp [rowB, h]
theorem row_no3 {i : Int} {u v : VV} (h : u.1 = 2) : rowB i u v = false := by simp [rowB, h]
theorem row_no4 {i : Int} {u v : VV} (h : v.1 = 1) : rowB i u v = false := by simp [rowB, h]
theorem row_yes {i : Int} {u v : VV} (h0 : inB i 0 1000 = true) (h1 : okV u = true) (h2 : okV v = true) (h3 : ¬ u.1 = 2) (h4 : ¬ v.1 = 1) : rowB i u v = true := by simp [rowB, h0, h1, h2, h3, h4]
set_option maxRecDepth 100000 in
set_option maxHeartbeats 4000000 in
theorem c_isRowId (x : Int) (w : World) : Calls Try.prog 57 #[.int .i64 x] w fun e w' => e = .returned (.bool (inB x 0 1000)) ∧ w' = w := by
  by_cases h1 : (0 : Int) ≤ x
  · by_cases h2 : x ≤ 1000
    · go_enter Try.func57, Try.ntmps57
      go_wp2
      go_ret
      exact ⟨ret_bool (by unfold inB; exact (decide_eq_true ⟨h1, h2⟩).symm), rfl⟩
    · go_enter Try.func57, Try.ntmps57
      go_wp2
      go_ret
      exact ⟨ret_bool (by unfold inB; exact (decide_eq_false (by omega)).symm), rfl⟩
  · go_enter Try.func57, Try.ntmps57
    go_wp2
    go_ret
    exact ⟨ret_bool (by unfold inB; exact (decide_eq_false (by omega)).symm), rfl⟩
set_option maxRecDepth 100000 in
set_option maxHeartbeats 4000000 in
theorem c_isRow (i : Int) (u v : VV) (w : World) (h1 : u.2.2.size ≤ maxLen) (h2 : v.2.2.size ≤ maxLen) :
    Calls Try.prog 50 #[.agg #[.int .i64 i, .int .i64 u.1, .int .i64 u.2.1, .string u.2.2, .int .i64 v.1, .int .i64 v.2.1, .string v.2.2]] w fun e w' => e = .returned (.bool (rowB i u v)) ∧ Below w.heap.size w w' := by
  obtain ⟨V, hV⟩ : ∃ V, w.alloc (.cells #[.int .i64 i, .int .i64 u.1, .int .i64 u.2.1, .string u.2.2, .int .i64 v.1, .int .i64 v.2.1, .string v.2.2] 40) = V := ⟨_, rfl⟩
  have BV : Hid (Below w.heap.size w V) := by unfold Hid; rw [← hV]; exact (Below.refl _ _).alloc (Nat.le_refl _) _
  have X : Hid (Box V w.heap.size 40 #[.int .i64 i, .int .i64 u.1, .int .i64 u.2.1, .string u.2.2, .int .i64 v.1, .int .i64 v.2.1, .string v.2.2]) := by unfold Hid; rw [← hV]; exact Box.new _ _ _
  obtain ⟨x0, x1, x2, x3, x4, x5, x6⟩ := box7 X.out
  obtain ⟨p0, g0⟩ : ∃ p, inB i 0 1000 = p := ⟨_, rfl⟩
  obtain ⟨p1, g1⟩ : ∃ p, okV u = p := ⟨_, rfl⟩
  obtain ⟨p2, g2⟩ : ∃ p, okV v = p := ⟨_, rfl⟩
  have C0 : Hid (∀ W : World, Calls Try.prog 57 #[.int .i64 i] W fun e w' => e = .returned (.bool p0) ∧ w' = W) := fun W => by rw [← g0]; exact c_isRowId i W
  have C1 : Hid (∀ W : World, Calls Try.prog 58 #[.agg #[.int .i64 u.1, .int .i64 u.2.1, .string u.2.2]] W fun e w' => e = .returned (.bool p1) ∧ Below W.heap.size W w') := fun W => by rw [← g1]; exact c_implOK _ _ _ W h1
  have C2 : Hid (∀ W : World, Calls Try.prog 58 #[.agg #[.int .i64 v.1, .int .i64 v.2.1, .string v.2.2]] W fun e w' => e = .returned (.bool p2) ∧ Below W.heap.size W w') := fun W => by rw [← g2]; exact c_implOK _ _ _ W h2
  have G0 : Hid (inB i 0 1000 = p0) := g0
  have G1 : Hid (okV u = p1) := g1
  have G2 : Hid (okV v = p2) := g2
  clear g0 g1 g2 h1 h2
  go_enter Try.func50, Try.ntmps50
  go_wp2_with fail
  refine (C0.out _).mono ?_
  rintro e w0 ⟨rfl, hw⟩
  rw [hw]
  clear hw C0 hV
  cases p0
  · go_wp2
    go_ret
    exact ⟨ret_bool (row_no0 G0.out).symm, BV.out⟩
  go_wp2_with fail
  refine (C1.out _).mono ?_
  rintro e W1 ⟨rfl, hb⟩
  have BW1 : Hid (Below w.heap.size w W1) := BV.out.trans (hb.mono BV.out.size)
  have XW1 : Hid (Box W1 w.heap.size 40 #[.int .i64 i, .int .i64 u.1, .int .i64 u.2.1, .string u.2.2, .int .i64 v.1, .int .i64 v.2.1, .string v.2.2]) := X.out.belowS hb
  clear hb x0 x1 x2 x3 x4 x5 x6
  obtain ⟨x0, x1, x2, x3, x4, x5, x6⟩ := box7 XW1.out
  cases p1
  · go_wp2
    go_ret
    exact ⟨ret_bool (row_no1 G1.out).symm, BW1.out⟩
  by_cases k1 : u.1 = 2
  · have e1 : (u.1 == 2) = true := by simpa using k1
    have n1 : (u.1 != 2) = false := by simp [bne, e1]
    have E : Hid (rowB i u v = false) := row_no3 k1
    clear k1
    go_wp2
    go_ret
    exact ⟨ret_bool (by first | exact E.out.symm | (rw [E.out]; simp [bne, e1]; done) | (rw [E.out]; simp [bne, e2]; done) | (rw [E.out]; simp [bne, e1, e2]; done)), BW1.out⟩
  have e1 : (u.1 == 2) = false := by simpa using k1
  have n1 : (u.1 != 2) = true := by simp [bne, e1]
  have K1 : Hid (¬ u.1 = 2) := k1
  clear k1
  go_wp2_with fail
  refine (C2.out _).mono ?_
  rintro e W2 ⟨rfl, hb⟩
  have BW2 : Hid (Below w.heap.size w W2) := BW1.out.trans (hb.mono BW1.out.size)
  have XW2 : Hid (Box W2 w.heap.size 40 #[.int .i64 i, .int .i64 u.1, .int .i64 u.2.1, .string u.2.2, .int .i64 v.1, .int .i64 v.2.1, .string v.2.2]) := XW1.out.belowS hb
  clear hb x0 x1 x2 x3 x4 x5 x6
  obtain ⟨x0, x1, x2, x3, x4, x5, x6⟩ := box7 XW2.out
  cases p2
  · go_wp2
    go_ret
    exact ⟨ret_bool (row_no2 G2.out).symm, BW2.out⟩
  by_cases k2 : v.1 = 1
  · have e2 : (v.1 == 1) = true := by simpa using k2
    have n2 : (v.1 != 1) = false := by simp [bne, e2]
    have E : Hid (rowB i u v = false) := row_no4 k2
    clear k2
    go_wp2
    go_ret
    exact ⟨ret_bool (by first | exact E.out.symm | (rw [E.out]; simp [bne, e1]; done) | (rw [E.out]; simp [bne, e2]; done) | (rw [E.out]; simp [bne, e1, e2]; done)), BW2.out⟩
  have e2 : (v.1 == 1) = false := by simpa using k2
  have n2 : (v.1 != 1) = true := by simp [bne, e2]
  have E : Hid (rowB i u v = true) := row_yes G0.out G1.out G2.out K1.out k2
  clear k2
  go_wp2
  go_ret
  exact ⟨ret_bool (by first | exact E.out.symm | (rw [E.out]; simp [bne, e1]; done) | (rw [E.out]; simp [bne, e2]; done) | (rw [E.out]; simp [bne, e1, e2]; done)), BW2.out⟩
set_option maxRecDepth 100000 in
set_option maxHeartbeats 4000000 in
theorem c_lRow (i : Int) (u v : VV) (w : World) (h1 : u.2.2.size ≤ maxLen) (h2 : v.2.2.size ≤ maxLen) :
    Calls Try.prog 31 #[.agg #[.int .i64 i, .int .i64 u.1, .int .i64 u.2.1, .string u.2.2, .int .i64 v.1, .int .i64 v.2.1, .string v.2.2]] w fun e w' => e = .returned (.bool (rowB i u v)) ∧ Below w.heap.size w w' := by
  obtain ⟨V, hV⟩ : ∃ V, w.alloc (.cells #[.int .i64 i, .int .i64 u.1, .int .i64 u.2.1, .string u.2.2, .int .i64 v.1, .int .i64 v.2.1, .string v.2.2] 40) = V := ⟨_, rfl⟩
  have BV : Hid (Below w.heap.size w V) := by unfold Hid; rw [← hV]; exact (Below.refl _ _).alloc (Nat.le_refl _) _
  have X : Hid (Box V w.heap.size 40 #[.int .i64 i, .int .i64 u.1, .int .i64 u.2.1, .string u.2.2, .int .i64 v.1, .int .i64 v.2.1, .string v.2.2]) := by unfold Hid; rw [← hV]; exact Box.new _ _ _
  obtain ⟨x0, x1, x2, x3, x4, x5, x6⟩ := box7 X.out
  obtain ⟨p0, g0⟩ : ∃ p, inB i 0 1000 = p := ⟨_, rfl⟩
  obtain ⟨p1, g1⟩ : ∃ p, okV u = p := ⟨_, rfl⟩
  obtain ⟨p2, g2⟩ : ∃ p, okV v = p := ⟨_, rfl⟩
  have C0 : Hid (∀ W : World, Calls Try.prog 19 #[.int .i64 i, .int .i64 0, .int .i64 1000] W fun e w' => e = .returned (.bool p0) ∧ w' = W) := fun W => by rw [← g0]; exact c_in i 0 1000 W
  have C1 : Hid (∀ W : World, Calls Try.prog 46 #[.agg #[.int .i64 u.1, .int .i64 u.2.1, .string u.2.2]] W fun e w' => e = .returned (.bool p1) ∧ Below W.heap.size W w') := fun W => by rw [← g1]; exact c_specOK _ _ _ W h1
  have C2 : Hid (∀ W : World, Calls Try.prog 46 #[.agg #[.int .i64 v.1, .int .i64 v.2.1, .string v.2.2]] W fun e w' => e = .returned (.bool p2) ∧ Below W.heap.size W w') := fun W => by rw [← g2]; exact c_specOK _ _ _ W h2
  have G0 : Hid (inB i 0 1000 = p0) := g0
  have G1 : Hid (okV u = p1) := g1
  have G2 : Hid (okV v = p2) := g2
  clear g0 g1 g2 h1 h2
  go_enter Try.func31, Try.ntmps31
  go_wp2_with fail
  refine (C0.out _).mono ?_
  rintro e w0 ⟨rfl, hw⟩
  rw [hw]
  clear hw C0 hV
  cases p0
  · go_wp2
    go_ret
    exact ⟨ret_bool (row_no0 G0.out).symm, BV.out⟩
  go_wp2_with fail
  refine (C1.out _).mono ?_
  rintro e W1 ⟨rfl, hb⟩
  have BW1 : Hid (Below w.heap.size w W1) := BV.out.trans (hb.mono BV.out.size)
  have XW1 : Hid (Box W1 w.heap.size 40 #[.int .i64 i, .int .i64 u.1, .int .i64 u.2.1, .string u.2.2, .int .i64 v.1, .int .i64 v.2.1, .string v.2.2]) := X.out.belowS hb
  clear hb x0 x1 x2 x3 x4 x5 x6
  obtain ⟨x0, x1, x2, x3, x4, x5, x6⟩ := box7 XW1.out
  cases p1
  · go_wp2
    go_ret
    exact ⟨ret_bool (row_no1 G1.out).symm, BW1.out⟩
  go_wp2_with fail
  refine (C2.out _).mono ?_
  rintro e W2 ⟨rfl, hb⟩
  have BW2 : Hid (Below w.heap.size w W2) := BW1.out.trans (hb.mono BW1.out.size)
  have XW2 : Hid (Box W2 w.heap.size 40 #[.int .i64 i, .int .i64 u.1, .int .i64 u.2.1, .string u.2.2, .int .i64 v.1, .int .i64 v.2.1, .string v.2.2]) := XW1.out.belowS hb
  clear hb x0 x1 x2 x3 x4 x5 x6
  obtain ⟨x0, x1, x2, x3, x4, x5, x6⟩ := box7 XW2.out
  cases p2
  · go_wp2
    go_ret
    exact ⟨ret_bool (row_no2 G2.out).symm, BW2.out⟩
  by_cases k1 : u.1 = 2
  · have e1 : (u.1 == 2) = true := by simpa using k1
    have n1 : (u.1 != 2) = false := by simp [bne, e1]
    have E : Hid (rowB i u v = false) := row_no3 k1
    clear k1
    go_wp2
    go_ret
    exact ⟨ret_bool (by first | exact E.out.symm | (rw [E.out]; simp [bne, e1]; done) | (rw [E.out]; simp [bne, e2]; done) | (rw [E.out]; simp [bne, e1, e2]; done)), BW2.out⟩
  have e1 : (u.1 == 2) = false := by simpa using k1
  have n1 : (u.1 != 2) = true := by simp [bne, e1]
  have K1 : Hid (¬ u.1 = 2) := k1
  clear k1
  by_cases k2 : v.1 = 1
  · have e2 : (v.1 == 1) = true := by simpa using k2
    have n2 : (v.1 != 1) = false := by simp [bne, e2]
    have E : Hid (rowB i u v = false) := row_no4 k2
    clear k2
    go_wp2
    go_ret
    exact ⟨ret_bool (by first | exact E.out.symm | (rw [E.out]; simp [bne, e1]; done) | (rw [E.out]; simp [bne, e2]; done) | (rw [E.out]; simp [bne, e1, e2]; done)), BW2.out⟩
  have e2 : (v.1 == 1) = false := by simpa using k2
  have n2 : (v.1 != 1) = true := by simp [bne, e2]
  have E : Hid (rowB i u v = true) := row_yes G0.out G1.out G2.out K1.out k2
  clear k2
  go_wp2
  go_ret
  exact ⟨ret_bool (by first | exact E.out.symm | (rw [E.out]; simp [bne, e1]; done) | (rw [E.out]; simp [bne, e2]; done) | (rw [E.out]; simp [bne, e1, e2]; done)), BW2.out⟩
set_option maxRecDepth 100000 in
set_option maxHeartbeats 4000000 in
theorem c_szRow (i : Int) (u v : VV) (w : World) (h1 : u.2.2.size ≤ maxLen) (h2 : v.2.2.size ≤ maxLen) :
    Calls Try.prog 30 #[.agg #[.int .i64 i, .int .i64 u.1, .int .i64 u.2.1, .string u.2.2, .int .i64 v.1, .int .i64 v.2.1, .string v.2.2], .int .i64 1048576] w fun e w' => (∃ r : Int, e = .returned (.int .i64 r) ∧ (0 ≤ r → u.2.2.size ≤ 1048576 ∧ v.2.2.size ≤ 1048576)) ∧ Below w.heap.size w w' := by
  obtain ⟨V, hV⟩ : ∃ V, w.alloc (.cells #[.int .i64 i, .int .i64 u.1, .int .i64 u.2.1, .string u.2.2, .int .i64 v.1, .int .i64 v.2.1, .string v.2.2] 47) = V := ⟨_, rfl⟩
  have BV : Hid (Below w.heap.size w V) := by unfold Hid; rw [← hV]; exact (Below.refl _ _).alloc (Nat.le_refl _) _
  have X : Hid (Box V w.heap.size 47 #[.int .i64 i, .int .i64 u.1, .int .i64 u.2.1, .string u.2.2, .int .i64 v.1, .int .i64 v.2.1, .string v.2.2]) := by unfold Hid; rw [← hV]; exact Box.new _ _ _
  obtain ⟨x0, x1, x2, x3, x4, x5, x6⟩ := box7 X.out
  have H1 : Hid (u.2.2.size ≤ maxLen) := h1
  have H2 : Hid (v.2.2.size ≤ maxLen) := h2
  clear h1 h2
  go_enter Try.func30, Try.ntmps30
  go_wp2_with fail
  refine (c_sz _ _ _ 1048576 _ H1.out (by omega) (by omega)).mono ?_
  rintro e w1 ⟨rfl, hb⟩
  clear hV
  have B1 : Hid (Below w.heap.size w w1) := BV.out.trans (hb.mono BV.out.size)
  have X1 : Hid (Box w1 w.heap.size 47 #[.int .i64 i, .int .i64 u.1, .int .i64 u.2.1, .string u.2.2, .int .i64 v.1, .int .i64 v.2.1, .string v.2.2]) := X.out.belowS hb
  clear hb x0 x1 x2 x3 x4 x5 x6
  obtain ⟨x0, x1, x2, x3, x4, x5, x6⟩ := box7 X1.out
  obtain ⟨s1, hs1⟩ : ∃ s : Nat, u.2.2.size = s := ⟨_, rfl⟩
  rw [hs1]
  by_cases d1 : (1048576 : Int) - s1 < 0
  · rw [if_pos d1]
    go_wp2
    go_ret
    exact ⟨⟨_, rfl, fun h => by omega⟩, B1.out⟩
  rw [if_neg d1]
  go_wp2_with fail
  refine (c_sz _ _ _ (1048576 - (s1 : Int)) _ H2.out (by omega) (by omega)).mono ?_
  rintro e w2 ⟨rfl, hb⟩
  have B2 : Hid (Below w.heap.size w w2) := B1.out.trans (hb.mono B1.out.size)
  clear hb x0 x1 x2 x3 x4 x5 x6
  obtain ⟨s2, hs2⟩ : ∃ s : Nat, v.2.2.size = s := ⟨_, rfl⟩
  rw [hs2]
  by_cases d2 : (1048576 : Int) - s1 - s2 < 0
  · rw [if_pos d2]
    go_wp2
    go_ret
    exact ⟨⟨_, rfl, fun h => by omega⟩, B2.out⟩
  rw [if_neg d2]
  go_wp2
  go_ret
  exact ⟨⟨_, rfl, fun _ => ⟨by omega, by omega⟩⟩, B2.out⟩

theorem thaw7 {w : World} {g : Nat} {t : TypeId} {c : Array Value} (h : Box w g t c) : w.frozen? ⟨g, 0, none⟩ = false ∧ w.frozen? ⟨g, 1, none⟩ = false ∧ w.frozen? ⟨g, 2, none⟩ = false ∧ w.frozen? ⟨g, 3, none⟩ = false ∧ w.frozen? ⟨g, 4, none⟩ = false ∧ w.frozen? ⟨g, 5, none⟩ = false ∧ w.frozen? ⟨g, 6, none⟩ = false := ⟨h.thaw 0, h.thaw 1, h.thaw 2, h.thaw 3, h.thaw 4, h.thaw 5, h.thaw 6⟩
set_option maxRecDepth 100000 in
set_option maxHeartbeats 4000000 in
theorem c_toRow (i : Int) (u v : VV) (w : World) :
    Calls Try.prog 32 #[.agg #[.int .i64 i, .int .i64 u.1, .int .i64 u.2.1, .string u.2.2, .int .i64 v.1, .int .i64 v.2.1, .string v.2.2]] w fun e w' => e = .returned (.agg #[.int .i64 i, .int .i64 u.1, .int .i64 u.2.1, .string u.2.2, .int .i64 v.1, .int .i64 v.2.1, .string v.2.2]) ∧ Below w.heap.size w w' := by
  obtain ⟨V0, hV0⟩ : ∃ V, w.alloc (.cells #[.int .i64 i, .int .i64 u.1, .int .i64 u.2.1, .string u.2.2, .int .i64 v.1, .int .i64 v.2.1, .string v.2.2] 47) = V := ⟨_, rfl⟩
  obtain ⟨V1, hV1⟩ : ∃ V, V0.alloc (.cells #[.int .i64 0, .int .i64 0, .int .i64 0, .string ⟨#[]⟩, .int .i64 0, .int .i64 0, .string ⟨#[]⟩] 40) = V := ⟨_, rfl⟩
  obtain ⟨V, hV⟩ : ∃ V, V1.alloc (.cells #[.int .i64 0, .int .i64 0, .int .i64 0, .string ⟨#[]⟩, .int .i64 0, .int .i64 0, .string ⟨#[]⟩] 40) = V := ⟨_, rfl⟩
  have hb0 : Below w.heap.size w V0 := by rw [← hV0]; exact (Below.refl _ _).alloc (Nat.le_refl _) _
  have hb1 : Below V0.heap.size V0 V1 := by rw [← hV1]; exact (Below.refl _ _).alloc (Nat.le_refl _) _
  have hb2 : Below V1.heap.size V1 V := by rw [← hV]; exact (Below.refl _ _).alloc (Nat.le_refl _) _
  have X : Hid (Box V w.heap.size 47 #[.int .i64 i, .int .i64 u.1, .int .i64 u.2.1, .string u.2.2, .int .i64 v.1, .int .i64 v.2.1, .string v.2.2]) := ((show Box V0 w.heap.size 47 #[.int .i64 i, .int .i64 u.1, .int .i64 u.2.1, .string u.2.2, .int .i64 v.1, .int .i64 v.2.1, .string v.2.2] by rw [← hV0]; exact Box.new _ _ _).belowS hb1).belowS hb2
  have Y : Hid (Box V V0.heap.size 40 #[.int .i64 0, .int .i64 0, .int .i64 0, .string ⟨#[]⟩, .int .i64 0, .int .i64 0, .string ⟨#[]⟩]) := (show Box V1 V0.heap.size 40 #[.int .i64 0, .int .i64 0, .int .i64 0, .string ⟨#[]⟩, .int .i64 0, .int .i64 0, .string ⟨#[]⟩] by rw [← hV1]; exact Box.new _ _ _).belowS hb2
  have Z : Hid (Box V V1.heap.size 40 #[.int .i64 0, .int .i64 0, .int .i64 0, .string ⟨#[]⟩, .int .i64 0, .int .i64 0, .string ⟨#[]⟩]) := by unfold Hid; rw [← hV]; exact Box.new _ _ _
  have BV : Hid (Below w.heap.size w V) := hb0.trans ((hb1.trans (hb2.mono hb1.size)).mono hb0.size)
  have l0 : w.heap.size < V0.heap.size := by rw [← hV0]; simp
  have l1 : V0.heap.size < V1.heap.size := by rw [← hV1]; simp
  obtain ⟨x0, x1, x2, x3, x4, x5, x6⟩ := box7 X.out
  obtain ⟨z0, z1, z2, z3, z4, z5, z6⟩ := box7 Z.out
  obtain ⟨t0, t1, t2, t3, t4, t5, t6⟩ := thaw7 Z.out
  clear hb0 hb1 hb2
  go_enter Try.func32, Try.ntmps32
  go_wp2_with fail
  have X1 : Hid (Box (V.setCell ⟨V1.heap.size, 0, none⟩ (.int .i64 i)) w.heap.size 47 #[.int .i64 i, .int .i64 u.1, .int .i64 u.2.1, .string u.2.2, .int .i64 v.1, .int .i64 v.2.1, .string v.2.2]) := X.out.setOther _ _ (by simp; omega)
  have Y1 : Hid (Box (V.setCell ⟨V1.heap.size, 0, none⟩ (.int .i64 i)) V0.heap.size 40 #[.int .i64 0, .int .i64 0, .int .i64 0, .string ⟨#[]⟩, .int .i64 0, .int .i64 0, .string ⟨#[]⟩]) := Y.out.setOther _ _ (by simp; omega)
  have Z1 : Hid (Box (V.setCell ⟨V1.heap.size, 0, none⟩ (.int .i64 i)) V1.heap.size 40 #[.int .i64 i, .int .i64 0, .int .i64 0, .string ⟨#[]⟩, .int .i64 0, .int .i64 0, .string ⟨#[]⟩]) := Z.out.set 0 _
  have B1 : Hid (Below w.heap.size w (V.setCell ⟨V1.heap.size, 0, none⟩ (.int .i64 i))) := BV.out.setCell (by simp; omega) _
  refine (c_to _ _ _ _).mono ?_
  rintro e w1 ⟨rfl, hb⟩
  have X2 : Hid (Box w1 w.heap.size 47 #[.int .i64 i, .int .i64 u.1, .int .i64 u.2.1, .string u.2.2, .int .i64 v.1, .int .i64 v.2.1, .string v.2.2]) := X1.out.belowS hb
  have Y2 : Hid (Box w1 V0.heap.size 40 #[.int .i64 0, .int .i64 0, .int .i64 0, .string ⟨#[]⟩, .int .i64 0, .int .i64 0, .string ⟨#[]⟩]) := Y1.out.belowS hb
  have Z2 : Hid (Box w1 V1.heap.size 40 #[.int .i64 i, .int .i64 0, .int .i64 0, .string ⟨#[]⟩, .int .i64 0, .int .i64 0, .string ⟨#[]⟩]) := Z1.out.belowS hb
  have B2 : Hid (Below w.heap.size w w1) := B1.out.trans (hb.mono B1.out.size)
  clear hb X Y Z BV X1 Y1 Z1 B1 hV hV0 hV1 x0 x1 x2 x3 x4 x5 x6 z0 z1 z2 z3 z4 z5 z6 t0 t1 t2 t3 t4 t5 t6
  obtain ⟨x0, x1, x2, x3, x4, x5, x6⟩ := box7 X2.out
  obtain ⟨z0, z1, z2, z3, z4, z5, z6⟩ := box7 Z2.out
  obtain ⟨t0, t1, t2, t3, t4, t5, t6⟩ := thaw7 Z2.out
  obtain ⟨wa, hwa⟩ : ∃ Q, ((w1.setCell ⟨V1.heap.size, 1, none⟩ (.int .i64 u.1)).setCell ⟨V1.heap.size, 2, none⟩ (.int .i64 u.2.1)).setCell ⟨V1.heap.size, 3, none⟩ (.string u.2.2) = Q := ⟨_, rfl⟩
  have X3 : Hid (Box wa w.heap.size 47 #[.int .i64 i, .int .i64 u.1, .int .i64 u.2.1, .string u.2.2, .int .i64 v.1, .int .i64 v.2.1, .string v.2.2]) := by unfold Hid; rw [← hwa]; exact ((X2.out.setOther _ _ (by simp; omega)).setOther _ _ (by simp; omega)).setOther _ _ (by simp; omega)
  have Y3 : Hid (Box wa V0.heap.size 40 #[.int .i64 0, .int .i64 0, .int .i64 0, .string ⟨#[]⟩, .int .i64 0, .int .i64 0, .string ⟨#[]⟩]) := by unfold Hid; rw [← hwa]; exact ((Y2.out.setOther _ _ (by simp; omega)).setOther _ _ (by simp; omega)).setOther _ _ (by simp; omega)
  have Z3 : Hid (Box wa V1.heap.size 40 #[.int .i64 i, .int .i64 u.1, .int .i64 u.2.1, .string u.2.2, .int .i64 0, .int .i64 0, .string ⟨#[]⟩]) := by unfold Hid; rw [← hwa]; exact ((Z2.out.set 1 _).set 2 _).set 3 _
  have B3 : Hid (Below w.heap.size w wa) := by unfold Hid; rw [← hwa]; exact ((B2.out.setCell (by simp; omega) _).setCell (by simp; omega) _).setCell (by simp; omega) _
  have x0' := X3.out.cell 0
  have x4' : wa.cell? ⟨w.heap.size, 4, none⟩ = some (.int .i64 v.1) := X3.out.cell 4
  have x5' : wa.cell? ⟨w.heap.size, 5, none⟩ = some (.int .i64 v.2.1) := X3.out.cell 5
  have x6' : wa.cell? ⟨w.heap.size, 6, none⟩ = some (.string v.2.2) := X3.out.cell 6
  go_wp2_with fail
  refine (c_to _ _ _ _).mono ?_
  rintro e w2 ⟨rfl, hb⟩
  have Y4 : Hid (Box w2 V0.heap.size 40 #[.int .i64 0, .int .i64 0, .int .i64 0, .string ⟨#[]⟩, .int .i64 0, .int .i64 0, .string ⟨#[]⟩]) := Y3.out.belowS hb
  have Z4 : Hid (Box w2 V1.heap.size 40 #[.int .i64 i, .int .i64 u.1, .int .i64 u.2.1, .string u.2.2, .int .i64 0, .int .i64 0, .string ⟨#[]⟩]) := Z3.out.belowS hb
  have B4 : Hid (Below w.heap.size w w2) := B3.out.trans (hb.mono B3.out.size)
  clear hb X2 Y2 Z2 B2 X3 Y3 Z3 B3 hwa x0' x4' x5' x6' x0 x1 x2 x3 x4 x5 x6 z0 z1 z2 z3 z4 z5 z6 t0 t1 t2 t3 t4 t5 t6
  obtain ⟨z0, z1, z2, z3, z4, z5, z6⟩ := box7 Z4.out
  obtain ⟨t0, t1, t2, t3, t4, t5, t6⟩ := thaw7 Z4.out
  obtain ⟨wb, hwb⟩ : ∃ Q, ((w2.setCell ⟨V1.heap.size, 4, none⟩ (.int .i64 v.1)).setCell ⟨V1.heap.size, 5, none⟩ (.int .i64 v.2.1)).setCell ⟨V1.heap.size, 6, none⟩ (.string v.2.2) = Q := ⟨_, rfl⟩
  have Y5 : Hid (Box wb V0.heap.size 40 #[.int .i64 0, .int .i64 0, .int .i64 0, .string ⟨#[]⟩, .int .i64 0, .int .i64 0, .string ⟨#[]⟩]) := by unfold Hid; rw [← hwb]; exact ((Y4.out.setOther _ _ (by simp; omega)).setOther _ _ (by simp; omega)).setOther _ _ (by simp; omega)
  have Z5 : Hid (Box wb V1.heap.size 40 #[.int .i64 i, .int .i64 u.1, .int .i64 u.2.1, .string u.2.2, .int .i64 v.1, .int .i64 v.2.1, .string v.2.2]) := by unfold Hid; rw [← hwb]; exact ((Z4.out.set 4 _).set 5 _).set 6 _
  have B5 : Hid (Below w.heap.size w wb) := by unfold Hid; rw [← hwb]; exact ((B4.out.setCell (by simp; omega) _).setCell (by simp; omega) _).setCell (by simp; omega) _
  obtain ⟨a0, a1, a2, a3, a4, a5, a6⟩ := box7 Z5.out
  obtain ⟨y0, y1, y2, y3, y4, y5, y6⟩ := box7 Y5.out
  obtain ⟨s0, s1, s2, s3, s4, s5, s6⟩ := thaw7 Y5.out
  go_wp2
  have Y6 : Box ((((((((wb).setCell ⟨V0.heap.size, 0, none⟩ (.int .i64 i)).setCell ⟨V0.heap.size, 1, none⟩ (.int .i64 u.1)).setCell ⟨V0.heap.size, 2, none⟩ (.int .i64 u.2.1)).setCell ⟨V0.heap.size, 3, none⟩ (.string u.2.2)).setCell ⟨V0.heap.size, 4, none⟩ (.int .i64 v.1)).setCell ⟨V0.heap.size, 5, none⟩ (.int .i64 v.2.1)).setCell ⟨V0.heap.size, 6, none⟩ (.string v.2.2)) V0.heap.size 40 #[.int .i64 i, .int .i64 u.1, .int .i64 u.2.1, .string u.2.2, .int .i64 v.1, .int .i64 v.2.1, .string v.2.2] := ((((((Y5.out.set 0 _).set 1 _).set 2 _).set 3 _).set 4 _).set 5 _).set 6 _
  obtain ⟨b0, b1, b2, b3, b4, b5, b6⟩ := box7 Y6
  refine bodyPost_ret (v := .agg #[.int .i64 i, .int .i64 u.1, .int .i64 u.2.1, .string u.2.2, .int .i64 v.1, .int .i64 v.2.1, .string v.2.2]) (by simp [results, Try.results32, go_sem, b0, b1, b2, b3, b4, b5, b6]) rfl ⟨rfl, ?_⟩
  exact ((((((B5.out.setCell (by simp; omega) _).setCell (by simp; omega) _).setCell (by simp; omega) _).setCell (by simp; omega) _).setCell (by simp; omega) _).setCell (by simp; omega) _).setCell (by simp; omega) _

end Go.Proofs.Ytiobobocjokgiaa
