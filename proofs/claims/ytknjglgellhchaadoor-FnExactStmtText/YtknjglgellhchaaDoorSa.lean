/-
  Statements: the small tests.
-/
import Derived.Test.YtknjglgellhchaaDoorXm
import Derived.Test.YtknjglgellhchaaDoorSc
import Derived.Deep.RegionHeld3
namespace Go.Proofs.YtknjglgellhchaaDoor
open Go Go.RowKit
attribute [local go_sem ↓] Go.wp_at_zero Go.wp_at_succ

set_option maxRecDepth 100000 in
set_option maxHeartbeats 4000000 in
theorem c_lacks (a : Option Addr) (n c : Nat) (w : World) : Calls Tryd.prog 45 #[.agg #[.slice a n c]] w fun e w' => e = .returned (.bool (n == 0)) ∧ Below w.heap.size w w' := by
  cases n with
  | zero =>
    go_enter Tryd.func45, Tryd.ntmps45
    go_wp2
    go_ret
    exact ⟨rfl, (Below.refl _ _).alloc (Nat.le_refl _) _⟩
  | succ n =>
    have h : ¬ ((n : Int) + 1 = 0) := by omega
    go_enter Tryd.func45, Tryd.ntmps45
    go_wp2
    go_ret
    exact ⟨ret_bool (by simp [h]), (Below.refl _ _).alloc (Nat.le_refl _) _⟩
set_option maxRecDepth 100000 in
set_option maxHeartbeats 4000000 in
theorem c_none (a : Option Addr) (n c : Nat) (w : World) : Calls Tryd.prog 79 #[.agg #[.slice a n c]] w fun e w' => e = .returned (.bool (n == 0)) ∧ Below w.heap.size w w' := by
  cases n with
  | zero =>
    go_enter Tryd.func79, Tryd.ntmps79
    go_wp2
    go_ret
    exact ⟨rfl, (Below.refl _ _).alloc (Nat.le_refl _) _⟩
  | succ n =>
    have h : ¬ ((n : Int) + 1 = 0) := by omega
    go_enter Tryd.func79, Tryd.ntmps79
    go_wp2
    go_ret
    exact ⟨ret_bool (by simp [h]), (Below.refl _ _).alloc (Nat.le_refl _) _⟩
set_option maxRecDepth 100000 in
set_option maxHeartbeats 4000000 in
theorem c_isTable (x : Int) (w : World) : Calls Tryd.prog 82 #[.int .i64 x] w fun e w' => e = .returned (.bool (inB x 1 3)) ∧ w' = w := by
  by_cases h1 : (1 : Int) ≤ x <;> by_cases h2 : x ≤ 3
  all_goals
    go_enter Tryd.func82, Tryd.ntmps82
    go_wp2
    go_ret
    exact ⟨ret_bool (by simp [inB, h1, h2]), rfl⟩
set_option maxRecDepth 100000 in
set_option maxHeartbeats 4000000 in
theorem c_isSet (x : Int) (w : World) : Calls Tryd.prog 86 #[.int .i64 x] w fun e w' => e = .returned (.bool (inB x 1 2)) ∧ w' = w := by
  obtain ⟨p, hp⟩ : ∃ p, inB x 0 2 = p := ⟨_, rfl⟩
  have C := c_isCol x w
  rw [hp] at C
  have HP : Hid (inB x 0 2 = p) := hp
  clear hp
  by_cases h1 : x = 0
  · have e1 : (x != 0) = false := by simp [h1]
    have H1 : Hid (x = 0) := h1
    clear h1
    go_enter Tryd.func86, Tryd.ntmps86
    go_wp2_with fail
    refine C.mono ?_
    rintro e w1 ⟨rfl, rfl⟩
    cases p
    · go_wp2
      go_ret
      exact ⟨ret_bool (by simp [inB, H1.out]), rfl⟩
    · go_wp2
      go_ret
      exact ⟨ret_bool (by simp [inB, H1.out]), rfl⟩
  · have e1 : (x != 0) = true := by simp [h1]
    have H1 : Hid (¬ x = 0) := h1
    clear h1
    go_enter Tryd.func86, Tryd.ntmps86
    go_wp2_with fail
    refine C.mono ?_
    rintro e w1 ⟨rfl, rfl⟩
    cases p
    · go_wp2
      go_ret
      exact ⟨ret_bool (by have := HP.out; have := H1.out; simp [inB] at *; omega), rfl⟩
    · go_wp2
      go_ret
      exact ⟨ret_bool (by have := HP.out; have := H1.out; simp [inB] at *; omega), rfl⟩
set_option maxRecDepth 100000 in
set_option maxHeartbeats 4000000 in
theorem c_isWhere (a : Option Addr) (n c : Nat) (L : List EN) (w : World) (hr : RdE w a n L) (hn : n ≤ 1048576) (hs : ∀ v ∈ L, v.t.size ≤ maxLen) :
    Calls Tryd.prog 84 #[.agg #[.slice a n c]] w fun e w' => e = .returned (.bool (n == 0 || okX L n)) ∧ Below w.heap.size w w' := by
  obtain ⟨V, hV⟩ : ∃ V, w.alloc (.cells #[.slice a n c] 30) = V := ⟨_, rfl⟩
  have BV : Below w.heap.size w V := by rw [← hV]; exact (Below.refl _ _).alloc (Nat.le_refl _) _
  have X : Box V w.heap.size 30 #[.slice a n c] := by rw [← hV]; exact Box.new _ _ _
  have x0 : V.cell? ⟨w.heap.size, 0, none⟩ = some (.slice a n c) := X.cell 0
  have C1 := c_lacks a n c V
  have C2 : Hid (∀ W, Below w.heap.size w W → Calls Tryd.prog 87 #[.agg #[.slice a n c]] W fun e w' => e = .returned (.bool (okX L n)) ∧ Below W.heap.size W w') := fun W h => c_implX L a n c W (hr.below h) hn hs
  obtain ⟨q, hq⟩ : ∃ q, okX L n = q := ⟨_, rfl⟩
  obtain ⟨p, hp⟩ : ∃ p, (n == 0) = p := ⟨_, rfl⟩
  rw [hq] at C2 ⊢
  rw [hp] at C1 ⊢
  clear hr hs hq hp
  go_enter Tryd.func84, Tryd.ntmps84
  go_wp2_with fail
  refine C1.mono ?_
  rintro e w1 ⟨rfl, hb⟩
  have B1 : Hid (Below w.heap.size w w1) := BV.trans (hb.mono BV.size)
  have X1 : Box w1 w.heap.size 30 #[.slice a n c] := X.belowS hb
  have y0 : w1.cell? ⟨w.heap.size, 0, none⟩ = some (.slice a n c) := X1.cell 0
  clear hb X X1 x0 C1 BV hV
  cases p
  · go_wp2_with fail
    refine (C2.out w1 B1.out).mono ?_
    rintro e w2 ⟨rfl, hb⟩
    have B2 : Hid (Below w.heap.size w w2) := B1.out.trans (hb.mono B1.out.size)
    clear hb C2
    go_wp2
    go_ret
    exact ⟨by simp, B2.out⟩
  · go_wp2
    go_ret
    exact ⟨by simp, B1.out⟩
def nsB (c : Int) (sn : Nat) : Bool := c == 0 && (sn == 0)
def noB (o : Int) (d : Bool) : Bool := o == 0 && !d
set_option maxRecDepth 100000 in
set_option maxHeartbeats 4000000 in
theorem c_noSet (k tb i : Int) (u v : VV) (c : Int) (sa : Option Addr) (sn sc : Nat) (wa : Option Addr) (wn wc : Nat) (o : Int) (d : Bool) (w : World) : Calls Tryd.prog 83 #[.agg #[.int .i64 k, .int .i64 tb, .int .i64 i, .int .i64 u.1, .int .i64 u.2.1, .string u.2.2, .int .i64 v.1, .int .i64 v.2.1, .string v.2.2, .int .i64 c, .slice sa sn sc, .slice wa wn wc, .int .i64 o, .bool d]] w fun e w' => e = .returned (.bool (nsB c sn)) ∧ Below w.heap.size w w' := by
  obtain ⟨V, hV⟩ : ∃ V, w.alloc (.cells #[.int .i64 k, .int .i64 tb, .int .i64 i, .int .i64 u.1, .int .i64 u.2.1, .string u.2.2, .int .i64 v.1, .int .i64 v.2.1, .string v.2.2, .int .i64 c, .slice sa sn sc, .slice wa wn wc, .int .i64 o, .bool d] 52) = V := ⟨_, rfl⟩
  have BV : Hid (Below w.heap.size w V) := by unfold Hid; rw [← hV]; exact (Below.refl _ _).alloc (Nat.le_refl _) _
  have X : Box V w.heap.size 52 #[.int .i64 k, .int .i64 tb, .int .i64 i, .int .i64 u.1, .int .i64 u.2.1, .string u.2.2, .int .i64 v.1, .int .i64 v.2.1, .string v.2.2, .int .i64 c, .slice sa sn sc, .slice wa wn wc, .int .i64 o, .bool d] := by rw [← hV]; exact Box.new _ _ _
  have x9 := X.cell 9
  have x10 := X.cell 10
  simp only [List.getElem?_toArray, List.getElem?_cons_succ, List.getElem?_cons_zero] at x9 x10
  obtain ⟨p, hp⟩ : ∃ p, (c == 0) = p := ⟨_, rfl⟩
  have C := c_lacks sa sn sc V
  have E : Hid (nsB c sn = (p && (sn == 0))) := by unfold Hid nsB; rw [hp]
  obtain ⟨q, hq⟩ : ∃ q, (sn == 0) = q := ⟨_, rfl⟩
  rw [hq] at C E
  clear hq
  cases p
  · go_enter Tryd.func83, Tryd.ntmps83
    go_wp2
    go_ret
    exact ⟨ret_bool (by rw [E.out]; rfl), BV.out⟩
  · go_enter Tryd.func83, Tryd.ntmps83
    go_wp2_with fail
    refine C.mono ?_
    rintro e w1 ⟨rfl, hb⟩
    have B1 : Hid (Below w.heap.size w w1) := BV.out.trans (hb.mono BV.out.size)
    clear hb C hV
    go_wp2
    go_ret
    exact ⟨ret_bool (by rw [E.out]; rfl), B1.out⟩
set_option maxRecDepth 100000 in
set_option maxHeartbeats 4000000 in
theorem c_noOrd (k tb i : Int) (u v : VV) (c : Int) (sa : Option Addr) (sn sc : Nat) (wa : Option Addr) (wn wc : Nat) (o : Int) (d : Bool) (w : World) : Calls Tryd.prog 46 #[.agg #[.int .i64 k, .int .i64 tb, .int .i64 i, .int .i64 u.1, .int .i64 u.2.1, .string u.2.2, .int .i64 v.1, .int .i64 v.2.1, .string v.2.2, .int .i64 c, .slice sa sn sc, .slice wa wn wc, .int .i64 o, .bool d]] w fun e w' => e = .returned (.bool (noB o d)) ∧ Below w.heap.size w w' := by
  obtain ⟨V, hV⟩ : ∃ V, w.alloc (.cells #[.int .i64 k, .int .i64 tb, .int .i64 i, .int .i64 u.1, .int .i64 u.2.1, .string u.2.2, .int .i64 v.1, .int .i64 v.2.1, .string v.2.2, .int .i64 c, .slice sa sn sc, .slice wa wn wc, .int .i64 o, .bool d] 52) = V := ⟨_, rfl⟩
  have BV : Hid (Below w.heap.size w V) := by unfold Hid; rw [← hV]; exact (Below.refl _ _).alloc (Nat.le_refl _) _
  have X : Box V w.heap.size 52 #[.int .i64 k, .int .i64 tb, .int .i64 i, .int .i64 u.1, .int .i64 u.2.1, .string u.2.2, .int .i64 v.1, .int .i64 v.2.1, .string v.2.2, .int .i64 c, .slice sa sn sc, .slice wa wn wc, .int .i64 o, .bool d] := by rw [← hV]; exact Box.new _ _ _
  have x12 := X.cell 12
  have x13 := X.cell 13
  simp only [List.getElem?_toArray, List.getElem?_cons_succ, List.getElem?_cons_zero] at x12 x13
  obtain ⟨p, hp⟩ : ∃ p, (o == 0) = p := ⟨_, rfl⟩
  have E : Hid (noB o d = (p && !d)) := by unfold Hid noB; rw [hp]
  cases p <;> cases d
  all_goals
    go_enter Tryd.func46, Tryd.ntmps46
    go_wp2
    go_ret
    exact ⟨ret_bool (by rw [E.out]; rfl), BV.out⟩

end Go.Proofs.YtknjglgellhchaaDoor
