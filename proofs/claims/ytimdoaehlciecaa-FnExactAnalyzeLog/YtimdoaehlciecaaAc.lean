/-
  The analysis of the program: the array that it keeps, and what a record does to it.
-/
import Derived.Test.YtimdoaehlciecaaAb
import Derived.Test.YtimdoaehlciecaaLq
import Derived.Test.YtimdoaehlciecaaYq
import Derived.Deep.RegionHeld
import Derived.Deep.RegionHeld3
import Derived.Laws.Rows
namespace Go.Proofs.Ytimdoaehlciecaa
open Go Go.RowKit
attribute [local go_sem ↓] Go.wp_at_zero Go.wp_at_succ

def anA (g : Nat → Int) : Array Value := Array.ofFn fun i : Fin 69 => Value.int .i64 (g i.val)
def AnB (w : World) (B : Nat) (g : Nat → Int) : Prop := Box w B 69 (anA g)
theorem AnB.cell {w : World} {B : Nat} {g : Nat → Int} (h : AnB w B g) {m : Nat} (hm : m < 69) : w.cell? ⟨B, m, none⟩ = some (.int .i64 (g m)) := by
  have := Box.cell h m
  rw [this]
  simp [anA, hm]
theorem AnB.set {w : World} {B : Nat} {g : Nat → Int} (h : AnB w B g) {m : Nat} (_ : m < 69) (x : Int) : AnB (w.setCell ⟨B, m, none⟩ (.int .i64 x)) B (updN g m x) := by
  have := Box.set h m (.int .i64 x)
  unfold AnB
  rw [show anA (updN g m x) = (anA g).setIfInBounds m (.int .i64 x) from ?_]
  · exact this
  · apply Array.ext
    · simp [anA]
    · intro i h1 h2
      simp [anA] at h1
      rw [Array.getElem_setIfInBounds (by simp [anA]; omega)]
      by_cases e : m = i
      · subst e; simp [anA, updN]
      · simp [anA, updN, e, Ne.symm e]
theorem an0 : anA (fun _ => 0) = #[.int .i64 0, .int .i64 0, .int .i64 0, .int .i64 0, .int .i64 0, .int .i64 0, .int .i64 0, .int .i64 0, .int .i64 0, .int .i64 0, .int .i64 0, .int .i64 0, .int .i64 0, .int .i64 0, .int .i64 0, .int .i64 0, .int .i64 0, .int .i64 0, .int .i64 0, .int .i64 0, .int .i64 0, .int .i64 0, .int .i64 0, .int .i64 0, .int .i64 0, .int .i64 0, .int .i64 0, .int .i64 0, .int .i64 0, .int .i64 0, .int .i64 0, .int .i64 0, .int .i64 0, .int .i64 0, .int .i64 0, .int .i64 0, .int .i64 0, .int .i64 0, .int .i64 0, .int .i64 0, .int .i64 0, .int .i64 0, .int .i64 0, .int .i64 0, .int .i64 0, .int .i64 0, .int .i64 0, .int .i64 0, .int .i64 0, .int .i64 0, .int .i64 0, .int .i64 0, .int .i64 0, .int .i64 0, .int .i64 0, .int .i64 0, .int .i64 0, .int .i64 0, .int .i64 0, .int .i64 0, .int .i64 0, .int .i64 0, .int .i64 0, .int .i64 0, .int .i64 0, .int .i64 0, .int .i64 0, .int .i64 0, .int .i64 0] := by kernel_rfl
theorem anB0 (w : World) : AnB (w.alloc (.cells #[.int .i64 0, .int .i64 0, .int .i64 0, .int .i64 0, .int .i64 0, .int .i64 0, .int .i64 0, .int .i64 0, .int .i64 0, .int .i64 0, .int .i64 0, .int .i64 0, .int .i64 0, .int .i64 0, .int .i64 0, .int .i64 0, .int .i64 0, .int .i64 0, .int .i64 0, .int .i64 0, .int .i64 0, .int .i64 0, .int .i64 0, .int .i64 0, .int .i64 0, .int .i64 0, .int .i64 0, .int .i64 0, .int .i64 0, .int .i64 0, .int .i64 0, .int .i64 0, .int .i64 0, .int .i64 0, .int .i64 0, .int .i64 0, .int .i64 0, .int .i64 0, .int .i64 0, .int .i64 0, .int .i64 0, .int .i64 0, .int .i64 0, .int .i64 0, .int .i64 0, .int .i64 0, .int .i64 0, .int .i64 0, .int .i64 0, .int .i64 0, .int .i64 0, .int .i64 0, .int .i64 0, .int .i64 0, .int .i64 0, .int .i64 0, .int .i64 0, .int .i64 0, .int .i64 0, .int .i64 0, .int .i64 0, .int .i64 0, .int .i64 0, .int .i64 0, .int .i64 0, .int .i64 0, .int .i64 0, .int .i64 0, .int .i64 0] 69)) w.heap.size (fun _ => 0) := by unfold AnB; rw [an0]; exact Box.new w _ _
set_option maxRecDepth 100000 in
set_option maxHeartbeats 8000000 in
theorem c_isChange (ve vl vt vk vp vn vg vz : Int) (vb va : ByteArray) (w : World) :
    Calls Try.prog 46 #[.agg #[.int .i64 ve, .int .i64 vl, .int .i64 vt, .int .i64 vk, .int .i64 vp, .int .i64 vn, .int .i64 vg, .int .i64 vz, .string vb, .string va]] w fun e w' => e = .returned (.bool (decide (vk = 2 ∨ vk = 3))) ∧ Below w.heap.size w w' := by
  have B0 : Below w.heap.size w (w.alloc (.cells #[.int .i64 ve, .int .i64 vl, .int .i64 vt, .int .i64 vk, .int .i64 vp, .int .i64 vn, .int .i64 vg, .int .i64 vz, .string vb, .string va] 43)) := (Below.refl _ _).alloc (Nat.le_refl _) _
  by_cases h2 : vk = 2
  · have E : Hid (decide (vk = 2 ∨ vk = 3) = true) := decide_eq_true (.inl h2)
    have c1 : (vk == 2) = true := by simpa using h2
    clear h2
    go_enter Try.func46, Try.ntmps46
    go_wp2
    go_ret
    exact ⟨ret_bool E.out.symm, B0⟩
  have c1 : (vk == 2) = false := by simpa using h2
  by_cases h3 : vk = 3
  · have E : Hid (decide (vk = 2 ∨ vk = 3) = true) := decide_eq_true (.inr h3)
    have c2 : (vk == 3) = true := by simpa using h3
    clear h2 h3
    go_enter Try.func46, Try.ntmps46
    go_wp2
    go_ret
    exact ⟨ret_bool E.out.symm, B0⟩
  · have E : Hid (decide (vk = 2 ∨ vk = 3) = false) := decide_eq_false (by omega)
    have c2 : (vk == 3) = false := by simpa using h3
    clear h2 h3
    go_enter Try.func46, Try.ntmps46
    go_wp2
    go_ret
    exact ⟨ret_bool E.out.symm, B0⟩
set_option maxRecDepth 100000 in
set_option maxHeartbeats 8000000 in
theorem c_meet (B : Nat) (g : Nat → Int) (ve vl vk vp vn vz : Int) (m p : Nat) (vb va : ByteArray) (w : World) (hB : AnB w B g) (hm : m < 61) (hp : p < 8) :
    Calls Try.prog 40 #[.pointer (some ⟨B, 0, none⟩), .agg #[.int .i64 ve, .int .i64 vl, .int .i64 (m : Int), .int .i64 vk, .int .i64 vp, .int .i64 vn, .int .i64 (p : Int), .int .i64 vz, .string vb, .string va]] w fun e w' => e = .returned (.tuple #[]) ∧ AnB w' B (anM g ⟨ve, vl, (m : Int), vk, vp, vn, (p : Int), vz, vb, va⟩) ∧ Below B w w' := by
  obtain ⟨V, hV⟩ : ∃ V, w.alloc (.cells #[.int .i64 ve, .int .i64 vl, .int .i64 (m : Int), .int .i64 vk, .int .i64 vp, .int .i64 vn, .int .i64 (p : Int), .int .i64 vz, .string vb, .string va] 43) = V := ⟨_, rfl⟩
  have lB : B < w.heap.size := hB.lt
  have hbA : Below w.heap.size w V := by rw [← hV]; exact (Below.refl _ _).alloc (Nat.le_refl _) _
  have A0 : Hid (AnB V B g) := Box.belowS hB hbA
  have X0 : Hid (Box V w.heap.size 43 #[.int .i64 ve, .int .i64 vl, .int .i64 (m : Int), .int .i64 vk, .int .i64 vp, .int .i64 vn, .int .i64 (p : Int), .int .i64 vz, .string vb, .string va]) := by unfold Hid; rw [← hV]; exact Box.new _ _ _
  have B0 : Hid (Below B w V) := by unfold Hid; rw [← hV]; exact (Below.refl _ _).alloc (by omega) _
  clear hbA hB
  obtain ⟨x0, x1, x2, x3, x4, x5, x6, x7, x8, x9⟩ := box10 X0.out
  have cT := A0.out.cell (show 8 + m < 69 by omega)
  have tT := Box.thaw A0.out (8 + m)
  have q1 : (0 : Int) ≤ (m : Int) := by omega
  have q2 : (m : Int) < 61 := by omega
  have q3 : (0 : Int) ≤ (p : Int) := by omega
  have q4 : (p : Int) < 8 := by omega
  go_enter Try.func40, Try.ntmps40
  go_wp2_with fail
  go_region
  obtain ⟨D, hD⟩ : ∃ Q, (V.setCell ⟨B, 8 + m, none⟩ (.int .i64 vl)).drew = Q := ⟨_, rfl⟩
  have A1 : Hid (AnB D B (updN g (8 + m) vl)) := by unfold Hid; rw [← hD]; exact A0.out.set (by omega) vl
  have X1 : Hid (Box D w.heap.size 43 #[.int .i64 ve, .int .i64 vl, .int .i64 (m : Int), .int .i64 vk, .int .i64 vp, .int .i64 vn, .int .i64 (p : Int), .int .i64 vz, .string vb, .string va]) := by unfold Hid; rw [← hD]; exact X0.out.setOther ⟨B, 8 + m, none⟩ (.int .i64 vl) (by simp; omega)
  have B1 : Hid (Below B w D) := by unfold Hid; rw [← hD]; exact (B0.out.setCell (Nat.le_refl _) _).drew
  rw [hD]
  clear hD hV A0 X0 B0 x0 x1 x2 x3 x4 x5 x6 x7 x8 x9 cT tT
  have RE : Hid (∀ v, anM g ⟨ve, vl, (m : Int), vk, vp, vn, (p : Int), vz, vb, va⟩ = v ↔ anM g ⟨ve, vl, (m : Int), vk, vp, vn, (p : Int), vz, vb, va⟩ = v) := fun _ => Iff.rfl
  clear RE
  obtain ⟨x0, x1, x2, x3, x4, x5, x6, x7, x8, x9⟩ := box10 X1.out
  have CI : Hid (∀ x, Calls Try.prog 46 #[.agg #[.int .i64 ve, .int .i64 vl, .int .i64 (m : Int), .int .i64 vk, .int .i64 vp, .int .i64 vn, .int .i64 (p : Int), .int .i64 vz, .string vb, .string va]] x fun e w' => e = .returned (.bool (decide (vk = 2 ∨ vk = 3))) ∧ Below x.heap.size x w') := fun x => c_isChange _ _ _ _ _ _ _ _ _ _ x
  have cT := A1.out.cell (show 8 + m < 69 by omega)
  have tT := Box.thaw A1.out (8 + m)
  by_cases k45 : vk = 4 ∨ vk = 5
  · have EM : Hid (anM g ⟨ve, vl, (m : Int), vk, vp, vn, (p : Int), vz, vb, va⟩ = updN (updN g (8 + m) vl) (8 + m) 0) := by
      unfold Hid anM
      rw [if_neg (show ¬ ((vk = 2 ∨ vk = 3) ∧ g ((p : Int)).toNat = 0) by omega)]
      have e5 : endK vk = true := by unfold endK; rcases k45 with h | h <;> subst h <;> rfl
      simp only [e5, if_true, Int.toNat_natCast]
      funext i
      unfold updN
      split <;> rfl
    have CF : Hid (∀ x, Calls Try.prog 46 #[.agg #[.int .i64 ve, .int .i64 vl, .int .i64 (m : Int), .int .i64 vk, .int .i64 vp, .int .i64 vn, .int .i64 (p : Int), .int .i64 vz, .string vb, .string va]] x fun e w' => e = .returned (.bool false) ∧ Below x.heap.size x w') := fun x => by
      have := CI.out x
      rwa [decide_eq_false (show ¬ (vk = 2 ∨ vk = 3) by omega)] at this
    have c45 : ((vk == 4) = true) ∨ ((vk == 4) = false ∧ (vk == 5) = true) := by
      rcases k45 with h | h
      · exact .inl (by simpa using h)
      · exact .inr ⟨by simp; omega, by simpa using h⟩
    clear k45 CI
    rcases c45 with c4 | ⟨c4, c5⟩
    all_goals
      go_wp2_with fail
      go_region
      obtain ⟨D2, hD2⟩ : ∃ Q, (D.setCell ⟨B, 8 + m, none⟩ (.int .i64 0)).drew = Q := ⟨_, rfl⟩
      have A2 : Hid (AnB D2 B (updN (updN g (8 + m) vl) (8 + m) 0)) := by unfold Hid; rw [← hD2]; exact A1.out.set (by omega) 0
      have X2 : Hid (Box D2 w.heap.size 43 #[.int .i64 ve, .int .i64 vl, .int .i64 (m : Int), .int .i64 vk, .int .i64 vp, .int .i64 vn, .int .i64 (p : Int), .int .i64 vz, .string vb, .string va]) := by unfold Hid; rw [← hD2]; exact X1.out.setOther ⟨B, 8 + m, none⟩ (.int .i64 0) (by simp; omega)
      have B2 : Hid (Below B w D2) := by unfold Hid; rw [← hD2]; exact (B1.out.setCell (Nat.le_refl _) _).drew
      rw [hD2]
      clear hD2 A1 X1 B1 x0 x1 x2 x3 x4 x5 x6 x7 x8 x9 cT tT
      obtain ⟨x0, x1, x2, x3, x4, x5, x6, x7, x8, x9⟩ := box10 X2.out
      have cP := A2.out.cell (show p < 69 by omega)
      go_wp2_with fail
      have qx0 := fun r : Out D2 => q_cell x0 r
      have qx1 := fun r : Out D2 => q_cell x1 r
      have qx2 := fun r : Out D2 => q_cell x2 r
      have qx3 := fun r : Out D2 => q_cell x3 r
      have qx4 := fun r : Out D2 => q_cell x4 r
      have qx5 := fun r : Out D2 => q_cell x5 r
      have qx6 := fun r : Out D2 => q_cell x6 r
      have qx7 := fun r : Out D2 => q_cell x7 r
      have qx8 := fun r : Out D2 => q_cell x8 r
      have qx9 := fun r : Out D2 => q_cell x9 r
      have qcp := fun r : Out D2 => q_cell cP r
      clear x0 x1 x2 x3 x4 x5 x6 x7 x8 x9 cP
      haveI nx := Out.some D2
      refine q_begin (by kernel_rfl) (by kernel_rfl) ?_
      repeat (go_big_quiet_step (exact q_call (CF.out _)))
      refine wpQuiet_nil ?_
      rintro w3 ⟨⟨y', hb3⟩, hy⟩
      have hy' : w3 = y' := hy
      clear hy
      subst hy'
      have b3 : Below D2.heap.size D2 w3 := hb3
      clear qx0 qx1 qx2 qx3 qx4 qx5 qx6 qx7 qx8 qx9 qcp nx
      have A3 : Hid (AnB w3 B _) := Box.belowS A2.out b3
      have B3 : Hid (Below B w w3) := B2.out.trans (b3.mono (Nat.le_of_lt (Box.lt A2.out)))
      clear hb3 b3
      go_wp2
      go_end0
      exact ⟨rfl, by rw [EM.out]; exact A3.out, B3.out⟩
  have c4 : (vk == 4) = false := by simp; omega
  have c5 : (vk == 5) = false := by simp; omega
  have e5 : endK vk = false := by unfold endK; rw [decide_eq_false (show ¬ vk = 4 by omega), decide_eq_false (show ¬ vk = 5 by omega)]; rfl
  have cP := A1.out.cell (show p < 69 by omega)
  have tP := Box.thaw A1.out p
  rw [updN_ne _ _ (show p ≠ 8 + m by omega)] at cP
  by_cases k23 : vk = 2 ∨ vk = 3
  case neg =>
    have EM : Hid (anM g ⟨ve, vl, (m : Int), vk, vp, vn, (p : Int), vz, vb, va⟩ = updN g (8 + m) vl) := by
      unfold Hid anM
      rw [if_neg (show ¬ ((vk = 2 ∨ vk = 3) ∧ g ((p : Int)).toNat = 0) by omega)]
      simp only [e5, Bool.false_eq_true, if_false, Int.toNat_natCast]
    have CF : Hid (∀ x, Calls Try.prog 46 #[.agg #[.int .i64 ve, .int .i64 vl, .int .i64 (m : Int), .int .i64 vk, .int .i64 vp, .int .i64 vn, .int .i64 (p : Int), .int .i64 vz, .string vb, .string va]] x fun e w' => e = .returned (.bool false) ∧ Below x.heap.size x w') := fun x => by
      have := CI.out x
      rwa [decide_eq_false k23] at this
    have A2 : Hid (AnB D B (updN g (8 + m) vl)) := A1
    have B2 : Hid (Below B w D) := B1
    have lD : Hid (B < D.heap.size) := A1.out.lt
    clear k45 k23 e5 CI A1 B1
    go_wp2_with fail
    have qx0 := fun r : Out D => q_cell x0 r
    have qx1 := fun r : Out D => q_cell x1 r
    have qx2 := fun r : Out D => q_cell x2 r
    have qx3 := fun r : Out D => q_cell x3 r
    have qx4 := fun r : Out D => q_cell x4 r
    have qx5 := fun r : Out D => q_cell x5 r
    have qx6 := fun r : Out D => q_cell x6 r
    have qx7 := fun r : Out D => q_cell x7 r
    have qx8 := fun r : Out D => q_cell x8 r
    have qx9 := fun r : Out D => q_cell x9 r
    have qcp := fun r : Out D => q_cell cP r
    clear x0 x1 x2 x3 x4 x5 x6 x7 x8 x9 cP
    haveI nx := Out.some D
    refine q_begin (by kernel_rfl) (by kernel_rfl) ?_
    repeat (go_big_quiet_step (exact q_call (CF.out _)))
    refine wpQuiet_nil ?_
    rintro w3 ⟨⟨y', hb3⟩, hy⟩
    have hy' : w3 = y' := hy
    clear hy
    subst hy'
    have b3 : Below D.heap.size D w3 := hb3
    clear qx0 qx1 qx2 qx3 qx4 qx5 qx6 qx7 qx8 qx9 qcp nx
    have A3 : Hid (AnB w3 B _) := Box.belowS A2.out b3
    have B3 : Hid (Below B w w3) := B2.out.trans (b3.mono (Nat.le_of_lt (Box.lt A2.out)))
    clear hb3 b3
    go_wp2
    go_end0
    exact ⟨rfl, by rw [EM.out]; exact A3.out, B3.out⟩
  have CF : Hid (∀ x, Calls Try.prog 46 #[.agg #[.int .i64 ve, .int .i64 vl, .int .i64 (m : Int), .int .i64 vk, .int .i64 vp, .int .i64 vn, .int .i64 (p : Int), .int .i64 vz, .string vb, .string va]] x fun e w' => e = .returned (.bool true) ∧ Below x.heap.size x w') := fun x => by
    have := CI.out x
    rwa [decide_eq_true k23] at this
  by_cases h0 : g p = 0
  case neg =>
    have EM : Hid (anM g ⟨ve, vl, (m : Int), vk, vp, vn, (p : Int), vz, vb, va⟩ = updN g (8 + m) vl) := by
      unfold Hid anM
      rw [if_neg (show ¬ ((vk = 2 ∨ vk = 3) ∧ g ((p : Int)).toNat = 0) by rw [Int.toNat_natCast]; exact fun h => h0 h.2)]
      simp only [e5, Bool.false_eq_true, if_false, Int.toNat_natCast]
    have c6 : (g p == 0) = false := by simpa using h0
    have c7 : decide (g p = 0) = false := decide_eq_false h0
    have A2 : Hid (AnB D B (updN g (8 + m) vl)) := A1
    have B2 : Hid (Below B w D) := B1
    clear k45 k23 e5 CI A1 B1 h0
    go_wp2_with fail
    have qx0 := fun r : Out D => q_cell x0 r
    have qx1 := fun r : Out D => q_cell x1 r
    have qx2 := fun r : Out D => q_cell x2 r
    have qx3 := fun r : Out D => q_cell x3 r
    have qx4 := fun r : Out D => q_cell x4 r
    have qx5 := fun r : Out D => q_cell x5 r
    have qx6 := fun r : Out D => q_cell x6 r
    have qx7 := fun r : Out D => q_cell x7 r
    have qx8 := fun r : Out D => q_cell x8 r
    have qx9 := fun r : Out D => q_cell x9 r
    have qcp := fun r : Out D => q_cell cP r
    clear x0 x1 x2 x3 x4 x5 x6 x7 x8 x9 cP
    haveI nx := Out.some D
    refine q_begin (by kernel_rfl) (by kernel_rfl) ?_
    repeat (go_big_quiet_step (exact q_call (CF.out _)))
    refine wpQuiet_nil ?_
    rintro w3 ⟨⟨y', hb3⟩, hy⟩
    have hy' : w3 = y' := hy
    clear hy
    subst hy'
    have b3 : Below D.heap.size D w3 := hb3
    clear qx0 qx1 qx2 qx3 qx4 qx5 qx6 qx7 qx8 qx9 qcp nx
    have A3 : Hid (AnB w3 B _) := Box.belowS A2.out b3
    have B3 : Hid (Below B w w3) := B2.out.trans (b3.mono (Nat.le_of_lt (Box.lt A2.out)))
    clear hb3 b3
    go_wp2
    go_end0
    exact ⟨rfl, by rw [EM.out]; exact A3.out, B3.out⟩
  have EM : Hid (anM g ⟨ve, vl, (m : Int), vk, vp, vn, (p : Int), vz, vb, va⟩ = updN (updN g (8 + m) vl) p vl) := by
    unfold Hid anM
    rw [if_pos (show ((vk = 2 ∨ vk = 3) ∧ g ((p : Int)).toNat = 0) by rw [Int.toNat_natCast]; exact ⟨k23, h0⟩)]
    simp only [e5, Bool.false_eq_true, if_false, Int.toNat_natCast]
  have c6 : (g p == 0) = true := by simpa using h0
  have c7 : decide (g p = 0) = true := decide_eq_true h0
  clear k45 k23 e5 CI h0
  go_wp2_with fail
  have qx0 := fun r : Out D => q_cell x0 r
  have qx1 := fun r : Out D => q_cell x1 r
  have qx2 := fun r : Out D => q_cell x2 r
  have qx3 := fun r : Out D => q_cell x3 r
  have qx4 := fun r : Out D => q_cell x4 r
  have qx5 := fun r : Out D => q_cell x5 r
  have qx6 := fun r : Out D => q_cell x6 r
  have qx7 := fun r : Out D => q_cell x7 r
  have qx8 := fun r : Out D => q_cell x8 r
  have qx9 := fun r : Out D => q_cell x9 r
  have qcp := fun r : Out D => q_cell cP r
  clear x0 x1 x2 x3 x4 x5 x6 x7 x8 x9 cP
  haveI nx := Out.some D
  refine q_begin (by kernel_rfl) (by kernel_rfl) ?_
  repeat (go_big_quiet_step (exact q_call (CF.out _)))
  refine wpQuiet_nil ?_
  rintro w3 ⟨⟨y', hb3⟩, hy⟩
  have hy' : w3 = y' := hy
  clear hy
  subst hy'
  have b3 : Below D.heap.size D w3 := hb3
  clear qx0 qx1 qx2 qx3 qx4 qx5 qx6 qx7 qx8 qx9 qcp nx
  have A3 : Hid (AnB w3 B _) := Box.belowS A1.out b3
  have B3 : Hid (Below B w w3) := B1.out.trans (b3.mono (Nat.le_of_lt (Box.lt A1.out)))
  have X3 : Hid (Box w3 w.heap.size 43 #[.int .i64 ve, .int .i64 vl, .int .i64 (m : Int), .int .i64 vk, .int .i64 vp, .int .i64 vn, .int .i64 (p : Int), .int .i64 vz, .string vb, .string va]) := X1.out.belowS b3
  clear hb3 b3 tP cT tT
  obtain ⟨x0, x1, x2, x3, x4, x5, x6, x7, x8, x9⟩ := box10 X3.out
  have cP := A3.out.cell (show p < 69 by omega)
  have tP := Box.thaw A3.out p
  go_wp2_with fail
  go_region
  have A4 := A3.out.set (show p < 69 by omega) vl
  have B4 : Below B w (w3.setCell ⟨B, p, none⟩ (.int .i64 vl)).drew := (B3.out.setCell (Nat.le_refl _) (.int .i64 vl)).drew
  have A5 : Hid (AnB (w3.setCell ⟨B, p, none⟩ (.int .i64 vl)).drew B _) := A4
  have B5 : Hid (Below B w (w3.setCell ⟨B, p, none⟩ (.int .i64 vl)).drew) := B4
  clear A4 B4 cP tP x0 x1 x2 x3 x4 x5 x6 x7 x8 x9 A3 B3 X3
  go_wp2
  go_end0
  exact ⟨rfl, by rw [EM.out]; exact A5.out, B5.out⟩

end Go.Proofs.Ytimdoaehlciecaa
