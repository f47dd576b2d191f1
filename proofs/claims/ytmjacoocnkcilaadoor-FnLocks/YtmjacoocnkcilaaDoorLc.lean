/-
  What a right lock is, on both sides.
-/
import Derived.Test.YtmjacoocnkcilaaDoorLb
namespace Go.Proofs.YtmjacoocnkcilaaDoor
open Go Go.RowKit
attribute [local go_sem ↓] Go.wp_at_zero Go.wp_at_succ

def okK (k : LK) : Bool := inB k.x 1 60 && inB k.b 1 3 && inB k.r (-1) 1000 && inB k.m 1 4 && (decide (k.r = -1) || decide (3 ≤ k.m))
theorem okK_no1 {x b r m : Int} (h : inB x 1 60 = false) : okK ⟨x, b, r, m⟩ = false := by simp [okK, h]
theorem okK_no2 {x b r m : Int} (h : inB b 1 3 = false) : okK ⟨x, b, r, m⟩ = false := by simp [okK, h]
theorem okK_no3 {x b r m : Int} (h : inB m 1 4 = false) : okK ⟨x, b, r, m⟩ = false := by simp [okK, h]
theorem okK_no4 {x b r m : Int} (h : r < -1 ∨ 1000 < r) : okK ⟨x, b, r, m⟩ = false := by
  have : inB r (-1) 1000 = false := by unfold inB; exact decide_eq_false (by omega)
  simp [okK, this]
theorem okK_yes {x b r m : Int} (h1 : inB x 1 60 = true) (h2 : inB b 1 3 = true) (h3 : inB m 1 4 = true) (h4 : -1 ≤ r ∧ r ≤ 1000) : okK ⟨x, b, r, m⟩ = (decide (r = -1) || decide (3 ≤ m)) := by
  have : inB r (-1) 1000 = true := by unfold inB; exact decide_eq_true h4
  simp [okK, this, h1, h2, h3]
theorem inB_iff {x lo hi : Int} : inB x lo hi = true ↔ lo ≤ x ∧ x ≤ hi := by unfold inB; exact decide_eq_true_iff
set_option maxRecDepth 100000 in
set_option maxHeartbeats 4000000 in
theorem c_isLock (x b r m : Int) (w : World) :
    Calls Tryd.prog 53 #[.agg #[.int .i64 x, .int .i64 b, .int .i64 r, .int .i64 m]] w fun e w' => e = .returned (.bool (okK ⟨x, b, r, m⟩)) ∧ Below w.heap.size w w' := by
  obtain ⟨p1, h1⟩ : ∃ p, inB x 1 60 = p := ⟨_, rfl⟩
  obtain ⟨p2, h2⟩ : ∃ p, inB b 1 3 = p := ⟨_, rfl⟩
  obtain ⟨p3, h3⟩ : ∃ p, inB m 1 4 = p := ⟨_, rfl⟩
  have C1 : Hid (∀ W : World, Calls Tryd.prog 56 #[.int .i64 x] W fun e w' => e = .returned (.bool p1) ∧ w' = W) := fun W => by rw [← h1]; exact c_isTx x W
  have C2 : Hid (∀ W : World, Calls Tryd.prog 83 #[.int .i64 b] W fun e w' => e = .returned (.bool p2) ∧ w' = W) := fun W => by rw [← h2]; exact c_isTable b W
  have C3 : Hid (∀ W : World, Calls Tryd.prog 41 #[.int .i64 m] W fun e w' => e = .returned (.bool p3) ∧ w' = W) := fun W => by rw [← h3]; exact c_isMode m W
  cases p1
  · have E : Hid (okK ⟨x, b, r, m⟩ = false) := okK_no1 h1
    go_enter Tryd.func53, Tryd.ntmps53
    go_wp2_with (first | (go_at_call 56; refine (C1.out _).mono ?_; rintro e w1 ⟨rfl, rfl⟩) | (go_at_call 83; refine (C2.out _).mono ?_; rintro e w2 ⟨rfl, rfl⟩) | (go_at_call 41; refine (C3.out _).mono ?_; rintro e w3 ⟨rfl, rfl⟩))
    go_ret
    exact ⟨ret_bool E.out.symm, (Below.refl _ _).alloc (Nat.le_refl _) _⟩
  cases p2
  · have E : Hid (okK ⟨x, b, r, m⟩ = false) := okK_no2 h2
    go_enter Tryd.func53, Tryd.ntmps53
    go_wp2_with (first | (go_at_call 56; refine (C1.out _).mono ?_; rintro e w1 ⟨rfl, rfl⟩) | (go_at_call 83; refine (C2.out _).mono ?_; rintro e w2 ⟨rfl, rfl⟩) | (go_at_call 41; refine (C3.out _).mono ?_; rintro e w3 ⟨rfl, rfl⟩))
    go_ret
    exact ⟨ret_bool E.out.symm, (Below.refl _ _).alloc (Nat.le_refl _) _⟩
  cases p3
  · have E : Hid (okK ⟨x, b, r, m⟩ = false) := okK_no3 h3
    go_enter Tryd.func53, Tryd.ntmps53
    go_wp2_with (first | (go_at_call 56; refine (C1.out _).mono ?_; rintro e w1 ⟨rfl, rfl⟩) | (go_at_call 83; refine (C2.out _).mono ?_; rintro e w2 ⟨rfl, rfl⟩) | (go_at_call 41; refine (C3.out _).mono ?_; rintro e w3 ⟨rfl, rfl⟩))
    go_ret
    exact ⟨ret_bool E.out.symm, (Below.refl _ _).alloc (Nat.le_refl _) _⟩
  by_cases r1 : r < -1
  · have E : Hid (okK ⟨x, b, r, m⟩ = false) := okK_no4 (.inl r1)
    go_enter Tryd.func53, Tryd.ntmps53
    go_wp2_with (first | (go_at_call 56; refine (C1.out _).mono ?_; rintro e w1 ⟨rfl, rfl⟩) | (go_at_call 83; refine (C2.out _).mono ?_; rintro e w2 ⟨rfl, rfl⟩) | (go_at_call 41; refine (C3.out _).mono ?_; rintro e w3 ⟨rfl, rfl⟩))
    go_ret
    exact ⟨ret_bool E.out.symm, (Below.refl _ _).alloc (Nat.le_refl _) _⟩
  by_cases r2 : 1000 < r
  · have E : Hid (okK ⟨x, b, r, m⟩ = false) := okK_no4 (.inr r2)
    go_enter Tryd.func53, Tryd.ntmps53
    go_wp2_with (first | (go_at_call 56; refine (C1.out _).mono ?_; rintro e w1 ⟨rfl, rfl⟩) | (go_at_call 83; refine (C2.out _).mono ?_; rintro e w2 ⟨rfl, rfl⟩) | (go_at_call 41; refine (C3.out _).mono ?_; rintro e w3 ⟨rfl, rfl⟩))
    go_ret
    exact ⟨ret_bool E.out.symm, (Below.refl _ _).alloc (Nat.le_refl _) _⟩
  have Y := okK_yes (r := r) h1 h2 h3 ⟨by omega, by omega⟩
  have hm := inB_iff.1 h3
  clear h1 h2 h3
  by_cases r3 : r = -1
  · subst r3
    have r3 : (-1 : Int) = -1 := rfl
    have E : Hid (okK ⟨x, b, -1, m⟩ = true) := by unfold Hid; rw [Y, decide_eq_true r3]; rfl
    go_enter Tryd.func53, Tryd.ntmps53
    go_wp2_with (first | (go_at_call 56; refine (C1.out _).mono ?_; rintro e w1 ⟨rfl, rfl⟩) | (go_at_call 83; refine (C2.out _).mono ?_; rintro e w2 ⟨rfl, rfl⟩) | (go_at_call 41; refine (C3.out _).mono ?_; rintro e w3 ⟨rfl, rfl⟩))
    go_ret
    exact ⟨ret_bool E.out.symm, (Below.refl _ _).alloc (Nat.le_refl _) _⟩
  have br : (r == -1) = false := by simpa using r3
  by_cases m3 : m = 3
  · subst m3
    have E : Hid (okK ⟨x, b, r, 3⟩ = true) := by unfold Hid; rw [Y, decide_eq_true (show (3 : Int) ≤ 3 by omega), Bool.or_true]
    go_enter Tryd.func53, Tryd.ntmps53
    go_wp2_with (first | (go_at_call 56; refine (C1.out _).mono ?_; rintro e w1 ⟨rfl, rfl⟩) | (go_at_call 83; refine (C2.out _).mono ?_; rintro e w2 ⟨rfl, rfl⟩) | (go_at_call 41; refine (C3.out _).mono ?_; rintro e w3 ⟨rfl, rfl⟩))
    go_ret
    exact ⟨ret_bool E.out.symm, (Below.refl _ _).alloc (Nat.le_refl _) _⟩
  by_cases m4 : m = 4
  · subst m4
    have E : Hid (okK ⟨x, b, r, 4⟩ = true) := by unfold Hid; rw [Y, decide_eq_true (show (3 : Int) ≤ 4 by omega), Bool.or_true]
    go_enter Tryd.func53, Tryd.ntmps53
    go_wp2_with (first | (go_at_call 56; refine (C1.out _).mono ?_; rintro e w1 ⟨rfl, rfl⟩) | (go_at_call 83; refine (C2.out _).mono ?_; rintro e w2 ⟨rfl, rfl⟩) | (go_at_call 41; refine (C3.out _).mono ?_; rintro e w3 ⟨rfl, rfl⟩))
    go_ret
    exact ⟨ret_bool E.out.symm, (Below.refl _ _).alloc (Nat.le_refl _) _⟩
  have m5 : ¬ 3 ≤ m := by omega
  have b3 : (m == 3) = false := by simpa using m3
  have b4 : (m == 4) = false := by simpa using m4
  have E : Hid (okK ⟨x, b, r, m⟩ = false) := by unfold Hid; rw [Y, decide_eq_false r3, decide_eq_false m5]; rfl
  go_enter Tryd.func53, Tryd.ntmps53
  go_wp2_with (first | (go_at_call 56; refine (C1.out _).mono ?_; rintro e w1 ⟨rfl, rfl⟩) | (go_at_call 83; refine (C2.out _).mono ?_; rintro e w2 ⟨rfl, rfl⟩) | (go_at_call 41; refine (C3.out _).mono ?_; rintro e w3 ⟨rfl, rfl⟩))
  go_ret
  exact ⟨ret_bool E.out.symm, (Below.refl _ _).alloc (Nat.le_refl _) _⟩
set_option maxRecDepth 100000 in
set_option maxHeartbeats 4000000 in
theorem c_ask (x b r m : Int) (w : World) :
    Calls Tryd.prog 45 #[.int .i64 x, .int .i64 b, .int .i64 r, .int .i64 m] w fun e w' => e = .returned (.bool (okK ⟨x, b, r, m⟩)) ∧ w' = w := by
  obtain ⟨p1, h1⟩ : ∃ p, inB x 1 60 = p := ⟨_, rfl⟩
  obtain ⟨p2, h2⟩ : ∃ p, inB b 1 3 = p := ⟨_, rfl⟩
  obtain ⟨p3, h3⟩ : ∃ p, inB m 1 4 = p := ⟨_, rfl⟩
  obtain ⟨p4, h4⟩ : ∃ p, inB r (-1) 1000 = p := ⟨_, rfl⟩
  have C1 : Hid (∀ W : World, Calls Tryd.prog 39 #[.int .i64 x, .int .i64 1, .int .i64 60] W fun e w' => e = .returned (.bool p1) ∧ w' = W) := fun W => by rw [← h1]; exact c_in x 1 60 W
  have C2 : Hid (∀ W : World, Calls Tryd.prog 39 #[.int .i64 b, .int .i64 1, .int .i64 3] W fun e w' => e = .returned (.bool p2) ∧ w' = W) := fun W => by rw [← h2]; exact c_in b 1 3 W
  have C3 : Hid (∀ W : World, Calls Tryd.prog 39 #[.int .i64 m, .int .i64 1, .int .i64 4] W fun e w' => e = .returned (.bool p3) ∧ w' = W) := fun W => by rw [← h3]; exact c_in m 1 4 W
  have C4 : Hid (∀ W : World, Calls Tryd.prog 39 #[.int .i64 r, .int .i64 (-1), .int .i64 1000] W fun e w' => e = .returned (.bool p4) ∧ w' = W) := fun W => by rw [← h4]; exact c_in r (-1) 1000 W
  cases p1
  · have E : Hid (okK ⟨x, b, r, m⟩ = false) := okK_no1 h1
    go_enter Tryd.func45, Tryd.ntmps45
    go_wp2_with (first | (go_at_call_of 39 (Value.int IntKind.i64 60); refine (C1.out _).mono ?_; rintro e w1 ⟨rfl, rfl⟩) | (go_at_call_of 39 (Value.int IntKind.i64 1000); refine (C4.out _).mono ?_; rintro e w4 ⟨rfl, rfl⟩) | (go_at_call_of 39 (Value.int IntKind.i64 3); refine (C2.out _).mono ?_; rintro e w2 ⟨rfl, rfl⟩) | (go_at_call_of 39 (Value.int IntKind.i64 4); refine (C3.out _).mono ?_; rintro e w3 ⟨rfl, rfl⟩))
    go_ret
    exact ⟨ret_bool (by first | exact E.out.symm | (rw [E.out]; exact decide_eq_false (by omega))), rfl⟩
  cases p2
  · have E : Hid (okK ⟨x, b, r, m⟩ = false) := okK_no2 h2
    go_enter Tryd.func45, Tryd.ntmps45
    go_wp2_with (first | (go_at_call_of 39 (Value.int IntKind.i64 60); refine (C1.out _).mono ?_; rintro e w1 ⟨rfl, rfl⟩) | (go_at_call_of 39 (Value.int IntKind.i64 1000); refine (C4.out _).mono ?_; rintro e w4 ⟨rfl, rfl⟩) | (go_at_call_of 39 (Value.int IntKind.i64 3); refine (C2.out _).mono ?_; rintro e w2 ⟨rfl, rfl⟩) | (go_at_call_of 39 (Value.int IntKind.i64 4); refine (C3.out _).mono ?_; rintro e w3 ⟨rfl, rfl⟩))
    go_ret
    exact ⟨ret_bool (by first | exact E.out.symm | (rw [E.out]; exact decide_eq_false (by omega))), rfl⟩
  cases p4
  · have E : Hid (okK ⟨x, b, r, m⟩ = false) := by simp [Hid, okK, h4]
    go_enter Tryd.func45, Tryd.ntmps45
    go_wp2_with (first | (go_at_call_of 39 (Value.int IntKind.i64 60); refine (C1.out _).mono ?_; rintro e w1 ⟨rfl, rfl⟩) | (go_at_call_of 39 (Value.int IntKind.i64 1000); refine (C4.out _).mono ?_; rintro e w4 ⟨rfl, rfl⟩) | (go_at_call_of 39 (Value.int IntKind.i64 3); refine (C2.out _).mono ?_; rintro e w2 ⟨rfl, rfl⟩) | (go_at_call_of 39 (Value.int IntKind.i64 4); refine (C3.out _).mono ?_; rintro e w3 ⟨rfl, rfl⟩))
    go_ret
    exact ⟨ret_bool (by first | exact E.out.symm | (rw [E.out]; exact decide_eq_false (by omega))), rfl⟩
  cases p3
  · have E : Hid (okK ⟨x, b, r, m⟩ = false) := okK_no3 h3
    go_enter Tryd.func45, Tryd.ntmps45
    go_wp2_with (first | (go_at_call_of 39 (Value.int IntKind.i64 60); refine (C1.out _).mono ?_; rintro e w1 ⟨rfl, rfl⟩) | (go_at_call_of 39 (Value.int IntKind.i64 1000); refine (C4.out _).mono ?_; rintro e w4 ⟨rfl, rfl⟩) | (go_at_call_of 39 (Value.int IntKind.i64 3); refine (C2.out _).mono ?_; rintro e w2 ⟨rfl, rfl⟩) | (go_at_call_of 39 (Value.int IntKind.i64 4); refine (C3.out _).mono ?_; rintro e w3 ⟨rfl, rfl⟩))
    go_ret
    exact ⟨ret_bool (by first | exact E.out.symm | (rw [E.out]; exact decide_eq_false (by omega))), rfl⟩
  have Y := okK_yes h1 h2 h3 (inB_iff.1 h4)
  clear h1 h2 h3 h4
  by_cases r3 : r = -1
  · subst r3
    have r3 : (-1 : Int) = -1 := rfl
    have E : Hid (okK ⟨x, b, -1, m⟩ = true) := by unfold Hid; rw [Y, decide_eq_true r3]; rfl
    go_enter Tryd.func45, Tryd.ntmps45
    go_wp2_with (first | (go_at_call_of 39 (Value.int IntKind.i64 60); refine (C1.out _).mono ?_; rintro e w1 ⟨rfl, rfl⟩) | (go_at_call_of 39 (Value.int IntKind.i64 1000); refine (C4.out _).mono ?_; rintro e w4 ⟨rfl, rfl⟩) | (go_at_call_of 39 (Value.int IntKind.i64 3); refine (C2.out _).mono ?_; rintro e w2 ⟨rfl, rfl⟩) | (go_at_call_of 39 (Value.int IntKind.i64 4); refine (C3.out _).mono ?_; rintro e w3 ⟨rfl, rfl⟩))
    go_ret
    exact ⟨ret_bool (by first | exact E.out.symm | (rw [E.out]; exact decide_eq_false (by omega))), rfl⟩
  have br : (r == -1) = false := by simpa using r3
  by_cases m3 : 3 ≤ m
  · have E : Hid (okK ⟨x, b, r, m⟩ = true) := by unfold Hid; rw [Y, decide_eq_true m3, Bool.or_true]
    go_enter Tryd.func45, Tryd.ntmps45
    go_wp2_with (first | (go_at_call_of 39 (Value.int IntKind.i64 60); refine (C1.out _).mono ?_; rintro e w1 ⟨rfl, rfl⟩) | (go_at_call_of 39 (Value.int IntKind.i64 1000); refine (C4.out _).mono ?_; rintro e w4 ⟨rfl, rfl⟩) | (go_at_call_of 39 (Value.int IntKind.i64 3); refine (C2.out _).mono ?_; rintro e w2 ⟨rfl, rfl⟩) | (go_at_call_of 39 (Value.int IntKind.i64 4); refine (C3.out _).mono ?_; rintro e w3 ⟨rfl, rfl⟩))
    go_ret
    exact ⟨ret_bool (by first | exact E.out.symm | (rw [E.out]; exact decide_eq_false (by omega))), rfl⟩
  have E : Hid (okK ⟨x, b, r, m⟩ = false) := by unfold Hid; rw [Y, decide_eq_false r3, decide_eq_false m3]; rfl
  go_enter Tryd.func45, Tryd.ntmps45
  go_wp2_with (first | (go_at_call_of 39 (Value.int IntKind.i64 60); refine (C1.out _).mono ?_; rintro e w1 ⟨rfl, rfl⟩) | (go_at_call_of 39 (Value.int IntKind.i64 1000); refine (C4.out _).mono ?_; rintro e w4 ⟨rfl, rfl⟩) | (go_at_call_of 39 (Value.int IntKind.i64 3); refine (C2.out _).mono ?_; rintro e w2 ⟨rfl, rfl⟩) | (go_at_call_of 39 (Value.int IntKind.i64 4); refine (C3.out _).mono ?_; rintro e w3 ⟨rfl, rfl⟩))
  go_ret
  exact ⟨ret_bool (by first | exact E.out.symm | (rw [E.out]; exact decide_eq_false (by omega))), rfl⟩
set_option maxRecDepth 100000 in
set_option maxHeartbeats 4000000 in
theorem c_fit (a b : Int) (w : World) : Calls Tryd.prog 40 #[.int .i64 a, .int .i64 b] w fun e w' => e = .returned (.bool (fitB a b)) ∧ w' = w := by
  by_cases a4 : a = 4
  · have E : Hid (fitB a b = false) := by unfold Hid fitB; rw [if_pos (.inl a4)]
    go_enter Tryd.func40, Tryd.ntmps40
    go_wp2
    go_ret
    exact ⟨ret_bool E.out.symm, rfl⟩
  have q1 : (a == 4) = false := by simpa using a4
  by_cases b4 : b = 4
  · have E : Hid (fitB a b = false) := by unfold Hid fitB; rw [if_pos (.inr b4)]
    go_enter Tryd.func40, Tryd.ntmps40
    go_wp2
    go_ret
    exact ⟨ret_bool E.out.symm, rfl⟩
  have q2 : (b == 4) = false := by simpa using b4
  by_cases a1 : a = 1
  · have E : Hid (fitB a b = true) := by unfold Hid fitB; rw [if_neg (fun h => h.elim a4 b4), if_pos (.inl a1)]
    go_enter Tryd.func40, Tryd.ntmps40
    go_wp2
    go_ret
    exact ⟨ret_bool E.out.symm, rfl⟩
  have q3 : (a == 1) = false := by simpa using a1
  by_cases b1 : b = 1
  · have E : Hid (fitB a b = true) := by unfold Hid fitB; rw [if_neg (fun h => h.elim a4 b4), if_pos (.inr b1)]
    go_enter Tryd.func40, Tryd.ntmps40
    go_wp2
    go_ret
    exact ⟨ret_bool E.out.symm, rfl⟩
  have q4 : (b == 1) = false := by simpa using b1
  by_cases ab : a = b
  · have E : Hid (fitB a b = true) := by unfold Hid fitB; rw [if_neg (fun h => h.elim a4 b4), if_neg (fun h => h.elim a1 b1), decide_eq_true ab]
    go_enter Tryd.func40, Tryd.ntmps40
    go_wp2
    go_ret
    exact ⟨ret_bool E.out.symm, rfl⟩
  · have q5 : (a == b) = false := by simpa using ab
    have E : Hid (fitB a b = false) := by unfold Hid fitB; rw [if_neg (fun h => h.elim a4 b4), if_neg (fun h => h.elim a1 b1), decide_eq_false ab]
    go_enter Tryd.func40, Tryd.ntmps40
    go_wp2
    go_ret
    exact ⟨ret_bool E.out.symm, rfl⟩

end Go.Proofs.YtmjacoocnkcilaaDoor
