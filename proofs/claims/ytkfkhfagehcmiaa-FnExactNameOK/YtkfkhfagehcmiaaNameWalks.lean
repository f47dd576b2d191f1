/-
  The walks of NameOK: the program's and the specification's both answer 'a letter or _, then letters, digits and _, of 1 to 40 bytes'.
-/
import Derived.Test.YtkfkhfagehcmiaaRows
import Derived.WalkKit
import Derived.WalkSpells
import Derived.WalkLawsBesides
namespace Go.Proofs.Ytkfkhfagehcmiaa.NA
open Go Go.RowKit
def intOf : Value → Int | .int _ q => q | _ => 0

def letB (c : Int) : Bool := decide (97 ≤ c ∧ c ≤ 122 ∨ 65 ≤ c ∧ c ≤ 90 ∨ c = 95)
def digB (c : Int) : Bool := decide (48 ≤ c ∧ c ≤ 57)

theorem ret_bool {a b : Bool} (h : a = b) : Ending.returned (.bool a) = .returned (.bool b) := by rw [h]

theorem c11 (c : Int) (w : World) : Calls Try.prog 76 #[.int .u8 c] w fun e w' => e = .returned (.bool (decide (97 ≤ c ∧ c ≤ 122))) ∧ w' = w := by
  by_cases h1 : 97 ≤ c <;> by_cases h2 : c ≤ 122
  all_goals
    go_enter Try.func76, Try.ntmps76
    go_wp2
    go_ret
    exact ⟨ret_bool (by simp [h1, h2]), rfl⟩

theorem c7 (c : Int) (w : World) : Calls Try.prog 52 #[.int .u8 c] w fun e w' => e = .returned (.bool (digB c)) ∧ w' = w := by
  by_cases h1 : 48 ≤ c <;> by_cases h2 : c ≤ 57
  all_goals
    go_enter Try.func52, Try.ntmps52
    go_wp2
    go_ret
    exact ⟨ret_bool (by simp [digB, h1, h2]), rfl⟩

theorem c10 (c : Int) (w : World) : Calls Try.prog 78 #[.int .u8 c] w fun e w' => e = .returned (.bool (digB c)) ∧ w' = w := by
  by_cases h1 : 48 ≤ c <;> by_cases h2 : c ≤ 57
  all_goals
    go_enter Try.func78, Try.ntmps78
    go_wp2
    go_ret
    exact ⟨ret_bool (by simp [digB, h1, h2]), rfl⟩

theorem c9 (c : Int) (w : World) : Calls Try.prog 77 #[.int .u8 c] w fun e w' => e = .returned (.bool (letB c)) ∧ w' = w := by
  by_cases h1 : 97 ≤ c <;> by_cases h2 : c ≤ 122 <;> by_cases h3 : 65 ≤ c <;> by_cases h4 : c ≤ 90 <;> try omega
  all_goals
    go_enter Try.func77, Try.ntmps77
    go_wp2
    go_ret
    exact ⟨ret_bool (by rw [Bool.eq_iff_iff]; simp [letB]; omega), rfl⟩

theorem c8 (c : Int) (w : World) : Calls Try.prog 53 #[.int .u8 c] w fun e w' => e = .returned (.bool (letB c)) ∧ w' = w := by
  by_cases h1 : 97 ≤ c <;> by_cases h2 : c ≤ 122 <;> by_cases h3 : 65 ≤ c <;> by_cases h4 : c ≤ 90 <;> try omega
  all_goals
    go_enter Try.func53, Try.ntmps53
    go_wp2
    go_ret
    exact ⟨ret_bool (by rw [Bool.eq_iff_iff]; simp [letB]; omega), rfl⟩

/-- What both answer: the place k on. -/
def okB (c : Int) : Bool := letB c || digB c
def by8 (s : ByteArray) (i : Nat) : Int := ((s.data.toList.getD i 0).toNat : Int)
theorem by8_eq (s : ByteArray) (i : Nat) (h : i < s.size) : by8 s i = ((s[i]'h).toNat : Int) := by
  have h' : i < s.data.toList.length := by simpa using h
  unfold by8
  rw [List.getD_eq_getElem?_getD, List.getElem?_eq_getElem h']
  rfl
def allB (s : ByteArray) (k : Nat) : Bool := (List.range k).all fun i => okB (by8 s i)
theorem allB_zero (s : ByteArray) : allB s 0 = true := rfl
theorem allB_succ {s : ByteArray} {k : Nat} (h : allB s k = true) (h' : okB (by8 s k) = true) : allB s (k + 1) = true := by
  unfold allB at *; rw [List.range_succ, List.all_append, h]; simp [h']
def nameB (s : ByteArray) : Bool := decide (1 ≤ s.size ∧ s.size ≤ 40 ∧ digB (by8 s 0) = false ∧ allB s s.size = true)
theorem name_yes {s : ByteArray} (h0 : ¬ s.size = 0) (h1 : ¬ 40 < s.size) (h2 : digB (by8 s 0) = false) (h3 : allB s s.size = true) : nameB s = true := by
  unfold nameB; rw [decide_eq_true_iff]; exact ⟨by omega, by omega, h2, h3⟩
theorem name_no0 {s : ByteArray} (h0 : s.size = 0) : nameB s = false := by
  unfold nameB; rw [decide_eq_false_iff_not]; rintro ⟨h, _⟩; omega
theorem name_no1 {s : ByteArray} (h0 : 40 < s.size) : nameB s = false := by
  unfold nameB; rw [decide_eq_false_iff_not]; rintro ⟨_, h, _⟩; omega
theorem name_no2 {s : ByteArray} (h0 : digB (by8 s 0) = true) : nameB s = false := by
  unfold nameB; rw [decide_eq_false_iff_not]; rintro ⟨_, _, h, _⟩; rw [h] at h0; cases h0
theorem name_no3 {s : ByteArray} (i : Nat) (hi : i < s.size) (h0 : okB (by8 s i) = false) : nameB s = false := by
  unfold nameB; rw [decide_eq_false_iff_not]; rintro ⟨_, _, _, h⟩; unfold allB at h; rw [List.all_eq_true] at h; have := h i (by simpa using hi); rw [this] at h0; cases h0

set_option maxHeartbeats 400000 in
theorem c5 (s : ByteArray) (w : World) (hs : s.size ≤ maxLen) :
    Calls Try.prog 20 #[.string s] w fun e w' => e = .returned (.bool (nameB s)) ∧ w' = w := by
  unfold maxLen at hs
  by_cases h0 : s.size = 0
  · have e0 : ((s.size : Int) == 0) = true := by simp [h0]
    go_enter Try.func20, Try.ntmps20
    go_wp2
    go_ret
    exact ⟨ret_bool (name_no0 h0).symm, rfl⟩
  · have e0 : ((s.size : Int) == 0) = false := by simp [h0]
    by_cases h1 : 40 < s.size
    · go_enter Try.func20, Try.ntmps20
      go_wp2
      go_ret
      exact ⟨ret_bool (name_no1 h1).symm, rfl⟩
    · have HD : Hid (by8 s 0 = ((s[0]'(by omega)).toNat : Int)) := by8_eq s 0 (by omega)
      cases hd : digB ((s[0]'(by omega)).toNat : Int)
      · go_enter Try.func20, Try.ntmps20
        go_wp2_with (go_at_call 52; refine (c7 _ _).mono ?_; rintro e w' ⟨rfl, rfl⟩)
        go_loop [19] (fun i => ∃ k : Nat, k ≤ s.size ∧ i = .int .i64 k ∧ Hid (allB s k = true)) (fun i => s.size - (intOf i).toNat)
        case atStart => exact ⟨0, Nat.zero_le _, rfl, allB_zero s⟩
        case round =>
          obtain ⟨k, hk, rfl, hall⟩ := hrel
          by_cases hlt : k < s.size
          · have HK : Hid (by8 s k = ((s[k]'hlt).toNat : Int)) := by8_eq s k hlt
            cases h2 : letB ((s[k]'hlt).toNat : Int) <;> cases h3 : digB ((s[k]'hlt).toNat : Int)
            all_goals
              go_wp2_with (first | (go_at_call 53; refine (c8 _ _).mono ?_; rintro e w' ⟨rfl, rfl⟩) | (go_at_call 52; refine (c7 _ _).mono ?_; rintro e w' ⟨rfl, rfl⟩))
            · go_ret
              exact ⟨ret_bool (name_no3 k hlt (by unfold okB; rw [HK.out, h2, h3]; rfl)).symm, rfl⟩
            all_goals
              go_round
              case rel => exact ⟨k + 1, by omega, by go_num, allB_succ hall.out (by unfold okB; rw [HK.out, h2, h3]; rfl)⟩
              case measure => simp [intOf]; omega
          · go_wp2
            go_ret
            have e : k = s.size := by omega
            subst e
            exact ⟨ret_bool (name_yes h0 h1 (by rw [HD.out]; exact hd) hall.out).symm, rfl⟩
      · go_enter Try.func20, Try.ntmps20
        go_wp2_with (go_at_call 52; refine (c7 _ _).mono ?_; rintro e w' ⟨rfl, rfl⟩)
        go_ret
        exact ⟨ret_bool (name_no2 (by rw [HD.out]; exact hd)).symm, rfl⟩

theorem let_dig {c : Int} (h : letB c = true) : digB c = false := by
  unfold letB at h; unfold digB; simp at *; omega
theorem name_no4 {s : ByteArray} (h0 : 0 < s.size) (h : letB (by8 s 0) = false) : nameB s = false := by
  cases hd : digB (by8 s 0)
  · exact name_no3 0 h0 (by unfold okB; rw [h, hd]; rfl)
  · exact name_no2 hd

set_option maxHeartbeats 400000 in
theorem c6 (s : ByteArray) (w : World) (hs : s.size ≤ maxLen) :
    Calls Try.prog 51 #[.string s] w fun e w' => e = .returned (.bool (nameB s)) ∧ w' = w := by
  unfold maxLen at hs
  by_cases h0 : s.size < 1
  · go_enter Try.func51, Try.ntmps51
    go_wp2
    go_ret
    exact ⟨ret_bool (name_no0 (by omega)).symm, rfl⟩
  · by_cases h1 : 40 < s.size
    · go_enter Try.func51, Try.ntmps51
      go_wp2
      go_ret
      exact ⟨ret_bool (name_no1 h1).symm, rfl⟩
    · have HD : Hid (by8 s 0 = ((s[0]'(by omega)).toNat : Int)) := by8_eq s 0 (by omega)
      cases hd : letB ((s[0]'(by omega)).toNat : Int)
      · go_enter Try.func51, Try.ntmps51
        go_wp2_with (go_at_call 77; refine (c9 _ _).mono ?_; rintro e w' ⟨rfl, rfl⟩)
        go_ret
        exact ⟨ret_bool (name_no4 (by omega) (by rw [HD.out]; exact hd)).symm, rfl⟩
      · go_enter Try.func51, Try.ntmps51
        go_wp2_with (go_at_call 77; refine (c9 _ _).mono ?_; rintro e w' ⟨rfl, rfl⟩)
        go_loop [3] (fun i => ∃ k : Nat, 1 ≤ k ∧ k ≤ s.size ∧ i = .int .i64 k ∧ Hid (allB s k = true)) (fun i => s.size - (intOf i).toNat)
        case atStart => exact ⟨1, by omega, by omega, rfl, allB_succ (allB_zero s) (by unfold okB; rw [HD.out, hd]; rfl)⟩
        case round =>
          obtain ⟨k, hk1, hk, rfl, hall⟩ := hrel
          by_cases hlt : k < s.size
          · have HK : Hid (by8 s k = ((s[k]'hlt).toNat : Int)) := by8_eq s k hlt
            cases h2 : letB ((s[k]'hlt).toNat : Int) <;> cases h3 : digB ((s[k]'hlt).toNat : Int)
            all_goals
              go_wp2_with (first | (go_at_call 77; refine (c9 _ _).mono ?_; rintro e w' ⟨rfl, rfl⟩) | (go_at_call 78; refine (c10 _ _).mono ?_; rintro e w' ⟨rfl, rfl⟩))
            · go_ret
              exact ⟨ret_bool (name_no3 k hlt (by unfold okB; rw [HK.out, h2, h3]; rfl)).symm, rfl⟩
            all_goals
              go_round
              case rel => exact ⟨k + 1, by omega, by omega, by go_num, allB_succ hall.out (by unfold okB; rw [HK.out, h2, h3]; rfl)⟩
              case measure => simp [intOf]; omega
          · go_wp2
            go_ret
            have e : k = s.size := by omega
            subst e
            exact ⟨ret_bool (name_yes (by omega) h1 (by rw [HD.out]; exact let_dig hd) hall.out).symm, rfl⟩

theorem c4 (s : ByteArray) (w : World) (hs : s.size ≤ maxLen) :
    Calls Try.prog 19 #[.string s] w fun e w' => e = .returned (.bool (nameB s)) ∧ w' = w := by
  go_enter Try.func19, Try.ntmps19
  go_wp2_with (go_at_call 51; refine (c6 _ _ hs).mono ?_; rintro e w' ⟨rfl, rfl⟩)
  go_ret
  exact ⟨rfl, rfl⟩

theorem c3 (s : ByteArray) (w : World) (hs : s.size ≤ maxLen) :
    Calls Try.prog 5 #[.string s] w fun e w' => e = .returned (.bool true) ∧ w' = w := by
  by_cases h : 1048576 < s.size
  · unfold maxLen at hs
    go_enter Try.func5, Try.ntmps5
    go_wp2
    go_ret
    exact ⟨rfl, rfl⟩
  · have hs' := hs
    unfold maxLen at hs'
    go_enter Try.func5, Try.ntmps5
    go_wp2_with (first | (go_at_call 19; refine (c4 _ _ hs).mono ?_; rintro e w' ⟨rfl, rfl⟩) | (go_at_call 20; refine (c5 _ _ hs).mono ?_; rintro e w' ⟨rfl, rfl⟩))
    go_ret
    exact ⟨rfl, rfl⟩
end Go.Proofs.Ytkfkhfagehcmiaa.NA
