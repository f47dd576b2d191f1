/-
  The walks of ValueOK: the program's and the specification's both say 'nothing, a number within bounds, or a word of at most ten small letters, and nothing else in the other fields'.
-/
import Derived.Test.YtbpfpjmjmkpjoaaGreatDoorBa
import Derived.WalkKit
import Derived.WalkSpells
import Derived.WalkLawsBesides
namespace Go.Proofs.YtbpfpjmjmkpjoaaGreatDoor
open Go Go.RowKit

theorem wrap64_byte (c : UInt8) : wrap64 (c.toNat : Int) = (c.toNat : Int) := by have := c.toNat_lt; unfold wrap64; omega
def lowB (c : Int) : Bool := decide (97 ≤ c ∧ c ≤ 122)
def by8 (s : ByteArray) (i : Nat) : Int := ((s.data.toList.getD i 0).toNat : Int)
theorem by8_eq (s : ByteArray) (i : Nat) (h : i < s.size) : by8 s i = ((s[i]'h).toNat : Int) := by
  have h' : i < s.data.toList.length := by simpa using h
  unfold by8
  rw [List.getD_eq_getElem?_getD, List.getElem?_eq_getElem h']
  rfl
def allLow (s : ByteArray) (k : Nat) : Bool := (List.range k).all fun i => lowB (by8 s i)
theorem allLow_zero (s : ByteArray) : allLow s 0 = true := rfl
theorem allLow_succ {s : ByteArray} {k : Nat} (h : allLow s k = true) (h' : lowB (by8 s k) = true) : allLow s (k + 1) = true := by
  unfold allLow at *; rw [List.range_succ, List.all_append, h]; simp [h']
def wordB (s : ByteArray) : Bool := decide (s.size ≤ 10) && allLow s s.size
theorem word_no0 {s : ByteArray} (h : 10 < s.size) : wordB s = false := by unfold wordB; rw [decide_eq_false (by omega)]; rfl
theorem word_no1 {s : ByteArray} (i : Nat) (hi : i < s.size) (h : lowB (by8 s i) = false) : wordB s = false := by
  unfold wordB allLow
  rw [Bool.and_eq_false_iff]
  right
  rw [List.all_eq_false]
  exact ⟨i, by simpa using hi, by rw [h]; decide⟩
theorem word_yes {s : ByteArray} (h0 : ¬ 10 < s.size) (h : allLow s s.size = true) : wordB s = true := by
  unfold wordB; rw [h, decide_eq_true (by omega)]; rfl
/-- A right value. -/
def valB (k n : Int) (t : ByteArray) : Bool :=
  if k = 0 then n == 0 && t.toList.isEmpty else if k = 1 then inB n (-1000000000) 1000000000 && t.toList.isEmpty else if k = 2 then n == 0 && wordB t else false
theorem val0 (n : Int) (t : ByteArray) : valB 0 n t = (n == 0 && t.toList.isEmpty) := rfl
theorem val1 (n : Int) (t : ByteArray) : valB 1 n t = (inB n (-1000000000) 1000000000 && t.toList.isEmpty) := rfl
theorem val2 (n : Int) (t : ByteArray) : valB 2 n t = (n == 0 && wordB t) := rfl
theorem valx {k : Int} (n : Int) (t : ByteArray) (h0 : ¬ k = 0) (h1 : ¬ k = 1) (h2 : ¬ k = 2) : valB k n t = false := by unfold valB; rw [if_neg h0, if_neg h1, if_neg h2]

theorem c_small (c : Int) (w : World) : Calls Tryz.prog 110 #[.int .u8 c] w fun e w' => e = .returned (.bool (lowB c)) ∧ w' = w := by
  by_cases h1 : 97 ≤ c <;> by_cases h2 : c ≤ 122
  all_goals
    go_enter Tryz.func110, Tryz.ntmps110
    go_wp2
    go_ret
    exact ⟨ret_bool (by simp [lowB, h1, h2]), rfl⟩

set_option maxRecDepth 100000 in
set_option maxHeartbeats 400000 in
theorem c_word (s : ByteArray) (w : World) (hs : s.size ≤ maxLen) :
    Calls Tryz.prog 162 #[.string s] w fun e w' => e = .returned (.bool (wordB s)) ∧ w' = w := by
  unfold maxLen at hs
  by_cases h1 : 10 < s.size
  · go_enter Tryz.func162, Tryz.ntmps162
    go_wp2
    go_ret
    exact ⟨ret_bool (word_no0 h1).symm, rfl⟩
  · go_enter Tryz.func162, Tryz.ntmps162
    go_wp2
    go_loop [9] (fun i => ∃ k : Nat, k ≤ s.size ∧ i = .int .i64 k ∧ Hid (allLow s k = true)) (fun i => s.size - (intOf i).toNat)
    case atStart => exact ⟨0, Nat.zero_le _, rfl, allLow_zero s⟩
    case round =>
      obtain ⟨k, hk, rfl, hall⟩ := hrel
      by_cases hlt : k < s.size
      · have HK : Hid (by8 s k = ((s[k]'hlt).toNat : Int)) := by8_eq s k hlt
        cases h2 : lowB ((s[k]'hlt).toNat : Int)
        all_goals go_wp2_with (go_at_call 110; refine (c_small _ _).mono ?_; rintro e w' ⟨rfl, rfl⟩)
        · go_ret
          exact ⟨ret_bool (word_no1 k hlt (by rw [HK.out]; exact h2)).symm, rfl⟩
        · go_round
          case rel => exact ⟨k + 1, by omega, by go_num, allLow_succ hall.out (by rw [HK.out]; exact h2)⟩
          case measure => simp [intOf]; omega
      · go_wp2
        go_ret
        have e : k = s.size := by omega
        subst e
        exact ⟨ret_bool (word_yes h1 hall.out).symm, rfl⟩

set_option maxRecDepth 100000 in
set_option maxHeartbeats 1000000 in
theorem c_implOK (k n : Int) (t : ByteArray) (w : World) (hs : t.size ≤ maxLen) :
    Calls Tryz.prog 129 #[.agg #[.int .i64 k, .int .i64 n, .string t]] w fun e w' => e = .returned (.bool (valB k n t)) ∧ Below w.heap.size w w' := by
  by_cases h0 : k = 0
  · subst h0
    rw [val0]
    cases hn : (n == 0) <;> cases ht : t.toList.isEmpty
    all_goals
      go_enter Tryz.func129, Tryz.ntmps129
      go_wp2
      go_ret
      exact ⟨rfl, (Below.refl _ _).alloc (Nat.le_refl _) _⟩
  · have e0 : (k == 0) = false := by simpa using h0
    by_cases h1 : k = 1
    · subst h1
      rw [val1]
      by_cases ha : (-1000000000 : Int) ≤ n <;> by_cases hb : n ≤ 1000000000 <;> cases ht : t.toList.isEmpty <;> try omega
      all_goals
        go_enter Tryz.func129, Tryz.ntmps129
        go_wp2
        go_ret
        exact ⟨ret_bool (by simp [inB]; try omega), (Below.refl _ _).alloc (Nat.le_refl _) _⟩
    · have e1 : (k == 1) = false := by simpa using h1
      by_cases h2 : k = 2
      · subst h2
        rw [val2]
        cases hn : (n == 0)
        · go_enter Tryz.func129, Tryz.ntmps129
          go_wp2
          go_ret
          exact ⟨rfl, (Below.refl _ _).alloc (Nat.le_refl _) _⟩
        · go_enter Tryz.func129, Tryz.ntmps129
          go_wp2_with (go_at_call 162; refine (c_word _ _ hs).mono ?_; rintro e w' ⟨rfl, rfl⟩)
          go_ret
          exact ⟨rfl, (Below.refl _ _).alloc (Nat.le_refl _) _⟩
      · have e2 : (k == 2) = false := by simpa using h2
        rw [valx n t h0 h1 h2]
        clear h0 h1 h2
        go_enter Tryz.func129, Tryz.ntmps129
        go_wp2
        go_ret
        exact ⟨rfl, (Below.refl _ _).alloc (Nat.le_refl _) _⟩

set_option maxRecDepth 100000 in
set_option maxHeartbeats 1000000 in
theorem c_specOK (k n : Int) (t : ByteArray) (w : World) (hs : t.size ≤ maxLen) :
    Calls Tryz.prog 144 #[.agg #[.int .i64 k, .int .i64 n, .string t]] w fun e w' => e = .returned (.bool (valB k n t)) ∧ Below w.heap.size w w' := by
  by_cases h0 : k = 0
  · subst h0
    rw [val0]
    cases hn : (n == 0) <;> cases ht : t.toList.isEmpty
    all_goals
      go_enter Tryz.func144, Tryz.ntmps144
      go_wp2
      go_ret
      exact ⟨rfl, (Below.refl _ _).alloc (Nat.le_refl _) _⟩
  · have e0 : (k == 0) = false := by simpa using h0
    by_cases h1 : k = 1
    · subst h1
      rw [val1]
      cases ha : inB n (-1000000000) 1000000000 <;> cases ht : t.toList.isEmpty
      all_goals
        go_enter Tryz.func144, Tryz.ntmps144
        go_wp2_with (go_at_call 86; refine (c_in _ _ _ _).mono ?_; rintro e w' ⟨rfl, rfl⟩)
        go_ret
        exact ⟨rfl, (Below.refl _ _).alloc (Nat.le_refl _) _⟩
    · have e1 : (k == 1) = false := by simpa using h1
      by_cases h2 : k = 2
      · subst h2
        rw [val2]
        cases hn : (n == 0)
        · have hn' : (n != 0) = true := by simp [bne, hn]
          go_enter Tryz.func144, Tryz.ntmps144
          go_wp2
          go_ret
          exact ⟨rfl, (Below.refl _ _).alloc (Nat.le_refl _) _⟩
        · have hn' : (n != 0) = false := by simp [bne, hn]
          unfold maxLen at hs
          by_cases h1 : 10 < t.size
          · go_enter Tryz.func144, Tryz.ntmps144
            go_wp2
            go_ret
            exact ⟨ret_bool (by rw [word_no0 h1]; rfl), (Below.refl _ _).alloc (Nat.le_refl _) _⟩
          · go_enter Tryz.func144, Tryz.ntmps144
            go_wp2
            go_loop [3] (fun i => ∃ k : Nat, k ≤ t.size ∧ i = .int .i64 k ∧ Hid (allLow t k = true)) (fun i => t.size - (intOf i).toNat)
            case atStart => exact ⟨0, Nat.zero_le _, rfl, allLow_zero t⟩
            case round =>
              obtain ⟨k, hk, rfl, hall⟩ := hrel
              by_cases hlt : k < t.size
              · have HK : Hid (by8 t k = ((t[k]'hlt).toNat : Int)) := by8_eq t k hlt
                have hwr := wrap64_byte (t[k]'hlt)
                cases h2 : inB ((t[k]'hlt).toNat : Int) 97 122
                all_goals go_wp2_with (go_at_call 86; refine (c_in _ _ _ _).mono ?_; rintro e w' ⟨rfl, rfl⟩)
                · go_ret
                  exact ⟨ret_bool (by rw [word_no1 k hlt (by rw [HK.out]; exact h2)]; rfl), (Below.refl _ _).alloc (Nat.le_refl _) _⟩
                · go_round
                  case rel => exact ⟨k + 1, by omega, by go_num, allLow_succ hall.out (by rw [HK.out]; exact h2)⟩
                  case measure => simp [intOf]; omega
              · go_wp2
                go_ret
                have e : k = t.size := by omega
                subst e
                exact ⟨ret_bool (by rw [word_yes h1 hall.out]), (Below.refl _ _).alloc (Nat.le_refl _) _⟩
      · have e2 : (k == 2) = false := by simpa using h2
        rw [valx n t h0 h1 h2]
        clear h0 h1 h2
        go_enter Tryz.func144, Tryz.ntmps144
        go_wp2
        go_ret
        exact ⟨rfl, (Below.refl _ _).alloc (Nat.le_refl _) _⟩
end Go.Proofs.YtbpfpjmjmkpjoaaGreatDoor
