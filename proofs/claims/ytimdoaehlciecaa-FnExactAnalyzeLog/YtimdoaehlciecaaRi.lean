/-
  Records of the log: the walk of the program's isStep.
-/
import Derived.Test.YtimdoaehlciecaaRc
namespace Go.Proofs.Ytimdoaehlciecaa
open Go Go.RowKit
attribute [local go_sem ↓] Go.wp_at_zero Go.wp_at_succ


theorem noT_size : noT.size = 0 := rfl
theorem szE (b : ByteArray) : b.size = 0 ↔ b.toList = [] := by
  rw [ByteArray.toList_eq]
  constructor
  · intro h
    cases hd : b.data.toList with
    | nil => rfl
    | cons c r => have := congrArg List.length hd; simp at this; omega
  · intro h
    have := congrArg List.length h
    simpa using this
theorem noT_list : noT.toList = [] := (szE noT).1 rfl
theorem endT {e l t k p n g s : Int} {b a : ByteArray} (h1 : 1 ≤ t) (h2 : t ≤ 60) (h3 : p = 0) (h4 : n = 0) (h5 : g = 0) (h6 : s = 0) (h7 : b.toList = []) (h8 : a.toList = []) : true = endB ⟨e, l, t, k, p, n, g, s, b, a⟩ := by
  unfold endB inB
  rw [decide_eq_true ⟨h1, h2⟩, decide_eq_true ⟨h3, h4, h5, h6, (szE b).2 h7, (szE a).2 h8⟩]
  rfl
theorem endF {e l t k p n g s : Int} {b a : ByteArray} (h : ¬ (p = 0 ∧ n = 0 ∧ g = 0 ∧ s = 0)) : false = endB ⟨e, l, t, k, p, n, g, s, b, a⟩ := by
  unfold endB
  rw [decide_eq_false (fun x => h ⟨x.1, x.2.1, x.2.2.1, x.2.2.2.1⟩), Bool.and_false]
theorem endFB {e l t k p n g s : Int} {b a : ByteArray} (h : ¬ b.toList = []) : false = endB ⟨e, l, t, k, p, n, g, s, b, a⟩ := by
  unfold endB
  rw [decide_eq_false (fun x => h ((szE b).1 x.2.2.2.2.1)), Bool.and_false]
theorem endFA {e l t k p n g s : Int} {b a : ByteArray} (h : ¬ a.toList = []) : false = endB ⟨e, l, t, k, p, n, g, s, b, a⟩ := by
  unfold endB
  rw [decide_eq_false (fun x => h ((szE a).1 x.2.2.2.2.2)), Bool.and_false]
theorem red4 {e l t p n g s : Int} {b a : ByteArray} (h1 : 1 ≤ p) (h2 : p < l) : stepB ⟨e, l, t, 4, p, n, g, s, b, a⟩ = endB ⟨e, l, t, 4, 0, n, g, s, b, a⟩ := by
  show prevB _ = _
  unfold prevB inB
  simp only
  rw [decide_eq_true ⟨h1, by omega⟩]
  rfl
theorem red5 {e l t p n g s : Int} {b a : ByteArray} (h1 : 1 ≤ p) (h2 : p < l) : stepB ⟨e, l, t, 5, p, n, g, s, b, a⟩ = endB ⟨e, l, t, 5, 0, n, g, s, b, a⟩ := by
  show prevB _ = _
  unfold prevB inB
  simp only
  rw [decide_eq_true ⟨h1, by omega⟩]
  rfl
theorem redC {e l t k p n g s : Int} {b a : ByteArray} (h0 : placeB g s = true) (ha : a.size ≤ 30) (h3 : 0 ≤ n) (h4 : n < l) (h1 : 1 ≤ p) (h2 : p < l) : clrB ⟨e, l, t, k, p, n, g, s, b, a⟩ = endB ⟨e, l, t, k, 0, 0, 0, 0, b, noT⟩ := by
  unfold clrB prevB inB
  simp only
  rw [h0, decide_eq_true ha, decide_eq_true ⟨h3, by omega⟩, decide_eq_true ⟨h1, by omega⟩]
  rfl
theorem red3 {e l t p n g s : Int} {b a : ByteArray} (h0 : placeB g s = true) (ha : a.size ≤ 30) (h3 : 0 ≤ n) (h4 : n < l) (h1 : 1 ≤ p) (h2 : p < l) : stepB ⟨e, l, t, 3, p, n, g, s, b, a⟩ = endB ⟨e, l, t, 3, 0, 0, 0, 0, b, noT⟩ := redC h0 ha h3 h4 h1 h2
theorem red2 {e l t p n g s : Int} {b a : ByteArray} (hn : n = 0) (hb : b.size ≤ 30) (h0 : placeB g s = true) (ha : a.size ≤ 30) (h4 : 0 < l) (h1 : 1 ≤ p) (h2 : p < l) : stepB ⟨e, l, t, 2, p, n, g, s, b, a⟩ = endB ⟨e, l, t, 2, 0, 0, 0, 0, noT, noT⟩ := by
  show updB _ = _
  unfold updB
  simp only
  rw [decide_eq_true hn, decide_eq_true hb]
  exact redC h0 ha (by omega) (by omega) h1 h2

theorem st1 (e l t p n g s : Int) (b a : ByteArray) : stepB ⟨e, l, t, 1, p, n, g, s, b, a⟩ = endB ⟨e, l, t, 1, p, n, g, s, b, a⟩ := rfl
theorem st2 (e l t p n g s : Int) (b a : ByteArray) : stepB ⟨e, l, t, 2, p, n, g, s, b, a⟩ = updB ⟨e, l, t, 2, p, n, g, s, b, a⟩ := rfl
theorem st3 (e l t p n g s : Int) (b a : ByteArray) : stepB ⟨e, l, t, 3, p, n, g, s, b, a⟩ = clrB ⟨e, l, t, 3, p, n, g, s, b, a⟩ := rfl
theorem st4 (e l t p n g s : Int) (b a : ByteArray) : stepB ⟨e, l, t, 4, p, n, g, s, b, a⟩ = prevB ⟨e, l, t, 4, p, n, g, s, b, a⟩ := rfl
theorem st5 (e l t p n g s : Int) (b a : ByteArray) : stepB ⟨e, l, t, 5, p, n, g, s, b, a⟩ = prevB ⟨e, l, t, 5, p, n, g, s, b, a⟩ := rfl
set_option maxRecDepth 100000 in
set_option maxHeartbeats 4000000 in
theorem c_step1 (e l t p n g s : Int) (b a : ByteArray) (w : World) (_hbs : b.size ≤ maxLen) (_has : a.size ≤ maxLen) :
    Calls Try.prog 35 #[.agg #[.int .i64 e, .int .i64 l, .int .i64 t, .int .i64 1, .int .i64 p, .int .i64 n, .int .i64 g, .int .i64 s, .string b, .string a]] w fun e' w' => e' = .returned (.bool (stepB ⟨e, l, t, 1, p, n, g, s, b, a⟩)) ∧ Below w.heap.size w w' := by
  by_cases a9 : t < 1
  · go_enter Try.func35, Try.ntmps35
    go_wp2_with (first | (go_at_call 42; refine (c_tooLong _ _ (by assumption)).mono ?_; rintro e' w' ⟨rfl, hq⟩; have hq' := hq.symm; subst hq'; clear hq; first | rw [a2] | rw [a4]) | (go_at_call 43; refine (c_place _ _ _).mono ?_; rintro e' w' ⟨rfl, hq⟩; have hq' := hq.symm; subst hq'; clear hq; rw [a3]))
    go_ret
    exact ⟨ret_bool (by rw [st1]; symm; rw [Bool.eq_false_iff]; simp only [endB, inB, ne_eq, Bool.and_eq_true, decide_eq_true_eq]; omega), (Below.refl _ _).alloc (Nat.le_refl _) _⟩
  by_cases a10 : 60 < t
  · go_enter Try.func35, Try.ntmps35
    go_wp2_with (first | (go_at_call 42; refine (c_tooLong _ _ (by assumption)).mono ?_; rintro e' w' ⟨rfl, hq⟩; have hq' := hq.symm; subst hq'; clear hq; first | rw [a2] | rw [a4]) | (go_at_call 43; refine (c_place _ _ _).mono ?_; rintro e' w' ⟨rfl, hq⟩; have hq' := hq.symm; subst hq'; clear hq; rw [a3]))
    go_ret
    exact ⟨ret_bool (by rw [st1]; symm; rw [Bool.eq_false_iff]; simp only [endB, inB, ne_eq, Bool.and_eq_true, decide_eq_true_eq]; omega), (Below.refl _ _).alloc (Nat.le_refl _) _⟩
  go_enter Try.func35, Try.ntmps35
  go_wp2_with (first | (go_at_call 42; refine (c_tooLong _ _ (by assumption)).mono ?_; rintro e' w' ⟨rfl, hq⟩; have hq' := hq.symm; subst hq'; clear hq; first | rw [a2] | rw [a4]) | (go_at_call 43; refine (c_place _ _ _).mono ?_; rintro e' w' ⟨rfl, hq⟩; have hq' := hq.symm; subst hq'; clear hq; rw [a3]))
  all_goals
    go_ret
    refine ⟨ret_bool ?_, (Below.refl _ _).alloc (Nat.le_refl _) _⟩
    rw [st1]
    first | exact endT (by omega) (by omega) (by omega) (by omega) (by omega) (by omega) (by first | exact noT_list | assumption) (by first | exact noT_list | assumption) | exact endF (by omega) | exact endFB (by assumption) | exact endFA (by assumption)
set_option maxRecDepth 100000 in
set_option maxHeartbeats 4000000 in
theorem c_step4 (e l t p n g s : Int) (b a : ByteArray) (w : World) (_hbs : b.size ≤ maxLen) (_has : a.size ≤ maxLen) :
    Calls Try.prog 35 #[.agg #[.int .i64 e, .int .i64 l, .int .i64 t, .int .i64 4, .int .i64 p, .int .i64 n, .int .i64 g, .int .i64 s, .string b, .string a]] w fun e' w' => e' = .returned (.bool (stepB ⟨e, l, t, 4, p, n, g, s, b, a⟩)) ∧ Below w.heap.size w w' := by
  by_cases a7 : p < 1
  · go_enter Try.func35, Try.ntmps35
    go_wp2_with (first | (go_at_call 42; refine (c_tooLong _ _ (by assumption)).mono ?_; rintro e' w' ⟨rfl, hq⟩; have hq' := hq.symm; subst hq'; clear hq; first | rw [a2] | rw [a4]) | (go_at_call 43; refine (c_place _ _ _).mono ?_; rintro e' w' ⟨rfl, hq⟩; have hq' := hq.symm; subst hq'; clear hq; rw [a3]))
    go_ret
    exact ⟨ret_bool (by rw [st4]; symm; rw [Bool.eq_false_iff]; simp only [prevB, endB, inB, ne_eq, Bool.and_eq_true, decide_eq_true_eq]; omega), (Below.refl _ _).alloc (Nat.le_refl _) _⟩
  by_cases a8 : l ≤ p
  · go_enter Try.func35, Try.ntmps35
    go_wp2_with (first | (go_at_call 42; refine (c_tooLong _ _ (by assumption)).mono ?_; rintro e' w' ⟨rfl, hq⟩; have hq' := hq.symm; subst hq'; clear hq; first | rw [a2] | rw [a4]) | (go_at_call 43; refine (c_place _ _ _).mono ?_; rintro e' w' ⟨rfl, hq⟩; have hq' := hq.symm; subst hq'; clear hq; rw [a3]))
    go_ret
    exact ⟨ret_bool (by rw [st4]; symm; rw [Bool.eq_false_iff]; simp only [prevB, endB, inB, ne_eq, Bool.and_eq_true, decide_eq_true_eq]; omega), (Below.refl _ _).alloc (Nat.le_refl _) _⟩
  by_cases a9 : t < 1
  · go_enter Try.func35, Try.ntmps35
    go_wp2_with (first | (go_at_call 42; refine (c_tooLong _ _ (by assumption)).mono ?_; rintro e' w' ⟨rfl, hq⟩; have hq' := hq.symm; subst hq'; clear hq; first | rw [a2] | rw [a4]) | (go_at_call 43; refine (c_place _ _ _).mono ?_; rintro e' w' ⟨rfl, hq⟩; have hq' := hq.symm; subst hq'; clear hq; rw [a3]))
    go_ret
    exact ⟨ret_bool (by rw [st4]; symm; rw [Bool.eq_false_iff]; simp only [prevB, endB, inB, ne_eq, Bool.and_eq_true, decide_eq_true_eq]; omega), (Below.refl _ _).alloc (Nat.le_refl _) _⟩
  by_cases a10 : 60 < t
  · go_enter Try.func35, Try.ntmps35
    go_wp2_with (first | (go_at_call 42; refine (c_tooLong _ _ (by assumption)).mono ?_; rintro e' w' ⟨rfl, hq⟩; have hq' := hq.symm; subst hq'; clear hq; first | rw [a2] | rw [a4]) | (go_at_call 43; refine (c_place _ _ _).mono ?_; rintro e' w' ⟨rfl, hq⟩; have hq' := hq.symm; subst hq'; clear hq; rw [a3]))
    go_ret
    exact ⟨ret_bool (by rw [st4]; symm; rw [Bool.eq_false_iff]; simp only [prevB, endB, inB, ne_eq, Bool.and_eq_true, decide_eq_true_eq]; omega), (Below.refl _ _).alloc (Nat.le_refl _) _⟩
  go_enter Try.func35, Try.ntmps35
  go_wp2_with (first | (go_at_call 42; refine (c_tooLong _ _ (by assumption)).mono ?_; rintro e' w' ⟨rfl, hq⟩; have hq' := hq.symm; subst hq'; clear hq; first | rw [a2] | rw [a4]) | (go_at_call 43; refine (c_place _ _ _).mono ?_; rintro e' w' ⟨rfl, hq⟩; have hq' := hq.symm; subst hq'; clear hq; rw [a3]))
  all_goals
    go_ret
    refine ⟨ret_bool ?_, (Below.refl _ _).alloc (Nat.le_refl _) _⟩
    rw [red4 (by omega) (by omega)]
    first | exact endT (by omega) (by omega) (by omega) (by omega) (by omega) (by omega) (by first | exact noT_list | assumption) (by first | exact noT_list | assumption) | exact endF (by omega) | exact endFB (by assumption) | exact endFA (by assumption)
set_option maxRecDepth 100000 in
set_option maxHeartbeats 4000000 in
theorem c_step5 (e l t p n g s : Int) (b a : ByteArray) (w : World) (_hbs : b.size ≤ maxLen) (_has : a.size ≤ maxLen) :
    Calls Try.prog 35 #[.agg #[.int .i64 e, .int .i64 l, .int .i64 t, .int .i64 5, .int .i64 p, .int .i64 n, .int .i64 g, .int .i64 s, .string b, .string a]] w fun e' w' => e' = .returned (.bool (stepB ⟨e, l, t, 5, p, n, g, s, b, a⟩)) ∧ Below w.heap.size w w' := by
  by_cases a7 : p < 1
  · go_enter Try.func35, Try.ntmps35
    go_wp2_with (first | (go_at_call 42; refine (c_tooLong _ _ (by assumption)).mono ?_; rintro e' w' ⟨rfl, hq⟩; have hq' := hq.symm; subst hq'; clear hq; first | rw [a2] | rw [a4]) | (go_at_call 43; refine (c_place _ _ _).mono ?_; rintro e' w' ⟨rfl, hq⟩; have hq' := hq.symm; subst hq'; clear hq; rw [a3]))
    go_ret
    exact ⟨ret_bool (by rw [st5]; symm; rw [Bool.eq_false_iff]; simp only [prevB, endB, inB, ne_eq, Bool.and_eq_true, decide_eq_true_eq]; omega), (Below.refl _ _).alloc (Nat.le_refl _) _⟩
  by_cases a8 : l ≤ p
  · go_enter Try.func35, Try.ntmps35
    go_wp2_with (first | (go_at_call 42; refine (c_tooLong _ _ (by assumption)).mono ?_; rintro e' w' ⟨rfl, hq⟩; have hq' := hq.symm; subst hq'; clear hq; first | rw [a2] | rw [a4]) | (go_at_call 43; refine (c_place _ _ _).mono ?_; rintro e' w' ⟨rfl, hq⟩; have hq' := hq.symm; subst hq'; clear hq; rw [a3]))
    go_ret
    exact ⟨ret_bool (by rw [st5]; symm; rw [Bool.eq_false_iff]; simp only [prevB, endB, inB, ne_eq, Bool.and_eq_true, decide_eq_true_eq]; omega), (Below.refl _ _).alloc (Nat.le_refl _) _⟩
  by_cases a9 : t < 1
  · go_enter Try.func35, Try.ntmps35
    go_wp2_with (first | (go_at_call 42; refine (c_tooLong _ _ (by assumption)).mono ?_; rintro e' w' ⟨rfl, hq⟩; have hq' := hq.symm; subst hq'; clear hq; first | rw [a2] | rw [a4]) | (go_at_call 43; refine (c_place _ _ _).mono ?_; rintro e' w' ⟨rfl, hq⟩; have hq' := hq.symm; subst hq'; clear hq; rw [a3]))
    go_ret
    exact ⟨ret_bool (by rw [st5]; symm; rw [Bool.eq_false_iff]; simp only [prevB, endB, inB, ne_eq, Bool.and_eq_true, decide_eq_true_eq]; omega), (Below.refl _ _).alloc (Nat.le_refl _) _⟩
  by_cases a10 : 60 < t
  · go_enter Try.func35, Try.ntmps35
    go_wp2_with (first | (go_at_call 42; refine (c_tooLong _ _ (by assumption)).mono ?_; rintro e' w' ⟨rfl, hq⟩; have hq' := hq.symm; subst hq'; clear hq; first | rw [a2] | rw [a4]) | (go_at_call 43; refine (c_place _ _ _).mono ?_; rintro e' w' ⟨rfl, hq⟩; have hq' := hq.symm; subst hq'; clear hq; rw [a3]))
    go_ret
    exact ⟨ret_bool (by rw [st5]; symm; rw [Bool.eq_false_iff]; simp only [prevB, endB, inB, ne_eq, Bool.and_eq_true, decide_eq_true_eq]; omega), (Below.refl _ _).alloc (Nat.le_refl _) _⟩
  go_enter Try.func35, Try.ntmps35
  go_wp2_with (first | (go_at_call 42; refine (c_tooLong _ _ (by assumption)).mono ?_; rintro e' w' ⟨rfl, hq⟩; have hq' := hq.symm; subst hq'; clear hq; first | rw [a2] | rw [a4]) | (go_at_call 43; refine (c_place _ _ _).mono ?_; rintro e' w' ⟨rfl, hq⟩; have hq' := hq.symm; subst hq'; clear hq; rw [a3]))
  all_goals
    go_ret
    refine ⟨ret_bool ?_, (Below.refl _ _).alloc (Nat.le_refl _) _⟩
    rw [red5 (by omega) (by omega)]
    first | exact endT (by omega) (by omega) (by omega) (by omega) (by omega) (by omega) (by first | exact noT_list | assumption) (by first | exact noT_list | assumption) | exact endF (by omega) | exact endFB (by assumption) | exact endFA (by assumption)
set_option maxRecDepth 100000 in
set_option maxHeartbeats 4000000 in
theorem c_step3 (e l t p n g s : Int) (b a : ByteArray) (w : World) (_hbs : b.size ≤ maxLen) (_has : a.size ≤ maxLen) :
    Calls Try.prog 35 #[.agg #[.int .i64 e, .int .i64 l, .int .i64 t, .int .i64 3, .int .i64 p, .int .i64 n, .int .i64 g, .int .i64 s, .string b, .string a]] w fun e' w' => e' = .returned (.bool (stepB ⟨e, l, t, 3, p, n, g, s, b, a⟩)) ∧ Below w.heap.size w w' := by
  cases a3 : placeB g s
  · go_enter Try.func35, Try.ntmps35
    go_wp2_with (first | (go_at_call 42; refine (c_tooLong _ _ (by assumption)).mono ?_; rintro e' w' ⟨rfl, hq⟩; have hq' := hq.symm; subst hq'; clear hq; first | rw [a2] | rw [a4]) | (go_at_call 43; refine (c_place _ _ _).mono ?_; rintro e' w' ⟨rfl, hq⟩; have hq' := hq.symm; subst hq'; clear hq; rw [a3]))
    go_ret
    exact ⟨ret_bool (by rw [st3]; unfold clrB; simp [a3]), (Below.refl _ _).alloc (Nat.le_refl _) _⟩
  cases a4 : decide (30 < a.size)
  case true =>
    have a4' := of_decide_eq_true a4
    go_enter Try.func35, Try.ntmps35
    go_wp2_with (first | (go_at_call 42; refine (c_tooLong _ _ (by assumption)).mono ?_; rintro e' w' ⟨rfl, hq⟩; have hq' := hq.symm; subst hq'; clear hq; first | rw [a2] | rw [a4]) | (go_at_call 43; refine (c_place _ _ _).mono ?_; rintro e' w' ⟨rfl, hq⟩; have hq' := hq.symm; subst hq'; clear hq; rw [a3]))
    go_ret
    exact ⟨ret_bool (by rw [st3]; symm; rw [Bool.eq_false_iff]; simp only [clrB, prevB, endB, inB, noT_size, ne_eq, Bool.and_eq_true, decide_eq_true_eq]; omega), (Below.refl _ _).alloc (Nat.le_refl _) _⟩
  have a4' := of_decide_eq_false a4
  by_cases a5 : n < 0
  · go_enter Try.func35, Try.ntmps35
    go_wp2_with (first | (go_at_call 42; refine (c_tooLong _ _ (by assumption)).mono ?_; rintro e' w' ⟨rfl, hq⟩; have hq' := hq.symm; subst hq'; clear hq; first | rw [a2] | rw [a4]) | (go_at_call 43; refine (c_place _ _ _).mono ?_; rintro e' w' ⟨rfl, hq⟩; have hq' := hq.symm; subst hq'; clear hq; rw [a3]))
    go_ret
    exact ⟨ret_bool (by rw [st3]; symm; rw [Bool.eq_false_iff]; simp only [clrB, prevB, endB, inB, noT_size, ne_eq, Bool.and_eq_true, decide_eq_true_eq]; omega), (Below.refl _ _).alloc (Nat.le_refl _) _⟩
  by_cases a6 : l ≤ n
  · go_enter Try.func35, Try.ntmps35
    go_wp2_with (first | (go_at_call 42; refine (c_tooLong _ _ (by assumption)).mono ?_; rintro e' w' ⟨rfl, hq⟩; have hq' := hq.symm; subst hq'; clear hq; first | rw [a2] | rw [a4]) | (go_at_call 43; refine (c_place _ _ _).mono ?_; rintro e' w' ⟨rfl, hq⟩; have hq' := hq.symm; subst hq'; clear hq; rw [a3]))
    go_ret
    exact ⟨ret_bool (by rw [st3]; symm; rw [Bool.eq_false_iff]; simp only [clrB, prevB, endB, inB, noT_size, ne_eq, Bool.and_eq_true, decide_eq_true_eq]; omega), (Below.refl _ _).alloc (Nat.le_refl _) _⟩
  by_cases a7 : p < 1
  · go_enter Try.func35, Try.ntmps35
    go_wp2_with (first | (go_at_call 42; refine (c_tooLong _ _ (by assumption)).mono ?_; rintro e' w' ⟨rfl, hq⟩; have hq' := hq.symm; subst hq'; clear hq; first | rw [a2] | rw [a4]) | (go_at_call 43; refine (c_place _ _ _).mono ?_; rintro e' w' ⟨rfl, hq⟩; have hq' := hq.symm; subst hq'; clear hq; rw [a3]))
    go_ret
    exact ⟨ret_bool (by rw [st3]; symm; rw [Bool.eq_false_iff]; simp only [clrB, prevB, endB, inB, noT_size, ne_eq, Bool.and_eq_true, decide_eq_true_eq]; omega), (Below.refl _ _).alloc (Nat.le_refl _) _⟩
  by_cases a8 : l ≤ p
  · go_enter Try.func35, Try.ntmps35
    go_wp2_with (first | (go_at_call 42; refine (c_tooLong _ _ (by assumption)).mono ?_; rintro e' w' ⟨rfl, hq⟩; have hq' := hq.symm; subst hq'; clear hq; first | rw [a2] | rw [a4]) | (go_at_call 43; refine (c_place _ _ _).mono ?_; rintro e' w' ⟨rfl, hq⟩; have hq' := hq.symm; subst hq'; clear hq; rw [a3]))
    go_ret
    exact ⟨ret_bool (by rw [st3]; symm; rw [Bool.eq_false_iff]; simp only [clrB, prevB, endB, inB, noT_size, ne_eq, Bool.and_eq_true, decide_eq_true_eq]; omega), (Below.refl _ _).alloc (Nat.le_refl _) _⟩
  by_cases a9 : t < 1
  · go_enter Try.func35, Try.ntmps35
    go_wp2_with (first | (go_at_call 42; refine (c_tooLong _ _ (by assumption)).mono ?_; rintro e' w' ⟨rfl, hq⟩; have hq' := hq.symm; subst hq'; clear hq; first | rw [a2] | rw [a4]) | (go_at_call 43; refine (c_place _ _ _).mono ?_; rintro e' w' ⟨rfl, hq⟩; have hq' := hq.symm; subst hq'; clear hq; rw [a3]))
    go_ret
    exact ⟨ret_bool (by rw [st3]; symm; rw [Bool.eq_false_iff]; simp only [clrB, prevB, endB, inB, noT_size, ne_eq, Bool.and_eq_true, decide_eq_true_eq]; omega), (Below.refl _ _).alloc (Nat.le_refl _) _⟩
  by_cases a10 : 60 < t
  · go_enter Try.func35, Try.ntmps35
    go_wp2_with (first | (go_at_call 42; refine (c_tooLong _ _ (by assumption)).mono ?_; rintro e' w' ⟨rfl, hq⟩; have hq' := hq.symm; subst hq'; clear hq; first | rw [a2] | rw [a4]) | (go_at_call 43; refine (c_place _ _ _).mono ?_; rintro e' w' ⟨rfl, hq⟩; have hq' := hq.symm; subst hq'; clear hq; rw [a3]))
    go_ret
    exact ⟨ret_bool (by rw [st3]; symm; rw [Bool.eq_false_iff]; simp only [clrB, prevB, endB, inB, noT_size, ne_eq, Bool.and_eq_true, decide_eq_true_eq]; omega), (Below.refl _ _).alloc (Nat.le_refl _) _⟩
  go_enter Try.func35, Try.ntmps35
  go_wp2_with (first | (go_at_call 42; refine (c_tooLong _ _ (by assumption)).mono ?_; rintro e' w' ⟨rfl, hq⟩; have hq' := hq.symm; subst hq'; clear hq; first | rw [a2] | rw [a4]) | (go_at_call 43; refine (c_place _ _ _).mono ?_; rintro e' w' ⟨rfl, hq⟩; have hq' := hq.symm; subst hq'; clear hq; rw [a3]))
  all_goals
    go_ret
    refine ⟨ret_bool ?_, (Below.refl _ _).alloc (Nat.le_refl _) _⟩
    rw [red3 a3 (by omega) (by omega) (by omega) (by omega) (by omega)]
    first | exact endT (by omega) (by omega) (by omega) (by omega) (by omega) (by omega) (by first | exact noT_list | assumption) (by first | exact noT_list | assumption) | exact endF (by omega) | exact endFB (by assumption) | exact endFA (by assumption)
set_option maxRecDepth 100000 in
set_option maxHeartbeats 4000000 in
theorem c_step2 (e l t p n g s : Int) (b a : ByteArray) (w : World) (_hbs : b.size ≤ maxLen) (_has : a.size ≤ maxLen) :
    Calls Try.prog 35 #[.agg #[.int .i64 e, .int .i64 l, .int .i64 t, .int .i64 2, .int .i64 p, .int .i64 n, .int .i64 g, .int .i64 s, .string b, .string a]] w fun e' w' => e' = .returned (.bool (stepB ⟨e, l, t, 2, p, n, g, s, b, a⟩)) ∧ Below w.heap.size w w' := by
  by_cases a1 : n = 0
  case neg =>
    go_enter Try.func35, Try.ntmps35
    go_wp2_with (first | (go_at_call 42; refine (c_tooLong _ _ (by assumption)).mono ?_; rintro e' w' ⟨rfl, hq⟩; have hq' := hq.symm; subst hq'; clear hq; first | rw [a2] | rw [a4]) | (go_at_call 43; refine (c_place _ _ _).mono ?_; rintro e' w' ⟨rfl, hq⟩; have hq' := hq.symm; subst hq'; clear hq; rw [a3]))
    go_ret
    exact ⟨ret_bool (by rw [st2]; symm; rw [Bool.eq_false_iff]; simp only [updB, clrB, prevB, endB, inB, noT_size, ne_eq, Bool.and_eq_true, decide_eq_true_eq]; omega), (Below.refl _ _).alloc (Nat.le_refl _) _⟩
  cases a2 : decide (30 < b.size)
  case true =>
    have a2' := of_decide_eq_true a2
    go_enter Try.func35, Try.ntmps35
    go_wp2_with (first | (go_at_call 42; refine (c_tooLong _ _ (by assumption)).mono ?_; rintro e' w' ⟨rfl, hq⟩; have hq' := hq.symm; subst hq'; clear hq; first | rw [a2] | rw [a4]) | (go_at_call 43; refine (c_place _ _ _).mono ?_; rintro e' w' ⟨rfl, hq⟩; have hq' := hq.symm; subst hq'; clear hq; rw [a3]))
    go_ret
    exact ⟨ret_bool (by rw [st2]; symm; rw [Bool.eq_false_iff]; simp only [updB, clrB, prevB, endB, inB, noT_size, ne_eq, Bool.and_eq_true, decide_eq_true_eq]; omega), (Below.refl _ _).alloc (Nat.le_refl _) _⟩
  have a2' := of_decide_eq_false a2
  cases a3 : placeB g s
  · go_enter Try.func35, Try.ntmps35
    go_wp2_with (first | (go_at_call 42; refine (c_tooLong _ _ (by assumption)).mono ?_; rintro e' w' ⟨rfl, hq⟩; have hq' := hq.symm; subst hq'; clear hq; first | rw [a2] | rw [a4]) | (go_at_call 43; refine (c_place _ _ _).mono ?_; rintro e' w' ⟨rfl, hq⟩; have hq' := hq.symm; subst hq'; clear hq; rw [a3]))
    go_ret
    exact ⟨ret_bool (by rw [st2]; unfold updB clrB; simp [a3]), (Below.refl _ _).alloc (Nat.le_refl _) _⟩
  cases a4 : decide (30 < a.size)
  case true =>
    have a4' := of_decide_eq_true a4
    go_enter Try.func35, Try.ntmps35
    go_wp2_with (first | (go_at_call 42; refine (c_tooLong _ _ (by assumption)).mono ?_; rintro e' w' ⟨rfl, hq⟩; have hq' := hq.symm; subst hq'; clear hq; first | rw [a2] | rw [a4]) | (go_at_call 43; refine (c_place _ _ _).mono ?_; rintro e' w' ⟨rfl, hq⟩; have hq' := hq.symm; subst hq'; clear hq; rw [a3]))
    go_ret
    exact ⟨ret_bool (by rw [st2]; symm; rw [Bool.eq_false_iff]; simp only [updB, clrB, prevB, endB, inB, noT_size, ne_eq, Bool.and_eq_true, decide_eq_true_eq]; omega), (Below.refl _ _).alloc (Nat.le_refl _) _⟩
  have a4' := of_decide_eq_false a4
  by_cases a6 : l ≤ 0
  · go_enter Try.func35, Try.ntmps35
    go_wp2_with (first | (go_at_call 42; refine (c_tooLong _ _ (by assumption)).mono ?_; rintro e' w' ⟨rfl, hq⟩; have hq' := hq.symm; subst hq'; clear hq; first | rw [a2] | rw [a4]) | (go_at_call 43; refine (c_place _ _ _).mono ?_; rintro e' w' ⟨rfl, hq⟩; have hq' := hq.symm; subst hq'; clear hq; rw [a3]))
    go_ret
    exact ⟨ret_bool (by rw [st2]; symm; rw [Bool.eq_false_iff]; simp only [updB, clrB, prevB, endB, inB, noT_size, ne_eq, Bool.and_eq_true, decide_eq_true_eq]; omega), (Below.refl _ _).alloc (Nat.le_refl _) _⟩
  by_cases a7 : p < 1
  · go_enter Try.func35, Try.ntmps35
    go_wp2_with (first | (go_at_call 42; refine (c_tooLong _ _ (by assumption)).mono ?_; rintro e' w' ⟨rfl, hq⟩; have hq' := hq.symm; subst hq'; clear hq; first | rw [a2] | rw [a4]) | (go_at_call 43; refine (c_place _ _ _).mono ?_; rintro e' w' ⟨rfl, hq⟩; have hq' := hq.symm; subst hq'; clear hq; rw [a3]))
    go_ret
    exact ⟨ret_bool (by rw [st2]; symm; rw [Bool.eq_false_iff]; simp only [updB, clrB, prevB, endB, inB, noT_size, ne_eq, Bool.and_eq_true, decide_eq_true_eq]; omega), (Below.refl _ _).alloc (Nat.le_refl _) _⟩
  by_cases a8 : l ≤ p
  · go_enter Try.func35, Try.ntmps35
    go_wp2_with (first | (go_at_call 42; refine (c_tooLong _ _ (by assumption)).mono ?_; rintro e' w' ⟨rfl, hq⟩; have hq' := hq.symm; subst hq'; clear hq; first | rw [a2] | rw [a4]) | (go_at_call 43; refine (c_place _ _ _).mono ?_; rintro e' w' ⟨rfl, hq⟩; have hq' := hq.symm; subst hq'; clear hq; rw [a3]))
    go_ret
    exact ⟨ret_bool (by rw [st2]; symm; rw [Bool.eq_false_iff]; simp only [updB, clrB, prevB, endB, inB, noT_size, ne_eq, Bool.and_eq_true, decide_eq_true_eq]; omega), (Below.refl _ _).alloc (Nat.le_refl _) _⟩
  by_cases a9 : t < 1
  · go_enter Try.func35, Try.ntmps35
    go_wp2_with (first | (go_at_call 42; refine (c_tooLong _ _ (by assumption)).mono ?_; rintro e' w' ⟨rfl, hq⟩; have hq' := hq.symm; subst hq'; clear hq; first | rw [a2] | rw [a4]) | (go_at_call 43; refine (c_place _ _ _).mono ?_; rintro e' w' ⟨rfl, hq⟩; have hq' := hq.symm; subst hq'; clear hq; rw [a3]))
    go_ret
    exact ⟨ret_bool (by rw [st2]; symm; rw [Bool.eq_false_iff]; simp only [updB, clrB, prevB, endB, inB, noT_size, ne_eq, Bool.and_eq_true, decide_eq_true_eq]; omega), (Below.refl _ _).alloc (Nat.le_refl _) _⟩
  by_cases a10 : 60 < t
  · go_enter Try.func35, Try.ntmps35
    go_wp2_with (first | (go_at_call 42; refine (c_tooLong _ _ (by assumption)).mono ?_; rintro e' w' ⟨rfl, hq⟩; have hq' := hq.symm; subst hq'; clear hq; first | rw [a2] | rw [a4]) | (go_at_call 43; refine (c_place _ _ _).mono ?_; rintro e' w' ⟨rfl, hq⟩; have hq' := hq.symm; subst hq'; clear hq; rw [a3]))
    go_ret
    exact ⟨ret_bool (by rw [st2]; symm; rw [Bool.eq_false_iff]; simp only [updB, clrB, prevB, endB, inB, noT_size, ne_eq, Bool.and_eq_true, decide_eq_true_eq]; omega), (Below.refl _ _).alloc (Nat.le_refl _) _⟩
  go_enter Try.func35, Try.ntmps35
  go_wp2_with (first | (go_at_call 42; refine (c_tooLong _ _ (by assumption)).mono ?_; rintro e' w' ⟨rfl, hq⟩; have hq' := hq.symm; subst hq'; clear hq; first | rw [a2] | rw [a4]) | (go_at_call 43; refine (c_place _ _ _).mono ?_; rintro e' w' ⟨rfl, hq⟩; have hq' := hq.symm; subst hq'; clear hq; rw [a3]))
  all_goals
    go_ret
    refine ⟨ret_bool ?_, (Below.refl _ _).alloc (Nat.le_refl _) _⟩
    rw [red2 (by omega) (by omega) a3 (by omega) (by omega) (by omega) (by omega)]
    first | exact endT (by omega) (by omega) (by omega) (by omega) (by omega) (by omega) (by first | exact noT_list | assumption) (by first | exact noT_list | assumption) | exact endF (by omega) | exact endFB (by assumption) | exact endFA (by assumption)
set_option maxRecDepth 100000 in
set_option maxHeartbeats 4000000 in
theorem c_step (e l t k p n g s : Int) (b a : ByteArray) (w : World) (hbs : b.size ≤ maxLen) (has : a.size ≤ maxLen) :
    Calls Try.prog 35 #[.agg #[.int .i64 e, .int .i64 l, .int .i64 t, .int .i64 k, .int .i64 p, .int .i64 n, .int .i64 g, .int .i64 s, .string b, .string a]] w fun e' w' => e' = .returned (.bool (stepB ⟨e, l, t, k, p, n, g, s, b, a⟩)) ∧ Below w.heap.size w w' := by
  by_cases k2 : k = 2
  · subst k2; exact c_step2 e l t p n g s b a w hbs has
  by_cases k3 : k = 3
  · subst k3; exact c_step3 e l t p n g s b a w hbs has
  by_cases k4 : k = 4
  · subst k4; exact c_step4 e l t p n g s b a w hbs has
  by_cases k5 : k = 5
  · subst k5; exact c_step5 e l t p n g s b a w hbs has
  by_cases k1 : k = 1
  · subst k1; exact c_step1 e l t p n g s b a w hbs has
  go_enter Try.func35, Try.ntmps35
  go_wp2
  go_ret
  exact ⟨ret_bool (by simp [stepB, k1, k2, k3, k4, k5]), (Below.refl _ _).alloc (Nat.le_refl _) _⟩

end Go.Proofs.Ytimdoaehlciecaa
