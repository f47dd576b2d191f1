/-
  Records of the log: the walk of the specification's RecordOK.
-/
import Derived.Test.YtimdoaehlciecaaRz
namespace Go.Proofs.Ytimdoaehlciecaa
open Go Go.RowKit
attribute [local go_sem ↓] Go.wp_at_zero Go.wp_at_succ


theorem ls_f1 {e l t k p n g s : Int} {b a : ByteArray} (h : ¬ ((1 ≤ e ∧ e ≤ 60) ∧ (1 ≤ l ∧ l ≤ 60) ∧ (1 ≤ k ∧ k ≤ 6) ∧ (0 ≤ p ∧ p ≤ l - 1) ∧ (0 ≤ n ∧ n ≤ l - 1) ∧ (0 ≤ g ∧ g ≤ 7) ∧ (0 ≤ s ∧ s ≤ 3) ∧ b.size ≤ 30)) : false = okLS ⟨e, l, t, k, p, n, g, s, b, a⟩ := by
  symm
  unfold okLS
  rw [if_neg]
  intro hh
  simp only [inB, Bool.and_eq_true, decide_eq_true_eq] at hh
  exact h hh
theorem ls_c {e l t k p n g s : Int} {b a : ByteArray} (h : (1 ≤ e ∧ e ≤ 60) ∧ (1 ≤ l ∧ l ≤ 60) ∧ (1 ≤ k ∧ k ≤ 6) ∧ (0 ≤ p ∧ p ≤ l - 1) ∧ (0 ≤ n ∧ n ≤ l - 1) ∧ (0 ≤ g ∧ g ≤ 7) ∧ (0 ≤ s ∧ s ≤ 3) ∧ b.size ≤ 30) (hk : k = 6) : okLS ⟨e, l, t, k, p, n, g, s, b, a⟩ = (decide (t = 0 ∧ p = 0 ∧ n = 0 ∧ g = 0 ∧ s = 0 ∧ b.size = 0) && ckB (numsT a) l) := by
  unfold okLS
  rw [if_pos (by simp only [inB, Bool.and_eq_true, decide_eq_true_eq]; exact h), if_pos hk]
theorem ls_c0 {e l t k p n g s : Int} {b a : ByteArray} (h : (1 ≤ e ∧ e ≤ 60) ∧ (1 ≤ l ∧ l ≤ 60) ∧ (1 ≤ k ∧ k ≤ 6) ∧ (0 ≤ p ∧ p ≤ l - 1) ∧ (0 ≤ n ∧ n ≤ l - 1) ∧ (0 ≤ g ∧ g ≤ 7) ∧ (0 ≤ s ∧ s ≤ 3) ∧ b.size ≤ 30) (hk : k = 6) (hx : ¬ (t = 0 ∧ p = 0 ∧ n = 0 ∧ g = 0 ∧ s = 0 ∧ b.size = 0)) : false = okLS ⟨e, l, t, k, p, n, g, s, b, a⟩ := by rw [ls_c h hk, decide_eq_false hx]; rfl
theorem ls_c1 {e l t k p n g s : Int} {b a : ByteArray} (h : (1 ≤ e ∧ e ≤ 60) ∧ (1 ≤ l ∧ l ≤ 60) ∧ (1 ≤ k ∧ k ≤ 6) ∧ (0 ≤ p ∧ p ≤ l - 1) ∧ (0 ≤ n ∧ n ≤ l - 1) ∧ (0 ≤ g ∧ g ≤ 7) ∧ (0 ≤ s ∧ s ≤ 3) ∧ b.size ≤ 30) (hk : k = 6) (hx : t = 0 ∧ p = 0 ∧ n = 0 ∧ g = 0 ∧ s = 0 ∧ b.size = 0) : okLS ⟨e, l, t, k, p, n, g, s, b, a⟩ = ckB (numsT a) l := by rw [ls_c h hk, decide_eq_true hx]; rfl
theorem ls_g {e l t k p n g s : Int} {b a : ByteArray} (h : (1 ≤ e ∧ e ≤ 60) ∧ (1 ≤ l ∧ l ≤ 60) ∧ (1 ≤ k ∧ k ≤ 6) ∧ (0 ≤ p ∧ p ≤ l - 1) ∧ (0 ≤ n ∧ n ≤ l - 1) ∧ (0 ≤ g ∧ g ≤ 7) ∧ (0 ≤ s ∧ s ≤ 3) ∧ b.size ≤ 30) (hk : k ≠ 6) : okLS ⟨e, l, t, k, p, n, g, s, b, a⟩ = (if inB t 1 60 && decide (a.size ≤ 30) then (if (¬ (k = 2 ∨ k = 3) ∧ (g ≠ 0 ∨ s ≠ 0 ∨ b.size ≠ 0 ∨ a.size ≠ 0)) ∨ (k ≠ 3 ∧ n ≠ 0) ∨ (k = 3 ∧ b.size ≠ 0) then false else decide ((k = 1) ↔ (p = 0))) else false) := by
  unfold okLS
  rw [if_pos (by simp only [inB, Bool.and_eq_true, decide_eq_true_eq]; exact h), if_neg hk]
theorem ls_f2 {e l t k p n g s : Int} {b a : ByteArray} (h : (1 ≤ e ∧ e ≤ 60) ∧ (1 ≤ l ∧ l ≤ 60) ∧ (1 ≤ k ∧ k ≤ 6) ∧ (0 ≤ p ∧ p ≤ l - 1) ∧ (0 ≤ n ∧ n ≤ l - 1) ∧ (0 ≤ g ∧ g ≤ 7) ∧ (0 ≤ s ∧ s ≤ 3) ∧ b.size ≤ 30) (hk : k ≠ 6) (ht : ¬ ((1 ≤ t ∧ t ≤ 60) ∧ a.size ≤ 30)) : false = okLS ⟨e, l, t, k, p, n, g, s, b, a⟩ := by
  rw [ls_g h hk, if_neg (by simp only [inB, Bool.and_eq_true, decide_eq_true_eq]; exact ht)]
theorem ls_f3 {e l t k p n g s : Int} {b a : ByteArray} (h : (1 ≤ e ∧ e ≤ 60) ∧ (1 ≤ l ∧ l ≤ 60) ∧ (1 ≤ k ∧ k ≤ 6) ∧ (0 ≤ p ∧ p ≤ l - 1) ∧ (0 ≤ n ∧ n ≤ l - 1) ∧ (0 ≤ g ∧ g ≤ 7) ∧ (0 ≤ s ∧ s ≤ 3) ∧ b.size ≤ 30) (hk : k ≠ 6) (hb : (¬ (k = 2 ∨ k = 3) ∧ (g ≠ 0 ∨ s ≠ 0 ∨ b.size ≠ 0 ∨ a.size ≠ 0)) ∨ (k ≠ 3 ∧ n ≠ 0) ∨ (k = 3 ∧ b.size ≠ 0)) : false = okLS ⟨e, l, t, k, p, n, g, s, b, a⟩ := by
  rw [ls_g h hk, if_pos hb]
  split <;> rfl
theorem ls_t {e l t k p n g s : Int} {b a : ByteArray} (h : (1 ≤ e ∧ e ≤ 60) ∧ (1 ≤ l ∧ l ≤ 60) ∧ (1 ≤ k ∧ k ≤ 6) ∧ (0 ≤ p ∧ p ≤ l - 1) ∧ (0 ≤ n ∧ n ≤ l - 1) ∧ (0 ≤ g ∧ g ≤ 7) ∧ (0 ≤ s ∧ s ≤ 3) ∧ b.size ≤ 30) (hk : k ≠ 6) (ht : (1 ≤ t ∧ t ≤ 60) ∧ a.size ≤ 30) (hb : ¬ ((¬ (k = 2 ∨ k = 3) ∧ (g ≠ 0 ∨ s ≠ 0 ∨ b.size ≠ 0 ∨ a.size ≠ 0)) ∨ (k ≠ 3 ∧ n ≠ 0) ∨ (k = 3 ∧ b.size ≠ 0))) : okLS ⟨e, l, t, k, p, n, g, s, b, a⟩ = decide ((k = 1) ↔ (p = 0)) := by
  rw [ls_g h hk, if_pos (by simp only [inB, Bool.and_eq_true, decide_eq_true_eq]; exact ht), if_neg hb]

set_option maxRecDepth 100000 in
set_option maxHeartbeats 4000000 in
theorem c_specLR (e l t k p n g s : Int) (b a : ByteArray) (w : World) (hbs : b.size ≤ 1048576) (has : a.size ≤ 1048576) :
    Calls Try.prog 21 #[.agg #[.int .i64 e, .int .i64 l, .int .i64 t, .int .i64 k, .int .i64 p, .int .i64 n, .int .i64 g, .int .i64 s, .string b, .string a]] w fun e' w' => e' = .returned (.bool (okLS ⟨e, l, t, k, p, n, g, s, b, a⟩)) ∧ Below w.heap.size w w' := by
  obtain ⟨V, hV⟩ : ∃ V, w.alloc (.cells #[.int .i64 e, .int .i64 l, .int .i64 t, .int .i64 k, .int .i64 p, .int .i64 n, .int .i64 g, .int .i64 s, .string b, .string a] 43) = V := ⟨_, rfl⟩
  have HB : Hid (Below w.heap.size w V) := by unfold Hid; rw [← hV]; exact (Below.refl _ _).alloc (Nat.le_refl _) _
  have BX : Hid (Box V w.heap.size 43 #[.int .i64 e, .int .i64 l, .int .i64 t, .int .i64 k, .int .i64 p, .int .i64 n, .int .i64 g, .int .i64 s, .string b, .string a]) := by unfold Hid; rw [← hV]; exact Box.new _ _ _
  obtain ⟨v0, v1, v2, v3, v4, v5, v6, v7, v8, v9⟩ := box10 BX.out
  cases b1 : inB e 1 60
  · have b1' := of_decide_eq_false b1
    go_enter Try.func21, Try.ntmps21
    go_wp2_with (go_at_call 33; refine (c_in _ _ _ _).mono ?_; rintro e' w' ⟨rfl, hq⟩; have hq' := hq.symm; subst hq'; clear hq; first | rw [b1] | rw [b2] | rw [b3] | rw [b4] | rw [b5] | rw [b6] | rw [b7] | rw [b9])
    all_goals
      go_ret
      exact ⟨ret_bool (ls_f1 (fun x => b1' x.1)), HB.out⟩
  have b1' := of_decide_eq_true b1
  cases b2 : inB l 1 60
  · have b2' := of_decide_eq_false b2
    go_enter Try.func21, Try.ntmps21
    go_wp2_with (go_at_call 33; refine (c_in _ _ _ _).mono ?_; rintro e' w' ⟨rfl, hq⟩; have hq' := hq.symm; subst hq'; clear hq; first | rw [b1] | rw [b2] | rw [b3] | rw [b4] | rw [b5] | rw [b6] | rw [b7] | rw [b9])
    all_goals
      go_ret
      exact ⟨ret_bool (ls_f1 (fun x => b2' x.2.1)), HB.out⟩
  have b2' := of_decide_eq_true b2
  have hw1 : IntKind.i64.wrap (l - 1) = l - 1 := by rw [IntKind.wrap_i64]; omega
  cases b3 : inB k 1 6
  · have b3' := of_decide_eq_false b3
    go_enter Try.func21, Try.ntmps21
    go_wp2_with (go_at_call 33; refine (c_in _ _ _ _).mono ?_; rintro e' w' ⟨rfl, hq⟩; have hq' := hq.symm; subst hq'; clear hq; first | rw [b1] | rw [b2] | rw [b3] | rw [b4] | rw [b5] | rw [b6] | rw [b7] | rw [b9])
    all_goals
      go_ret
      exact ⟨ret_bool (ls_f1 (fun x => b3' x.2.2.1)), HB.out⟩
  have b3' := of_decide_eq_true b3
  cases b4 : inB p 0 (l - 1)
  · have b4' := of_decide_eq_false b4
    go_enter Try.func21, Try.ntmps21
    go_wp2_with (go_at_call 33; refine (c_in _ _ _ _).mono ?_; rintro e' w' ⟨rfl, hq⟩; have hq' := hq.symm; subst hq'; clear hq; first | rw [b1] | rw [b2] | rw [b3] | rw [b4] | rw [b5] | rw [b6] | rw [b7] | rw [b9])
    all_goals
      go_ret
      exact ⟨ret_bool (ls_f1 (fun x => b4' x.2.2.2.1)), HB.out⟩
  have b4' := of_decide_eq_true b4
  cases b5 : inB n 0 (l - 1)
  · have b5' := of_decide_eq_false b5
    go_enter Try.func21, Try.ntmps21
    go_wp2_with (go_at_call 33; refine (c_in _ _ _ _).mono ?_; rintro e' w' ⟨rfl, hq⟩; have hq' := hq.symm; subst hq'; clear hq; first | rw [b1] | rw [b2] | rw [b3] | rw [b4] | rw [b5] | rw [b6] | rw [b7] | rw [b9])
    all_goals
      go_ret
      exact ⟨ret_bool (ls_f1 (fun x => b5' x.2.2.2.2.1)), HB.out⟩
  have b5' := of_decide_eq_true b5
  cases b6 : inB g 0 7
  · have b6' := of_decide_eq_false b6
    go_enter Try.func21, Try.ntmps21
    go_wp2_with (go_at_call 33; refine (c_in _ _ _ _).mono ?_; rintro e' w' ⟨rfl, hq⟩; have hq' := hq.symm; subst hq'; clear hq; first | rw [b1] | rw [b2] | rw [b3] | rw [b4] | rw [b5] | rw [b6] | rw [b7] | rw [b9])
    all_goals
      go_ret
      exact ⟨ret_bool (ls_f1 (fun x => b6' x.2.2.2.2.2.1)), HB.out⟩
  have b6' := of_decide_eq_true b6
  cases b7 : inB s 0 3
  · have b7' := of_decide_eq_false b7
    go_enter Try.func21, Try.ntmps21
    go_wp2_with (go_at_call 33; refine (c_in _ _ _ _).mono ?_; rintro e' w' ⟨rfl, hq⟩; have hq' := hq.symm; subst hq'; clear hq; first | rw [b1] | rw [b2] | rw [b3] | rw [b4] | rw [b5] | rw [b6] | rw [b7] | rw [b9])
    all_goals
      go_ret
      exact ⟨ret_bool (ls_f1 (fun x => b7' x.2.2.2.2.2.2.1)), HB.out⟩
  have b7' := of_decide_eq_true b7
  cases b8 : decide ((30 : Int) < (b.size : Int))
  case true =>
    have b8' := of_decide_eq_true b8
    go_enter Try.func21, Try.ntmps21
    go_wp2_with (go_at_call 33; refine (c_in _ _ _ _).mono ?_; rintro e' w' ⟨rfl, hq⟩; have hq' := hq.symm; subst hq'; clear hq; first | rw [b1] | rw [b2] | rw [b3] | rw [b4] | rw [b5] | rw [b6] | rw [b7] | rw [b9])
    all_goals
      go_ret
      exact ⟨ret_bool (ls_f1 (fun x => by have := x.2.2.2.2.2.2.2; omega)), HB.out⟩
  have b8' := of_decide_eq_false b8
  have K1 : Hid ((1 ≤ e ∧ e ≤ 60) ∧ (1 ≤ l ∧ l ≤ 60) ∧ (1 ≤ k ∧ k ≤ 6) ∧ (0 ≤ p ∧ p ≤ l - 1) ∧ (0 ≤ n ∧ n ≤ l - 1) ∧ (0 ≤ g ∧ g ≤ 7) ∧ (0 ≤ s ∧ s ≤ 3) ∧ b.size ≤ 30) := ⟨b1', b2', b3', b4', b5', b6', b7', by omega⟩
  by_cases k6 : k = 6
  · subst k6
    by_cases d0 : t = 0
    case neg =>
      go_enter Try.func21, Try.ntmps21
      go_wp2_with (go_at_call 33; refine (c_in _ _ _ _).mono ?_; rintro e' w' ⟨rfl, hq⟩; have hq' := hq.symm; subst hq'; clear hq; first | rw [b1] | rw [b2] | rw [b3] | rw [b4] | rw [b5] | rw [b6] | rw [b7] | rw [b9])
      all_goals
        go_ret
        exact ⟨ret_bool (ls_c0 K1.out rfl (fun x => d0 x.1)), HB.out⟩
    subst d0
    by_cases d1 : p = 0
    case neg =>
      go_enter Try.func21, Try.ntmps21
      go_wp2_with (go_at_call 33; refine (c_in _ _ _ _).mono ?_; rintro e' w' ⟨rfl, hq⟩; have hq' := hq.symm; subst hq'; clear hq; first | rw [b1] | rw [b2] | rw [b3] | rw [b4] | rw [b5] | rw [b6] | rw [b7] | rw [b9])
      all_goals
        go_ret
        exact ⟨ret_bool (ls_c0 K1.out rfl (fun x => d1 x.2.1)), HB.out⟩
    subst d1
    by_cases d2 : n = 0
    case neg =>
      go_enter Try.func21, Try.ntmps21
      go_wp2_with (go_at_call 33; refine (c_in _ _ _ _).mono ?_; rintro e' w' ⟨rfl, hq⟩; have hq' := hq.symm; subst hq'; clear hq; first | rw [b1] | rw [b2] | rw [b3] | rw [b4] | rw [b5] | rw [b6] | rw [b7] | rw [b9])
      all_goals
        go_ret
        exact ⟨ret_bool (ls_c0 K1.out rfl (fun x => d2 x.2.2.1)), HB.out⟩
    subst d2
    by_cases d3 : g = 0
    case neg =>
      go_enter Try.func21, Try.ntmps21
      go_wp2_with (go_at_call 33; refine (c_in _ _ _ _).mono ?_; rintro e' w' ⟨rfl, hq⟩; have hq' := hq.symm; subst hq'; clear hq; first | rw [b1] | rw [b2] | rw [b3] | rw [b4] | rw [b5] | rw [b6] | rw [b7] | rw [b9])
      all_goals
        go_ret
        exact ⟨ret_bool (ls_c0 K1.out rfl (fun x => d3 x.2.2.2.1)), HB.out⟩
    subst d3
    by_cases d4 : s = 0
    case neg =>
      go_enter Try.func21, Try.ntmps21
      go_wp2_with (go_at_call 33; refine (c_in _ _ _ _).mono ?_; rintro e' w' ⟨rfl, hq⟩; have hq' := hq.symm; subst hq'; clear hq; first | rw [b1] | rw [b2] | rw [b3] | rw [b4] | rw [b5] | rw [b6] | rw [b7] | rw [b9])
      all_goals
        go_ret
        exact ⟨ret_bool (ls_c0 K1.out rfl (fun x => d4 x.2.2.2.2.1)), HB.out⟩
    subst d4
    cases d5 : b.toList.isEmpty
    case false =>
      go_enter Try.func21, Try.ntmps21
      go_wp2_with (go_at_call 33; refine (c_in _ _ _ _).mono ?_; rintro e' w' ⟨rfl, hq⟩; have hq' := hq.symm; subst hq'; clear hq; first | rw [b1] | rw [b2] | rw [b3] | rw [b4] | rw [b5] | rw [b6] | rw [b7] | rw [b9])
      all_goals
        go_ret
        exact ⟨ret_bool (ls_c0 K1.out rfl (fun x => by have := (szE b).1 x.2.2.2.2.2; rw [this] at d5; cases d5)), HB.out⟩
    have E : Hid (okLS ⟨e, l, 0, 6, 0, 0, 0, 0, b, a⟩ = ckB (numsT a) l) := ls_c1 K1.out rfl ⟨rfl, rfl, rfl, rfl, rfl, (szE b).2 (List.isEmpty_iff.1 d5)⟩
    have CK : Hid (∀ W, Calls Try.prog 34 #[.agg #[.int .i64 e, .int .i64 l, .int .i64 0, .int .i64 6, .int .i64 0, .int .i64 0, .int .i64 0, .int .i64 0, .string b, .string a]] W fun e' w' => e' = .returned (.bool (ckB (numsT a) l)) ∧ Below W.heap.size W w') := fun W => c_ckS e l 0 6 0 0 0 0 b a W b2' has
    go_enter Try.func21, Try.ntmps21
    go_wp2_with (first | (go_at_call 33; refine (c_in _ _ _ _).mono ?_; rintro e' w' ⟨rfl, hq⟩; have hq' := hq.symm; subst hq'; clear hq; first | rw [b1] | rw [b2] | rw [b3] | rw [b4] | rw [b5] | rw [b6] | rw [b7] | rw [b9]) | (go_at_call 34; refine (CK.out _).mono ?_; rintro e' w2 ⟨rfl, hb⟩; have B2 : Hid (Below w.heap.size w w2) := (HB.out.trans (hb.mono HB.out.size)); clear hb))
    go_ret
    exact ⟨ret_bool E.out.symm, B2.out⟩
  cases b9 : inB t 1 60
  · have b9' := of_decide_eq_false b9
    go_enter Try.func21, Try.ntmps21
    go_wp2_with (go_at_call 33; refine (c_in _ _ _ _).mono ?_; rintro e' w' ⟨rfl, hq⟩; have hq' := hq.symm; subst hq'; clear hq; first | rw [b1] | rw [b2] | rw [b3] | rw [b4] | rw [b5] | rw [b6] | rw [b7] | rw [b9])
    all_goals
      go_ret
      exact ⟨ret_bool (ls_f2 K1.out k6 (fun x => b9' x.1)), HB.out⟩
  have b9' := of_decide_eq_true b9
  by_cases b10 : 30 < a.size
  · go_enter Try.func21, Try.ntmps21
    go_wp2_with (go_at_call 33; refine (c_in _ _ _ _).mono ?_; rintro e' w' ⟨rfl, hq⟩; have hq' := hq.symm; subst hq'; clear hq; first | rw [b1] | rw [b2] | rw [b3] | rw [b4] | rw [b5] | rw [b6] | rw [b7] | rw [b9])
    all_goals
      go_ret
      exact ⟨ret_bool (ls_f2 K1.out k6 (fun x => by have := x.2; omega)), HB.out⟩
  have K2 : Hid ((1 ≤ t ∧ t ≤ 60) ∧ a.size ≤ 30) := ⟨b9', by omega⟩
  by_cases k2 : k = 2
  · subst k2
    by_cases d1 : n = 0
    case neg =>
      go_enter Try.func21, Try.ntmps21
      go_wp2_with (go_at_call 33; refine (c_in _ _ _ _).mono ?_; rintro e' w' ⟨rfl, hq⟩; have hq' := hq.symm; subst hq'; clear hq; first | rw [b1] | rw [b2] | rw [b3] | rw [b4] | rw [b5] | rw [b6] | rw [b7] | rw [b9])
      all_goals
        go_ret
        exact ⟨ret_bool (ls_f3 K1.out k6 (.inr (.inl ⟨by omega, d1⟩))), HB.out⟩
    have E : Hid (okLS ⟨e, l, t, 2, p, n, g, s, b, a⟩ = decide (((2 : Int) = 1) ↔ (p = 0))) := ls_t K1.out k6 K2.out (by omega)
    subst d1
    by_cases dp : p = 0
    case pos =>
      subst dp
      go_enter Try.func21, Try.ntmps21
      go_wp2_with (go_at_call 33; refine (c_in _ _ _ _).mono ?_; rintro e' w' ⟨rfl, hq⟩; have hq' := hq.symm; subst hq'; clear hq; first | rw [b1] | rw [b2] | rw [b3] | rw [b4] | rw [b5] | rw [b6] | rw [b7] | rw [b9])
      all_goals
        go_ret
        exact ⟨ret_bool (by rw [E.out]; simp), HB.out⟩
    go_enter Try.func21, Try.ntmps21
    go_wp2_with (go_at_call 33; refine (c_in _ _ _ _).mono ?_; rintro e' w' ⟨rfl, hq⟩; have hq' := hq.symm; subst hq'; clear hq; first | rw [b1] | rw [b2] | rw [b3] | rw [b4] | rw [b5] | rw [b6] | rw [b7] | rw [b9])
    all_goals
      go_ret
      exact ⟨ret_bool (by rw [E.out]; simp [dp]), HB.out⟩
  by_cases k3 : k = 3
  · subst k3
    cases d5 : b.toList.isEmpty
    case false =>
      go_enter Try.func21, Try.ntmps21
      go_wp2_with (go_at_call 33; refine (c_in _ _ _ _).mono ?_; rintro e' w' ⟨rfl, hq⟩; have hq' := hq.symm; subst hq'; clear hq; first | rw [b1] | rw [b2] | rw [b3] | rw [b4] | rw [b5] | rw [b6] | rw [b7] | rw [b9])
      all_goals
        go_ret
        exact ⟨ret_bool (ls_f3 K1.out k6 (.inr (.inr ⟨rfl, fun x => by have := (szE b).1 x; rw [this] at d5; cases d5⟩))), HB.out⟩
    have d6 : b.size = 0 := (szE b).2 (List.isEmpty_iff.1 d5)
    have E : Hid (okLS ⟨e, l, t, 3, p, n, g, s, b, a⟩ = decide (((3 : Int) = 1) ↔ (p = 0))) := ls_t K1.out k6 K2.out (by omega)
    clear d6
    by_cases dp : p = 0
    case pos =>
      subst dp
      go_enter Try.func21, Try.ntmps21
      go_wp2_with (go_at_call 33; refine (c_in _ _ _ _).mono ?_; rintro e' w' ⟨rfl, hq⟩; have hq' := hq.symm; subst hq'; clear hq; first | rw [b1] | rw [b2] | rw [b3] | rw [b4] | rw [b5] | rw [b6] | rw [b7] | rw [b9])
      all_goals
        go_ret
        exact ⟨ret_bool (by rw [E.out]; simp), HB.out⟩
    go_enter Try.func21, Try.ntmps21
    go_wp2_with (go_at_call 33; refine (c_in _ _ _ _).mono ?_; rintro e' w' ⟨rfl, hq⟩; have hq' := hq.symm; subst hq'; clear hq; first | rw [b1] | rw [b2] | rw [b3] | rw [b4] | rw [b5] | rw [b6] | rw [b7] | rw [b9])
    all_goals
      go_ret
      exact ⟨ret_bool (by rw [E.out]; simp [dp]), HB.out⟩
  by_cases d0 : g = 0
  case neg =>
    go_enter Try.func21, Try.ntmps21
    go_wp2_with (go_at_call 33; refine (c_in _ _ _ _).mono ?_; rintro e' w' ⟨rfl, hq⟩; have hq' := hq.symm; subst hq'; clear hq; first | rw [b1] | rw [b2] | rw [b3] | rw [b4] | rw [b5] | rw [b6] | rw [b7] | rw [b9])
    all_goals
      go_ret
      exact ⟨ret_bool (ls_f3 K1.out k6 (.inl ⟨by omega, .inl d0⟩)), HB.out⟩
  subst d0
  by_cases d1 : s = 0
  case neg =>
    go_enter Try.func21, Try.ntmps21
    go_wp2_with (go_at_call 33; refine (c_in _ _ _ _).mono ?_; rintro e' w' ⟨rfl, hq⟩; have hq' := hq.symm; subst hq'; clear hq; first | rw [b1] | rw [b2] | rw [b3] | rw [b4] | rw [b5] | rw [b6] | rw [b7] | rw [b9])
    all_goals
      go_ret
      exact ⟨ret_bool (ls_f3 K1.out k6 (.inl ⟨by omega, .inr (.inl d1)⟩)), HB.out⟩
  subst d1
  cases d5 : b.toList.isEmpty
  case false =>
    go_enter Try.func21, Try.ntmps21
    go_wp2_with (go_at_call 33; refine (c_in _ _ _ _).mono ?_; rintro e' w' ⟨rfl, hq⟩; have hq' := hq.symm; subst hq'; clear hq; first | rw [b1] | rw [b2] | rw [b3] | rw [b4] | rw [b5] | rw [b6] | rw [b7] | rw [b9])
    all_goals
      go_ret
      exact ⟨ret_bool (ls_f3 K1.out k6 (.inl ⟨by omega, .inr (.inr (.inl (fun x => by have := (szE b).1 x; rw [this] at d5; cases d5)))⟩)), HB.out⟩
  cases d6 : a.toList.isEmpty
  case false =>
    go_enter Try.func21, Try.ntmps21
    go_wp2_with (go_at_call 33; refine (c_in _ _ _ _).mono ?_; rintro e' w' ⟨rfl, hq⟩; have hq' := hq.symm; subst hq'; clear hq; first | rw [b1] | rw [b2] | rw [b3] | rw [b4] | rw [b5] | rw [b6] | rw [b7] | rw [b9])
    all_goals
      go_ret
      exact ⟨ret_bool (ls_f3 K1.out k6 (.inl ⟨by omega, .inr (.inr (.inr (fun x => by have := (szE a).1 x; rw [this] at d6; cases d6)))⟩)), HB.out⟩
  by_cases d7 : n = 0
  case neg =>
    go_enter Try.func21, Try.ntmps21
    go_wp2_with (go_at_call 33; refine (c_in _ _ _ _).mono ?_; rintro e' w' ⟨rfl, hq⟩; have hq' := hq.symm; subst hq'; clear hq; first | rw [b1] | rw [b2] | rw [b3] | rw [b4] | rw [b5] | rw [b6] | rw [b7] | rw [b9])
    all_goals
      go_ret
      exact ⟨ret_bool (ls_f3 K1.out k6 (.inr (.inl ⟨by omega, d7⟩))), HB.out⟩
  have d8 : b.size = 0 := (szE b).2 (List.isEmpty_iff.1 d5)
  have d9 : a.size = 0 := (szE a).2 (List.isEmpty_iff.1 d6)
  have E : Hid (okLS ⟨e, l, t, k, p, n, 0, 0, b, a⟩ = decide ((k = 1) ↔ (p = 0))) := ls_t K1.out k6 K2.out (by omega)
  clear d8 d9
  subst d7
  by_cases dk : k = 1
  · subst dk
    by_cases dp : p = 0
    case pos =>
      subst dp
      go_enter Try.func21, Try.ntmps21
      go_wp2_with (go_at_call 33; refine (c_in _ _ _ _).mono ?_; rintro e' w' ⟨rfl, hq⟩; have hq' := hq.symm; subst hq'; clear hq; first | rw [b1] | rw [b2] | rw [b3] | rw [b4] | rw [b5] | rw [b6] | rw [b7] | rw [b9])
      all_goals
        go_ret
        exact ⟨ret_bool (by rw [E.out]; simp), HB.out⟩
    go_enter Try.func21, Try.ntmps21
    go_wp2_with (go_at_call 33; refine (c_in _ _ _ _).mono ?_; rintro e' w' ⟨rfl, hq⟩; have hq' := hq.symm; subst hq'; clear hq; first | rw [b1] | rw [b2] | rw [b3] | rw [b4] | rw [b5] | rw [b6] | rw [b7] | rw [b9])
    all_goals
      go_ret
      exact ⟨ret_bool (by rw [E.out]; simp [dp]), HB.out⟩
  by_cases dp : p = 0
  case pos =>
    subst dp
    go_enter Try.func21, Try.ntmps21
    go_wp2_with (go_at_call 33; refine (c_in _ _ _ _).mono ?_; rintro e' w' ⟨rfl, hq⟩; have hq' := hq.symm; subst hq'; clear hq; first | rw [b1] | rw [b2] | rw [b3] | rw [b4] | rw [b5] | rw [b6] | rw [b7] | rw [b9])
    all_goals
      go_ret
      exact ⟨ret_bool (by rw [E.out]; simp [dk]), HB.out⟩
  go_enter Try.func21, Try.ntmps21
  go_wp2_with (go_at_call 33; refine (c_in _ _ _ _).mono ?_; rintro e' w' ⟨rfl, hq⟩; have hq' := hq.symm; subst hq'; clear hq; first | rw [b1] | rw [b2] | rw [b3] | rw [b4] | rw [b5] | rw [b6] | rw [b7] | rw [b9])
  all_goals
    go_ret
    exact ⟨ret_bool (by rw [E.out, show (k == 1) = false from beq_eq_false_iff_ne.2 dk, show (p == 0) = false from beq_eq_false_iff_ne.2 dp]; simp [dk, dp]), HB.out⟩

end Go.Proofs.Ytimdoaehlciecaa
