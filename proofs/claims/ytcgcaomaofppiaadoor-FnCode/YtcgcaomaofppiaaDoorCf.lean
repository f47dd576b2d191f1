/-
  The small functions of code.
-/
import Derived.Test.YtcgcaomaofppiaaDoorCe
import Derived.Deep.RegionHeld3
import Derived.Deep.QuietTactic
import Derived.BigQuiet
namespace Go.Proofs.YtcgcaomaofppiaaDoor
open Go Go.RowKit
attribute [local go_sem ↓] Go.wp_at_zero Go.wp_at_succ

set_option linter.unusedVariables false
set_option maxRecDepth 100000 in
set_option maxHeartbeats 4000000 in
theorem c_isCol (x : Int) (w : World) : Calls Tryd.prog 79 #[.int .i64 x] w fun e w' => e = .returned (.bool (inB x 0 2)) ∧ w' = w := by
  by_cases h1 : 0 ≤ x <;> by_cases h2 : x < 3
  all_goals
    go_enter Tryd.func79, Tryd.ntmps79
    go_wp2
    go_ret
    exact ⟨ret_bool (by simp [inB]; omega), rfl⟩
set_option maxRecDepth 100000 in
set_option maxHeartbeats 4000000 in
theorem c_isUn (x : Int) (w : World) : Calls Tryd.prog 80 #[.int .i64 x] w fun e w' => e = .returned (.bool (inB x 3 5)) ∧ w' = w := by
  by_cases h1 : 3 ≤ x <;> by_cases h2 : x ≤ 5
  all_goals
    go_enter Tryd.func80, Tryd.ntmps80
    go_wp2
    go_ret
    exact ⟨ret_bool (by simp [inB, h1, h2]), rfl⟩
set_option maxRecDepth 100000 in
set_option maxHeartbeats 4000000 in
theorem c_isBi (x : Int) (w : World) : Calls Tryd.prog 81 #[.int .i64 x] w fun e w' => e = .returned (.bool (inB x 6 13)) ∧ w' = w := by
  by_cases h1 : 6 ≤ x <;> by_cases h2 : x ≤ 13
  all_goals
    go_enter Tryd.func81, Tryd.ntmps81
    go_wp2
    go_ret
    exact ⟨ret_bool (by simp [inB, h1, h2]), rfl⟩
theorem maxIf (a d : Int) : (if a < d then d else a) = max a d := by rw [Int.max_def]; split <;> split <;> omega
set_option maxRecDepth 100000 in
set_option maxHeartbeats 4000000 in
theorem c_isJ (o : Int) (w : World) : Calls Tryd.prog 69 #[.int .i64 o] w fun e w' => e = .returned (.bool (jmp o)) ∧ w' = w := by
  cases h1 : (o == 5) <;> cases h2 : (o == 6)
  all_goals
    go_enter Tryd.func69, Tryd.ntmps69
    go_wp2
    go_ret
    exact ⟨ret_bool (by simp [jmp, h1, h2]), rfl⟩
set_option maxRecDepth 100000 in
set_option maxHeartbeats 4000000 in
theorem c_leads (g m : Nat) (ds : List Int) (to : Nat) (v : Int) (w : World) (h : NB w g ds) (hm : ds.length = m) (ht : to < m) :
    Calls Tryd.prog 68 #[.slice (some ⟨g, 0, none⟩) m m, .int .i64 (to : Int), .int .i64 v] w fun e w' => e = .returned (.bool (leadB ds to v)) ∧ NB w' g (leadT ds to v) ∧ Inn g (g + 1) w w' := by
  have c0 := h.cell (i := to) (by omega)
  have f0 := h.thaw to
  have g0 : (0 : Int) ≤ (to : Int) := by omega
  have g1 : (to : Int) < (m : Int) := by omega
  obtain ⟨d, hd⟩ : ∃ d, ds.getD to 0 = d := ⟨_, rfl⟩
  rw [hd] at c0
  by_cases hn : d < 0
  · have E : Hid (leadT ds to v = ds.set to v ∧ leadB ds to v = true) := by
      unfold Hid leadB leadT
      rw [hd, if_pos hn, getD_set_self (by omega)]
      exact ⟨rfl, by simp⟩
    have HN : Hid (NB (w.setCell ⟨g, to, none⟩ (.int .i64 v)) g (ds.set to v)) := h.set to v
    have rv : (v == v) = true := by simp
    clear h hd hm
    go_enter Tryd.func68, Tryd.ntmps68
    go_wp2
    go_ret
    exact ⟨ret_bool (by rw [E.out.2]), by rw [E.out.1]; exact HN.out, ⟨rfl, rfl, rfl, by simp, fun j _ ho => Below.heap_setCell w _ _ j (by show j ≠ g; omega)⟩⟩
  · have E : Hid (leadT ds to v = ds ∧ leadB ds to v = (d == v)) := by
      unfold Hid leadB leadT
      rw [hd, if_neg hn, hd]
      exact ⟨rfl, rfl⟩
    have HN : Hid (NB w g ds) := h
    clear h hd hm
    go_enter Tryd.func68, Tryd.ntmps68
    go_wp2
    go_ret
    exact ⟨ret_bool (by rw [E.out.2]), by rw [E.out.1]; exact HN.out, Inn.of_below (Below.refl _ _)⟩
set_option maxRecDepth 100000 in
set_option maxHeartbeats 4000000 in
theorem c_max (g m : Nat) (ds : List Int) (w : World) (h : NB w g ds) (hm : ds.length = m) (h0 : 0 < m) (hm' : m ≤ 1048576) :
    Calls Tryd.prog 70 #[.slice (some ⟨g, 0, none⟩) m m] w fun e w' => e = .returned (.int .i64 (mxI ds)) ∧ w' = w := by
  have c0 := h.cell (i := 0) (by omega)
  have n1 : ¬ ((m : Int) < 1) := by omega
  have g1 : (0 : Int) < (m : Int) := by omega
  obtain ⟨M, hM⟩ : ∃ M, M = mxI ds := ⟨_, rfl⟩
  have HM : Hid (mxF (ds.getD 0 0) (ds.drop 1) = M) := hM.symm
  rw [← hM]
  clear hM
  have H : Hid (NB w g ds) := h
  have HL : Hid (ds.length = m) := hm
  clear h hm
  go_enter Tryd.func70, Tryd.ntmps70
  go_wp2
  go_loop [3, 4] (fun x i => ∃ (k : Nat) (a : Int), 1 ≤ k ∧ k ≤ m ∧ x = .int .i64 a ∧ i = .int .i64 (k : Int) ∧ Hid (mxF a (ds.drop k) = M)) (fun _ i => m - (intOf i).toNat)
  case atStart => exact ⟨1, _, by omega, by omega, rfl, rfl, HM⟩
  case round =>
    obtain ⟨k, a, hk1, hk, rfl, rfl, HE⟩ := hrel
    by_cases hlt : k < m
    · have cK := H.out.cell (i := k) (by have := HL.out; omega)
      obtain ⟨d, hd⟩ : ∃ d, ds.getD k 0 = d := ⟨_, rfl⟩
      rw [hd] at cK
      have HS : Hid (mxF (max a d) (ds.drop (k + 1)) = M) := by unfold Hid; rw [← hd, ← mxF_step (by have := HL.out; omega)]; exact HE.out
      clear hd HE
      have g2 : (0 : Int) ≤ (k : Int) := by omega
      have g3 : (k : Int) < (m : Int) := by omega
      go_wp2
      go_round
      case rel => exact ⟨k + 1, max a d, by omega, by omega, by rw [maxIf], by go_num, HS⟩
      case measure => simp [intOf]; omega
    · have e : k = m := by omega
      subst e
      have E : Hid (a = M) := by unfold Hid; rw [← HE.out, List.drop_eq_nil_of_le (by have := HL.out; omega)]; rfl
      go_wp2
      go_ret
      exact ⟨ret_int E.out, rfl⟩
set_option maxRecDepth 100000 in
set_option maxHeartbeats 4000000 in
theorem c_hj_1p (L : List IN) (a : Option Addr) (n c k : Nat) (x : IN) (w : World) (hr : RdI w a n L) (hk : k < n) (hn : n ≤ 1048576) (hx : x = L.getD k zeroI) (hs : x.t.size ≤ maxLen) (o1 : (x.o == 1) = true) (p0 : (x.p == 0) = false) (r : Bool) (E : Hid (r = false)) :
    Calls Tryd.prog 67 #[.slice a n c, .int .i64 (k : Int)] w fun e w' => e = .returned (.bool r) ∧ Below w.heap.size w w' := by
  obtain ⟨b, off, rfl, hbl, hc⟩ := hr.2 (by omega)
  obtain ⟨d0, d1, d2, d3, d4⟩ := RdI.at hc hk hx
  have g1 : (0 : Int) ≤ (k : Int) := by omega
  have g2 : (k : Int) < (n : Int) := by omega
  clear hc hx hr
  go_enter Tryd.func67, Tryd.ntmps67
  go_wp2_with (first | (go_at_call 79; refine (c_isCol _ _).mono ?_; rintro e w' ⟨rfl, rfl⟩) | (go_at_call 80; refine (c_isUn _ _).mono ?_; rintro e w' ⟨rfl, rfl⟩) | (go_at_call 81; refine (c_isBi _ _).mono ?_; rintro e w' ⟨rfl, rfl⟩) | (go_at_call 69; refine (c_isJ _ _).mono ?_; rintro e w' ⟨rfl, rfl⟩))
  go_ret
  exact ⟨ret_bool (by rw [E.out]), (Below.refl _ _).alloc (Nat.le_refl _) _⟩
set_option maxRecDepth 100000 in
set_option maxHeartbeats 4000000 in
theorem c_hj_1v (L : List IN) (a : Option Addr) (n c k : Nat) (x : IN) (w : World) (hr : RdI w a n L) (hk : k < n) (hn : n ≤ 1048576) (hx : x = L.getD k zeroI) (hs : x.t.size ≤ maxLen) (o1 : (x.o == 1) = true) (p0 : (x.p == 0) = true) (r : Bool) (E : Hid (r = valB x.k x.n x.t)) :
    Calls Tryd.prog 67 #[.slice a n c, .int .i64 (k : Int)] w fun e w' => e = .returned (.bool r) ∧ Below w.heap.size w w' := by
  obtain ⟨b, off, rfl, hbl, hc⟩ := hr.2 (by omega)
  obtain ⟨d0, d1, d2, d3, d4⟩ := RdI.at hc hk hx
  have g1 : (0 : Int) ≤ (k : Int) := by omega
  have g2 : (k : Int) < (n : Int) := by omega
  clear hc hx hr
  go_enter Tryd.func67, Tryd.ntmps67
  go_wp2_with fail
  refine (c_implOK _ _ _ _ hs).mono ?_
  rintro e w1 ⟨rfl, hb⟩
  have HB : Hid (Below w.heap.size w w1) := ((Below.refl _ _).alloc (Nat.le_refl _) _).trans (hb.mono (by simp))
  clear hb
  go_wp2
  go_ret
  exact ⟨ret_bool (by rw [E.out]), HB.out⟩
set_option maxRecDepth 100000 in
set_option maxHeartbeats 4000000 in
theorem c_hj_k (L : List IN) (a : Option Addr) (n c k : Nat) (x : IN) (w : World) (hr : RdI w a n L) (hk : k < n) (hn : n ≤ 1048576) (hx : x = L.getD k zeroI) (hs : x.t.size ≤ maxLen) (o1 : (x.o == 1) = false) (k0 : (x.k == 0) = false) (r : Bool) (E : Hid (r = false)) :
    Calls Tryd.prog 67 #[.slice a n c, .int .i64 (k : Int)] w fun e w' => e = .returned (.bool r) ∧ Below w.heap.size w w' := by
  obtain ⟨b, off, rfl, hbl, hc⟩ := hr.2 (by omega)
  obtain ⟨d0, d1, d2, d3, d4⟩ := RdI.at hc hk hx
  have g1 : (0 : Int) ≤ (k : Int) := by omega
  have g2 : (k : Int) < (n : Int) := by omega
  clear hc hx hr
  go_enter Tryd.func67, Tryd.ntmps67
  go_wp2_with (first | (go_at_call 79; refine (c_isCol _ _).mono ?_; rintro e w' ⟨rfl, rfl⟩) | (go_at_call 80; refine (c_isUn _ _).mono ?_; rintro e w' ⟨rfl, rfl⟩) | (go_at_call 81; refine (c_isBi _ _).mono ?_; rintro e w' ⟨rfl, rfl⟩) | (go_at_call 69; refine (c_isJ _ _).mono ?_; rintro e w' ⟨rfl, rfl⟩))
  go_ret
  exact ⟨ret_bool (by rw [E.out]), (Below.refl _ _).alloc (Nat.le_refl _) _⟩
set_option maxRecDepth 100000 in
set_option maxHeartbeats 4000000 in
theorem c_hj_n (L : List IN) (a : Option Addr) (n c k : Nat) (x : IN) (w : World) (hr : RdI w a n L) (hk : k < n) (hn : n ≤ 1048576) (hx : x = L.getD k zeroI) (hs : x.t.size ≤ maxLen) (o1 : (x.o == 1) = false) (k0 : (x.k == 0) = true) (n0 : (x.n == 0) = false) (r : Bool) (E : Hid (r = false)) :
    Calls Tryd.prog 67 #[.slice a n c, .int .i64 (k : Int)] w fun e w' => e = .returned (.bool r) ∧ Below w.heap.size w w' := by
  obtain ⟨b, off, rfl, hbl, hc⟩ := hr.2 (by omega)
  obtain ⟨d0, d1, d2, d3, d4⟩ := RdI.at hc hk hx
  have g1 : (0 : Int) ≤ (k : Int) := by omega
  have g2 : (k : Int) < (n : Int) := by omega
  clear hc hx hr
  go_enter Tryd.func67, Tryd.ntmps67
  go_wp2_with (first | (go_at_call 79; refine (c_isCol _ _).mono ?_; rintro e w' ⟨rfl, rfl⟩) | (go_at_call 80; refine (c_isUn _ _).mono ?_; rintro e w' ⟨rfl, rfl⟩) | (go_at_call 81; refine (c_isBi _ _).mono ?_; rintro e w' ⟨rfl, rfl⟩) | (go_at_call 69; refine (c_isJ _ _).mono ?_; rintro e w' ⟨rfl, rfl⟩))
  go_ret
  exact ⟨ret_bool (by rw [E.out]), (Below.refl _ _).alloc (Nat.le_refl _) _⟩
set_option maxRecDepth 100000 in
set_option maxHeartbeats 4000000 in
theorem c_hj_t (L : List IN) (a : Option Addr) (n c k : Nat) (x : IN) (w : World) (hr : RdI w a n L) (hk : k < n) (hn : n ≤ 1048576) (hx : x = L.getD k zeroI) (hs : x.t.size ≤ maxLen) (o1 : (x.o == 1) = false) (k0 : (x.k == 0) = true) (n0 : (x.n == 0) = true) (t0 : (x.t.toList == []) = false) (r : Bool) (E : Hid (r = false)) :
    Calls Tryd.prog 67 #[.slice a n c, .int .i64 (k : Int)] w fun e w' => e = .returned (.bool r) ∧ Below w.heap.size w w' := by
  obtain ⟨b, off, rfl, hbl, hc⟩ := hr.2 (by omega)
  obtain ⟨d0, d1, d2, d3, d4⟩ := RdI.at hc hk hx
  have g1 : (0 : Int) ≤ (k : Int) := by omega
  have g2 : (k : Int) < (n : Int) := by omega
  clear hc hx hr
  go_enter Tryd.func67, Tryd.ntmps67
  go_wp2_with (first | (go_at_call 79; refine (c_isCol _ _).mono ?_; rintro e w' ⟨rfl, rfl⟩) | (go_at_call 80; refine (c_isUn _ _).mono ?_; rintro e w' ⟨rfl, rfl⟩) | (go_at_call 81; refine (c_isBi _ _).mono ?_; rintro e w' ⟨rfl, rfl⟩) | (go_at_call 69; refine (c_isJ _ _).mono ?_; rintro e w' ⟨rfl, rfl⟩))
  go_ret
  exact ⟨ret_bool (by rw [E.out]), (Below.refl _ _).alloc (Nat.le_refl _) _⟩
set_option maxRecDepth 100000 in
set_option maxHeartbeats 4000000 in
theorem c_hj_2 (L : List IN) (a : Option Addr) (n c k : Nat) (x : IN) (w : World) (hr : RdI w a n L) (hk : k < n) (hn : n ≤ 1048576) (hx : x = L.getD k zeroI) (hs : x.t.size ≤ maxLen) (o1 : (x.o == 1) = false) (k0 : (x.k == 0) = true) (n0 : (x.n == 0) = true) (t0 : (x.t.toList == []) = true) (o2 : (x.o == 2) = true) (r : Bool) (E : Hid (r = inB x.p 0 2)) :
    Calls Tryd.prog 67 #[.slice a n c, .int .i64 (k : Int)] w fun e w' => e = .returned (.bool r) ∧ Below w.heap.size w w' := by
  obtain ⟨b, off, rfl, hbl, hc⟩ := hr.2 (by omega)
  obtain ⟨d0, d1, d2, d3, d4⟩ := RdI.at hc hk hx
  have g1 : (0 : Int) ≤ (k : Int) := by omega
  have g2 : (k : Int) < (n : Int) := by omega
  clear hc hx hr
  go_enter Tryd.func67, Tryd.ntmps67
  go_wp2_with (first | (go_at_call 79; refine (c_isCol _ _).mono ?_; rintro e w' ⟨rfl, rfl⟩) | (go_at_call 80; refine (c_isUn _ _).mono ?_; rintro e w' ⟨rfl, rfl⟩) | (go_at_call 81; refine (c_isBi _ _).mono ?_; rintro e w' ⟨rfl, rfl⟩) | (go_at_call 69; refine (c_isJ _ _).mono ?_; rintro e w' ⟨rfl, rfl⟩))
  go_ret
  exact ⟨ret_bool (by rw [E.out]), (Below.refl _ _).alloc (Nat.le_refl _) _⟩
set_option maxRecDepth 100000 in
set_option maxHeartbeats 4000000 in
theorem c_hj_3 (L : List IN) (a : Option Addr) (n c k : Nat) (x : IN) (w : World) (hr : RdI w a n L) (hk : k < n) (hn : n ≤ 1048576) (hx : x = L.getD k zeroI) (hs : x.t.size ≤ maxLen) (o1 : (x.o == 1) = false) (k0 : (x.k == 0) = true) (n0 : (x.n == 0) = true) (t0 : (x.t.toList == []) = true) (o2 : (x.o == 2) = false) (o3 : (x.o == 3) = true) (r : Bool) (E : Hid (r = inB x.p 3 5)) :
    Calls Tryd.prog 67 #[.slice a n c, .int .i64 (k : Int)] w fun e w' => e = .returned (.bool r) ∧ Below w.heap.size w w' := by
  obtain ⟨b, off, rfl, hbl, hc⟩ := hr.2 (by omega)
  obtain ⟨d0, d1, d2, d3, d4⟩ := RdI.at hc hk hx
  have g1 : (0 : Int) ≤ (k : Int) := by omega
  have g2 : (k : Int) < (n : Int) := by omega
  clear hc hx hr
  go_enter Tryd.func67, Tryd.ntmps67
  go_wp2_with (first | (go_at_call 79; refine (c_isCol _ _).mono ?_; rintro e w' ⟨rfl, rfl⟩) | (go_at_call 80; refine (c_isUn _ _).mono ?_; rintro e w' ⟨rfl, rfl⟩) | (go_at_call 81; refine (c_isBi _ _).mono ?_; rintro e w' ⟨rfl, rfl⟩) | (go_at_call 69; refine (c_isJ _ _).mono ?_; rintro e w' ⟨rfl, rfl⟩))
  go_ret
  exact ⟨ret_bool (by rw [E.out]), (Below.refl _ _).alloc (Nat.le_refl _) _⟩
set_option maxRecDepth 100000 in
set_option maxHeartbeats 4000000 in
theorem c_hj_4 (L : List IN) (a : Option Addr) (n c k : Nat) (x : IN) (w : World) (hr : RdI w a n L) (hk : k < n) (hn : n ≤ 1048576) (hx : x = L.getD k zeroI) (hs : x.t.size ≤ maxLen) (o1 : (x.o == 1) = false) (k0 : (x.k == 0) = true) (n0 : (x.n == 0) = true) (t0 : (x.t.toList == []) = true) (o2 : (x.o == 2) = false) (o3 : (x.o == 3) = false) (o4 : (x.o == 4) = true) (r : Bool) (E : Hid (r = inB x.p 6 13)) :
    Calls Tryd.prog 67 #[.slice a n c, .int .i64 (k : Int)] w fun e w' => e = .returned (.bool r) ∧ Below w.heap.size w w' := by
  obtain ⟨b, off, rfl, hbl, hc⟩ := hr.2 (by omega)
  obtain ⟨d0, d1, d2, d3, d4⟩ := RdI.at hc hk hx
  have g1 : (0 : Int) ≤ (k : Int) := by omega
  have g2 : (k : Int) < (n : Int) := by omega
  clear hc hx hr
  go_enter Tryd.func67, Tryd.ntmps67
  go_wp2_with (first | (go_at_call 79; refine (c_isCol _ _).mono ?_; rintro e w' ⟨rfl, rfl⟩) | (go_at_call 80; refine (c_isUn _ _).mono ?_; rintro e w' ⟨rfl, rfl⟩) | (go_at_call 81; refine (c_isBi _ _).mono ?_; rintro e w' ⟨rfl, rfl⟩) | (go_at_call 69; refine (c_isJ _ _).mono ?_; rintro e w' ⟨rfl, rfl⟩))
  go_ret
  exact ⟨ret_bool (by rw [E.out]), (Below.refl _ _).alloc (Nat.le_refl _) _⟩
set_option maxRecDepth 100000 in
set_option maxHeartbeats 4000000 in
theorem c_hj_jn (L : List IN) (a : Option Addr) (n c k : Nat) (x : IN) (w : World) (hr : RdI w a n L) (hk : k < n) (hn : n ≤ 1048576) (hx : x = L.getD k zeroI) (hs : x.t.size ≤ maxLen) (o1 : (x.o == 1) = false) (k0 : (x.k == 0) = true) (n0 : (x.n == 0) = true) (t0 : (x.t.toList == []) = true) (o2 : (x.o == 2) = false) (o3 : (x.o == 3) = false) (o4 : (x.o == 4) = false) (ju : jmp x.o = false) (r : Bool) (E : Hid (r = false)) :
    Calls Tryd.prog 67 #[.slice a n c, .int .i64 (k : Int)] w fun e w' => e = .returned (.bool r) ∧ Below w.heap.size w w' := by
  obtain ⟨b, off, rfl, hbl, hc⟩ := hr.2 (by omega)
  obtain ⟨d0, d1, d2, d3, d4⟩ := RdI.at hc hk hx
  have g1 : (0 : Int) ≤ (k : Int) := by omega
  have g2 : (k : Int) < (n : Int) := by omega
  clear hc hx hr
  go_enter Tryd.func67, Tryd.ntmps67
  go_wp2_with (first | (go_at_call 79; refine (c_isCol _ _).mono ?_; rintro e w' ⟨rfl, rfl⟩) | (go_at_call 80; refine (c_isUn _ _).mono ?_; rintro e w' ⟨rfl, rfl⟩) | (go_at_call 81; refine (c_isBi _ _).mono ?_; rintro e w' ⟨rfl, rfl⟩) | (go_at_call 69; refine (c_isJ _ _).mono ?_; rintro e w' ⟨rfl, rfl⟩))
  go_ret
  exact ⟨ret_bool (by rw [E.out]), (Below.refl _ _).alloc (Nat.le_refl _) _⟩
set_option maxRecDepth 100000 in
set_option maxHeartbeats 4000000 in
theorem c_hj_jl (L : List IN) (a : Option Addr) (n c k : Nat) (x : IN) (w : World) (hr : RdI w a n L) (hk : k < n) (hn : n ≤ 1048576) (hx : x = L.getD k zeroI) (hs : x.t.size ≤ maxLen) (o1 : (x.o == 1) = false) (k0 : (x.k == 0) = true) (n0 : (x.n == 0) = true) (t0 : (x.t.toList == []) = true) (o2 : (x.o == 2) = false) (o3 : (x.o == 3) = false) (o4 : (x.o == 4) = false) (ju : jmp x.o = true) (lt : decide ((k : Int) < x.p) = false) (r : Bool) (E : Hid (r = false)) :
    Calls Tryd.prog 67 #[.slice a n c, .int .i64 (k : Int)] w fun e w' => e = .returned (.bool r) ∧ Below w.heap.size w w' := by
  obtain ⟨b, off, rfl, hbl, hc⟩ := hr.2 (by omega)
  obtain ⟨d0, d1, d2, d3, d4⟩ := RdI.at hc hk hx
  have g1 : (0 : Int) ≤ (k : Int) := by omega
  have g2 : (k : Int) < (n : Int) := by omega
  clear hc hx hr
  go_enter Tryd.func67, Tryd.ntmps67
  go_wp2_with (first | (go_at_call 79; refine (c_isCol _ _).mono ?_; rintro e w' ⟨rfl, rfl⟩) | (go_at_call 80; refine (c_isUn _ _).mono ?_; rintro e w' ⟨rfl, rfl⟩) | (go_at_call 81; refine (c_isBi _ _).mono ?_; rintro e w' ⟨rfl, rfl⟩) | (go_at_call 69; refine (c_isJ _ _).mono ?_; rintro e w' ⟨rfl, rfl⟩))
  go_ret
  exact ⟨ret_bool (by rw [E.out]), (Below.refl _ _).alloc (Nat.le_refl _) _⟩
set_option maxRecDepth 100000 in
set_option maxHeartbeats 4000000 in
theorem c_hj_jr (L : List IN) (a : Option Addr) (n c k : Nat) (x : IN) (w : World) (hr : RdI w a n L) (hk : k < n) (hn : n ≤ 1048576) (hx : x = L.getD k zeroI) (hs : x.t.size ≤ maxLen) (o1 : (x.o == 1) = false) (k0 : (x.k == 0) = true) (n0 : (x.n == 0) = true) (t0 : (x.t.toList == []) = true) (o2 : (x.o == 2) = false) (o3 : (x.o == 3) = false) (o4 : (x.o == 4) = false) (ju : jmp x.o = true) (lt : decide ((k : Int) < x.p) = true) (r : Bool) (E : Hid (r = decide (x.p ≤ (n : Int)))) :
    Calls Tryd.prog 67 #[.slice a n c, .int .i64 (k : Int)] w fun e w' => e = .returned (.bool r) ∧ Below w.heap.size w w' := by
  obtain ⟨b, off, rfl, hbl, hc⟩ := hr.2 (by omega)
  obtain ⟨d0, d1, d2, d3, d4⟩ := RdI.at hc hk hx
  have g1 : (0 : Int) ≤ (k : Int) := by omega
  have g2 : (k : Int) < (n : Int) := by omega
  clear hc hx hr
  go_enter Tryd.func67, Tryd.ntmps67
  go_wp2_with (first | (go_at_call 79; refine (c_isCol _ _).mono ?_; rintro e w' ⟨rfl, rfl⟩) | (go_at_call 80; refine (c_isUn _ _).mono ?_; rintro e w' ⟨rfl, rfl⟩) | (go_at_call 81; refine (c_isBi _ _).mono ?_; rintro e w' ⟨rfl, rfl⟩) | (go_at_call 69; refine (c_isJ _ _).mono ?_; rintro e w' ⟨rfl, rfl⟩))
  go_ret
  exact ⟨ret_bool (by rw [E.out]), (Below.refl _ _).alloc (Nat.le_refl _) _⟩
theorem eqB_no {a b : Int} (h : (a == b) = false) : ¬ a = b := by simpa using h
theorem eqB_yes {a b : Int} (h : (a == b) = true) : a = b := by simpa using h
theorem c_hasJust (L : List IN) (a : Option Addr) (n c k : Nat) (x : IN) (w : World) (hr : RdI w a n L) (hk : k < n) (hn : n ≤ 1048576) (hx : x = L.getD k zeroI) (hs : x.t.size ≤ maxLen) :
    Calls Tryd.prog 67 #[.slice a n c, .int .i64 (k : Int)] w fun e w' => e = .returned (.bool (justB n k x)) ∧ Below w.heap.size w w' := by
  cases o1 : (x.o == 1)
  · have q1 := eqB_no o1
    cases k0 : (x.k == 0)
    · exact c_hj_k L a n c k x w hr hk hn hx hs o1 k0 _ (by unfold Hid justB; have z : zV x = false := (by simp only [zV, k0]; rfl); simp [z, q1])
    cases n0 : (x.n == 0)
    · exact c_hj_n L a n c k x w hr hk hn hx hs o1 k0 n0 _ (by unfold Hid justB; have z : zV x = false := (by simp only [zV, k0, n0]; rfl); simp [z, q1])
    cases t0 : (x.t.toList == [])
    · exact c_hj_t L a n c k x w hr hk hn hx hs o1 k0 n0 t0 _ (by unfold Hid justB; have z : zV x = false := (by simp only [zV, k0, n0, t0]; rfl); simp [z, q1])
    have z : zV x = true := by simp only [zV, k0, n0, t0]; rfl
    cases o2 : (x.o == 2)
    · have q2 := eqB_no o2
      cases o3 : (x.o == 3)
      · have q3 := eqB_no o3
        cases o4 : (x.o == 4)
        · have q4 := eqB_no o4
          cases ju : jmp x.o
          · exact c_hj_jn L a n c k x w hr hk hn hx hs o1 k0 n0 t0 o2 o3 o4 ju _ (by unfold Hid justB; rw [if_neg q1, if_neg q2, if_neg q3, if_neg q4, ju]; rfl)
          · by_cases lt : (k : Int) < x.p
            · exact c_hj_jr L a n c k x w hr hk hn hx hs o1 k0 n0 t0 o2 o3 o4 ju (decide_eq_true lt) _ (by unfold Hid justB; rw [if_neg q1, if_neg q2, if_neg q3, if_neg q4, ju, z]; simp only [Bool.true_and, inB]; exact decide_eq_decide.2 (by omega))
            · exact c_hj_jl L a n c k x w hr hk hn hx hs o1 k0 n0 t0 o2 o3 o4 ju (decide_eq_false lt) _ (by unfold Hid justB; rw [if_neg q1, if_neg q2, if_neg q3, if_neg q4, ju, z]; simp only [Bool.true_and, inB]; exact decide_eq_false (by omega))
        · have q4 := eqB_yes o4
          exact c_hj_4 L a n c k x w hr hk hn hx hs o1 k0 n0 t0 o2 o3 o4 _ (by unfold Hid justB; rw [if_neg q1, if_neg q2, if_neg q3, if_pos q4, z, Bool.true_and])
      · have q3 := eqB_yes o3
        exact c_hj_3 L a n c k x w hr hk hn hx hs o1 k0 n0 t0 o2 o3 _ (by unfold Hid justB; rw [if_neg q1, if_neg q2, if_pos q3, z, Bool.true_and])
    · have q2 := eqB_yes o2
      exact c_hj_2 L a n c k x w hr hk hn hx hs o1 k0 n0 t0 o2 _ (by unfold Hid justB; rw [if_neg q1, if_pos q2, z, Bool.true_and])
  · have q1 := eqB_yes o1
    cases p0 : (x.p == 0)
    · exact c_hj_1p L a n c k x w hr hk hn hx hs o1 p0 _ (by unfold Hid justB; rw [if_pos q1, p0]; rfl)
    · exact c_hj_1v L a n c k x w hr hk hn hx hs o1 p0 _ (by unfold Hid justB; rw [if_pos q1, p0, Bool.true_and])

end Go.Proofs.YtcgcaomaofppiaaDoor
