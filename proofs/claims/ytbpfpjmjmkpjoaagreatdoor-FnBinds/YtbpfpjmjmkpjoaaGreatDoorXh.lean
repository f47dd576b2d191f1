/-
  The specification's l10Walk: leaves.
-/
import Derived.Test.YtbpfpjmjmkpjoaaGreatDoorXg
import Derived.Deep.QuietTactic
import Derived.BigQuiet
namespace Go.Proofs.YtbpfpjmjmkpjoaaGreatDoor
open Go Go.RowKit
set_option linter.unusedVariables false

theorem ret_w {a b c d : Int} {p q : Bool} (h : a = b) (h' : c = d) (h'' : p = q) : Ending.returned (.tuple #[.int .i64 a, .int .i64 c, .bool p]) = .returned (.tuple #[.int .i64 b, .int .i64 d, .bool q]) := by rw [h, h', h'']
set_option maxRecDepth 100000 in
set_option maxHeartbeats 4000000 in
theorem c_lW_1a (L : List EN) (a : Option Addr) (n c k : Nat) (x : EN) (w : World) (hr : RdE w a n L) (hk : k < n) (hn : n ≤ 1048576) (hx : x = L.getD k zeroE) (hs : x.t.size ≤ maxLen) (o1 : (x.o == 1) = true) (a0 : (x.a == 0) = false) (q : Nat × Nat × Bool) (E : Hid (q = (k, 1, false))) :
    Calls Tryz.prog 105 #[.agg #[.slice a n c], .int .i64 (k : Int)] w fun e w' => e = .returned (.tuple #[.int .i64 ((q).1 : Int), .int .i64 ((q).2.1 : Int), .bool (q).2.2]) ∧ Below w.heap.size w w' := by
  obtain ⟨b, off, rfl, hbl, hc⟩ := hr.2 (by omega)
  obtain ⟨d0, d1, d2, d3, d4, d5, d6⟩ := RdE.at hc hk hx
  have g1 : (0 : Int) ≤ (k : Int) := by omega
  have g2 : (k : Int) < (n : Int) := by omega
  have g3 : ¬ (k : Int) < 0 := by omega
  clear hc hx
  go_enter Tryz.func105, Tryz.ntmps105
  go_wp2_with (go_at_call 86; refine (c_in _ _ _ _).mono ?_; rintro e w' ⟨rfl, rfl⟩)
  go_ret3
  exact ⟨by rw [E.out]; rfl, ((Below.refl _ _).alloc (Nat.le_refl _) _).alloc (by simp) _⟩
set_option maxRecDepth 100000 in
set_option maxHeartbeats 4000000 in
theorem c_lW_1b (L : List EN) (a : Option Addr) (n c k : Nat) (x : EN) (w : World) (hr : RdE w a n L) (hk : k < n) (hn : n ≤ 1048576) (hx : x = L.getD k zeroE) (hs : x.t.size ≤ maxLen) (o1 : (x.o == 1) = true) (a0 : (x.a == 0) = true) (b0 : (x.b == 0) = false) (q : Nat × Nat × Bool) (E : Hid (q = (k, 1, false))) :
    Calls Tryz.prog 105 #[.agg #[.slice a n c], .int .i64 (k : Int)] w fun e w' => e = .returned (.tuple #[.int .i64 ((q).1 : Int), .int .i64 ((q).2.1 : Int), .bool (q).2.2]) ∧ Below w.heap.size w w' := by
  obtain ⟨b, off, rfl, hbl, hc⟩ := hr.2 (by omega)
  obtain ⟨d0, d1, d2, d3, d4, d5, d6⟩ := RdE.at hc hk hx
  have g1 : (0 : Int) ≤ (k : Int) := by omega
  have g2 : (k : Int) < (n : Int) := by omega
  have g3 : ¬ (k : Int) < 0 := by omega
  clear hc hx
  go_enter Tryz.func105, Tryz.ntmps105
  go_wp2_with (go_at_call 86; refine (c_in _ _ _ _).mono ?_; rintro e w' ⟨rfl, rfl⟩)
  go_ret3
  exact ⟨by rw [E.out]; rfl, ((Below.refl _ _).alloc (Nat.le_refl _) _).alloc (by simp) _⟩
set_option maxRecDepth 100000 in
set_option maxHeartbeats 4000000 in
theorem c_lW_1c (L : List EN) (a : Option Addr) (n c k : Nat) (x : EN) (w : World) (hr : RdE w a n L) (hk : k < n) (hn : n ≤ 1048576) (hx : x = L.getD k zeroE) (hs : x.t.size ≤ maxLen) (o1 : (x.o == 1) = true) (a0 : (x.a == 0) = true) (b0 : (x.b == 0) = true) (c0 : (x.c == 0) = false) (q : Nat × Nat × Bool) (E : Hid (q = (k, 1, false))) :
    Calls Tryz.prog 105 #[.agg #[.slice a n c], .int .i64 (k : Int)] w fun e w' => e = .returned (.tuple #[.int .i64 ((q).1 : Int), .int .i64 ((q).2.1 : Int), .bool (q).2.2]) ∧ Below w.heap.size w w' := by
  obtain ⟨b, off, rfl, hbl, hc⟩ := hr.2 (by omega)
  obtain ⟨d0, d1, d2, d3, d4, d5, d6⟩ := RdE.at hc hk hx
  have g1 : (0 : Int) ≤ (k : Int) := by omega
  have g2 : (k : Int) < (n : Int) := by omega
  have g3 : ¬ (k : Int) < 0 := by omega
  clear hc hx
  go_enter Tryz.func105, Tryz.ntmps105
  go_wp2_with (go_at_call 86; refine (c_in _ _ _ _).mono ?_; rintro e w' ⟨rfl, rfl⟩)
  go_ret3
  exact ⟨by rw [E.out]; rfl, ((Below.refl _ _).alloc (Nat.le_refl _) _).alloc (by simp) _⟩
set_option maxRecDepth 100000 in
set_option maxHeartbeats 4000000 in
theorem c_lW_1v (L : List EN) (a : Option Addr) (n c k : Nat) (x : EN) (w : World) (hr : RdE w a n L) (hk : k < n) (hn : n ≤ 1048576) (hx : x = L.getD k zeroE) (hs : x.t.size ≤ maxLen) (o1 : (x.o == 1) = true) (a0 : (x.a == 0) = true) (b0 : (x.b == 0) = true) (c0 : (x.c == 0) = true) (q : Nat × Nat × Bool) (E : Hid (q = (k, 1, valB x.k x.n x.t))) :
    Calls Tryz.prog 105 #[.agg #[.slice a n c], .int .i64 (k : Int)] w fun e w' => e = .returned (.tuple #[.int .i64 ((q).1 : Int), .int .i64 ((q).2.1 : Int), .bool (q).2.2]) ∧ Below w.heap.size w w' := by
  obtain ⟨b, off, rfl, hbl, hc⟩ := hr.2 (by omega)
  obtain ⟨d0, d1, d2, d3, d4, d5, d6⟩ := RdE.at hc hk hx
  have g1 : (0 : Int) ≤ (k : Int) := by omega
  have g2 : (k : Int) < (n : Int) := by omega
  have g3 : ¬ (k : Int) < 0 := by omega
  clear hc hx
  go_enter Tryz.func105, Tryz.ntmps105
  go_wp2_with fail
  refine (c_specOK _ _ _ _ hs).mono ?_
  rintro e w1 ⟨rfl, hb⟩
  have HB : Hid (Below w.heap.size w w1) := (((Below.refl _ _).alloc (Nat.le_refl _) _).alloc (by simp) _).trans (hb.mono (by simp; omega))
  clear hb
  go_wp2
  go_ret3
  exact ⟨by rw [E.out]; rfl, HB.out⟩
set_option maxRecDepth 100000 in
set_option maxHeartbeats 4000000 in
theorem c_lW_2a (L : List EN) (a : Option Addr) (n c k : Nat) (x : EN) (w : World) (hr : RdE w a n L) (hk : k < n) (hn : n ≤ 1048576) (hx : x = L.getD k zeroE) (hs : x.t.size ≤ maxLen) (o1 : (x.o == 1) = false) (o2 : (x.o == 2) = true) (a0 : (x.a == 0) = false) (q : Nat × Nat × Bool) (E : Hid (q = (k, 1, false))) :
    Calls Tryz.prog 105 #[.agg #[.slice a n c], .int .i64 (k : Int)] w fun e w' => e = .returned (.tuple #[.int .i64 ((q).1 : Int), .int .i64 ((q).2.1 : Int), .bool (q).2.2]) ∧ Below w.heap.size w w' := by
  obtain ⟨b, off, rfl, hbl, hc⟩ := hr.2 (by omega)
  obtain ⟨d0, d1, d2, d3, d4, d5, d6⟩ := RdE.at hc hk hx
  have g1 : (0 : Int) ≤ (k : Int) := by omega
  have g2 : (k : Int) < (n : Int) := by omega
  have g3 : ¬ (k : Int) < 0 := by omega
  clear hc hx
  go_enter Tryz.func105, Tryz.ntmps105
  go_wp2_with fail
  go_big_quiet (first | (go_at_call 86; refine Calls.quiet_of_same (c_in _ _ _ _)))
  go_wp2
  go_ret3
  exact ⟨by rw [E.out]; rfl, below_drewN (((Below.refl _ _).alloc (Nat.le_refl _) _).alloc (by simp) _) _⟩
set_option maxRecDepth 100000 in
set_option maxHeartbeats 4000000 in
theorem c_lW_2b (L : List EN) (a : Option Addr) (n c k : Nat) (x : EN) (w : World) (hr : RdE w a n L) (hk : k < n) (hn : n ≤ 1048576) (hx : x = L.getD k zeroE) (hs : x.t.size ≤ maxLen) (o1 : (x.o == 1) = false) (o2 : (x.o == 2) = true) (a0 : (x.a == 0) = true) (b0 : (x.b == 0) = false) (q : Nat × Nat × Bool) (E : Hid (q = (k, 1, false))) :
    Calls Tryz.prog 105 #[.agg #[.slice a n c], .int .i64 (k : Int)] w fun e w' => e = .returned (.tuple #[.int .i64 ((q).1 : Int), .int .i64 ((q).2.1 : Int), .bool (q).2.2]) ∧ Below w.heap.size w w' := by
  obtain ⟨b, off, rfl, hbl, hc⟩ := hr.2 (by omega)
  obtain ⟨d0, d1, d2, d3, d4, d5, d6⟩ := RdE.at hc hk hx
  have g1 : (0 : Int) ≤ (k : Int) := by omega
  have g2 : (k : Int) < (n : Int) := by omega
  have g3 : ¬ (k : Int) < 0 := by omega
  clear hc hx
  go_enter Tryz.func105, Tryz.ntmps105
  go_wp2_with fail
  go_big_quiet (first | (go_at_call 86; refine Calls.quiet_of_same (c_in _ _ _ _)))
  go_wp2
  go_ret3
  exact ⟨by rw [E.out]; rfl, below_drewN (((Below.refl _ _).alloc (Nat.le_refl _) _).alloc (by simp) _) _⟩
set_option maxRecDepth 100000 in
set_option maxHeartbeats 4000000 in
theorem c_lW_2l (L : List EN) (a : Option Addr) (n c k : Nat) (x : EN) (w : World) (hr : RdE w a n L) (hk : k < n) (hn : n ≤ 1048576) (hx : x = L.getD k zeroE) (hs : x.t.size ≤ maxLen) (o1 : (x.o == 1) = false) (o2 : (x.o == 2) = true) (a0 : (x.a == 0) = true) (b0 : (x.b == 0) = true) (cl : inB x.c 0 2 = false) (q : Nat × Nat × Bool) (E : Hid (q = (k, 1, false))) :
    Calls Tryz.prog 105 #[.agg #[.slice a n c], .int .i64 (k : Int)] w fun e w' => e = .returned (.tuple #[.int .i64 ((q).1 : Int), .int .i64 ((q).2.1 : Int), .bool (q).2.2]) ∧ Below w.heap.size w w' := by
  obtain ⟨b, off, rfl, hbl, hc⟩ := hr.2 (by omega)
  obtain ⟨d0, d1, d2, d3, d4, d5, d6⟩ := RdE.at hc hk hx
  have g1 : (0 : Int) ≤ (k : Int) := by omega
  have g2 : (k : Int) < (n : Int) := by omega
  have g3 : ¬ (k : Int) < 0 := by omega
  clear hc hx
  go_enter Tryz.func105, Tryz.ntmps105
  go_wp2_with fail
  go_big_quiet (first | (go_at_call 86; refine Calls.quiet_of_same (c_in _ _ _ _)))
  go_wp2
  go_ret3
  exact ⟨by rw [E.out]; rfl, below_drewN (((Below.refl _ _).alloc (Nat.le_refl _) _).alloc (by simp) _) _⟩
set_option maxRecDepth 100000 in
set_option maxHeartbeats 4000000 in
theorem c_lW_2k (L : List EN) (a : Option Addr) (n c k : Nat) (x : EN) (w : World) (hr : RdE w a n L) (hk : k < n) (hn : n ≤ 1048576) (hx : x = L.getD k zeroE) (hs : x.t.size ≤ maxLen) (o1 : (x.o == 1) = false) (o2 : (x.o == 2) = true) (a0 : (x.a == 0) = true) (b0 : (x.b == 0) = true) (cl : inB x.c 0 2 = true) (k0 : (x.k == 0) = false) (q : Nat × Nat × Bool) (E : Hid (q = (k, 1, false))) :
    Calls Tryz.prog 105 #[.agg #[.slice a n c], .int .i64 (k : Int)] w fun e w' => e = .returned (.tuple #[.int .i64 ((q).1 : Int), .int .i64 ((q).2.1 : Int), .bool (q).2.2]) ∧ Below w.heap.size w w' := by
  obtain ⟨b, off, rfl, hbl, hc⟩ := hr.2 (by omega)
  obtain ⟨d0, d1, d2, d3, d4, d5, d6⟩ := RdE.at hc hk hx
  have g1 : (0 : Int) ≤ (k : Int) := by omega
  have g2 : (k : Int) < (n : Int) := by omega
  have g3 : ¬ (k : Int) < 0 := by omega
  clear hc hx
  go_enter Tryz.func105, Tryz.ntmps105
  go_wp2_with fail
  go_big_quiet (first | (go_at_call 86; refine Calls.quiet_of_same (c_in _ _ _ _)))
  go_wp2
  go_ret3
  exact ⟨by rw [E.out]; rfl, below_drewN (((Below.refl _ _).alloc (Nat.le_refl _) _).alloc (by simp) _) _⟩
set_option maxRecDepth 100000 in
set_option maxHeartbeats 4000000 in
theorem c_lW_2n (L : List EN) (a : Option Addr) (n c k : Nat) (x : EN) (w : World) (hr : RdE w a n L) (hk : k < n) (hn : n ≤ 1048576) (hx : x = L.getD k zeroE) (hs : x.t.size ≤ maxLen) (o1 : (x.o == 1) = false) (o2 : (x.o == 2) = true) (a0 : (x.a == 0) = true) (b0 : (x.b == 0) = true) (cl : inB x.c 0 2 = true) (k0 : (x.k == 0) = true) (n0 : (x.n == 0) = false) (q : Nat × Nat × Bool) (E : Hid (q = (k, 1, false))) :
    Calls Tryz.prog 105 #[.agg #[.slice a n c], .int .i64 (k : Int)] w fun e w' => e = .returned (.tuple #[.int .i64 ((q).1 : Int), .int .i64 ((q).2.1 : Int), .bool (q).2.2]) ∧ Below w.heap.size w w' := by
  obtain ⟨b, off, rfl, hbl, hc⟩ := hr.2 (by omega)
  obtain ⟨d0, d1, d2, d3, d4, d5, d6⟩ := RdE.at hc hk hx
  have g1 : (0 : Int) ≤ (k : Int) := by omega
  have g2 : (k : Int) < (n : Int) := by omega
  have g3 : ¬ (k : Int) < 0 := by omega
  clear hc hx
  go_enter Tryz.func105, Tryz.ntmps105
  go_wp2_with fail
  go_big_quiet (first | (go_at_call 86; refine Calls.quiet_of_same (c_in _ _ _ _)))
  go_wp2
  go_ret3
  exact ⟨by rw [E.out]; rfl, below_drewN (((Below.refl _ _).alloc (Nat.le_refl _) _).alloc (by simp) _) _⟩
set_option maxRecDepth 100000 in
set_option maxHeartbeats 4000000 in
theorem c_lW_2t (L : List EN) (a : Option Addr) (n c k : Nat) (x : EN) (w : World) (hr : RdE w a n L) (hk : k < n) (hn : n ≤ 1048576) (hx : x = L.getD k zeroE) (hs : x.t.size ≤ maxLen) (o1 : (x.o == 1) = false) (o2 : (x.o == 2) = true) (a0 : (x.a == 0) = true) (b0 : (x.b == 0) = true) (cl : inB x.c 0 2 = true) (k0 : (x.k == 0) = true) (n0 : (x.n == 0) = true) (t0 : (x.t.toList == []) = false) (q : Nat × Nat × Bool) (E : Hid (q = (k, 1, false))) :
    Calls Tryz.prog 105 #[.agg #[.slice a n c], .int .i64 (k : Int)] w fun e w' => e = .returned (.tuple #[.int .i64 ((q).1 : Int), .int .i64 ((q).2.1 : Int), .bool (q).2.2]) ∧ Below w.heap.size w w' := by
  obtain ⟨b, off, rfl, hbl, hc⟩ := hr.2 (by omega)
  obtain ⟨d0, d1, d2, d3, d4, d5, d6⟩ := RdE.at hc hk hx
  have g1 : (0 : Int) ≤ (k : Int) := by omega
  have g2 : (k : Int) < (n : Int) := by omega
  have g3 : ¬ (k : Int) < 0 := by omega
  clear hc hx
  go_enter Tryz.func105, Tryz.ntmps105
  go_wp2_with fail
  go_big_quiet (first | (go_at_call 86; refine Calls.quiet_of_same (c_in _ _ _ _)))
  go_wp2
  go_ret3
  exact ⟨by rw [E.out]; rfl, below_drewN (((Below.refl _ _).alloc (Nat.le_refl _) _).alloc (by simp) _) _⟩
set_option maxRecDepth 100000 in
set_option maxHeartbeats 4000000 in
theorem c_lW_2v (L : List EN) (a : Option Addr) (n c k : Nat) (x : EN) (w : World) (hr : RdE w a n L) (hk : k < n) (hn : n ≤ 1048576) (hx : x = L.getD k zeroE) (hs : x.t.size ≤ maxLen) (o1 : (x.o == 1) = false) (o2 : (x.o == 2) = true) (a0 : (x.a == 0) = true) (b0 : (x.b == 0) = true) (cl : inB x.c 0 2 = true) (k0 : (x.k == 0) = true) (n0 : (x.n == 0) = true) (t0 : (x.t.toList == []) = true) (q : Nat × Nat × Bool) (E : Hid (q = (k, 1, true))) :
    Calls Tryz.prog 105 #[.agg #[.slice a n c], .int .i64 (k : Int)] w fun e w' => e = .returned (.tuple #[.int .i64 ((q).1 : Int), .int .i64 ((q).2.1 : Int), .bool (q).2.2]) ∧ Below w.heap.size w w' := by
  obtain ⟨b, off, rfl, hbl, hc⟩ := hr.2 (by omega)
  obtain ⟨d0, d1, d2, d3, d4, d5, d6⟩ := RdE.at hc hk hx
  have g1 : (0 : Int) ≤ (k : Int) := by omega
  have g2 : (k : Int) < (n : Int) := by omega
  have g3 : ¬ (k : Int) < 0 := by omega
  clear hc hx
  go_enter Tryz.func105, Tryz.ntmps105
  go_wp2_with fail
  go_big_quiet (first | (go_at_call 86; refine Calls.quiet_of_same (c_in _ _ _ _)))
  go_wp2
  go_ret3
  exact ⟨by rw [E.out]; rfl, below_drewN (((Below.refl _ _).alloc (Nat.le_refl _) _).alloc (by simp) _) _⟩
set_option maxRecDepth 100000 in
set_option maxHeartbeats 4000000 in
theorem c_lW_3o (L : List EN) (a : Option Addr) (n c k : Nat) (x : EN) (w : World) (hr : RdE w a n L) (hk : k < n) (hn : n ≤ 1048576) (hx : x = L.getD k zeroE) (hs : x.t.size ≤ maxLen) (r : Nat × Nat × Bool) (rl : r.1 ≤ 1048576) (rd : r.2.1 ≤ 1048576) (IH : Hid (∀ W, Below w.heap.size w W → Calls Tryz.prog 105 #[.agg #[.slice a n c], .int .i64 ((k : Int) - 1)] W fun e w' => e = .returned (.tuple #[.int .i64 ((r).1 : Int), .int .i64 ((r).2.1 : Int), .bool (r).2.2]) ∧ Below W.heap.size W w')) (o1 : (x.o == 1) = false) (o2 : (x.o == 2) = false) (u : inB x.o 3 5 = true) (ok : r.2.2 = false) (q : Nat × Nat × Bool) (E : Hid (q = (r.1, r.2.1 + 1, false))) :
    Calls Tryz.prog 105 #[.agg #[.slice a n c], .int .i64 (k : Int)] w fun e w' => e = .returned (.tuple #[.int .i64 ((q).1 : Int), .int .i64 ((q).2.1 : Int), .bool (q).2.2]) ∧ Below w.heap.size w w' := by
  obtain ⟨b, off, rfl, hbl, hc⟩ := hr.2 (by omega)
  obtain ⟨d0, d1, d2, d3, d4, d5, d6⟩ := RdE.at hc hk hx
  have g1 : (0 : Int) ≤ (k : Int) := by omega
  have g2 : (k : Int) < (n : Int) := by omega
  have g3 : ¬ (k : Int) < 0 := by omega
  clear hc hx
  go_enter Tryz.func105, Tryz.ntmps105
  go_wp2_with (go_at_call 86; refine (c_in _ _ _ _).mono ?_; rintro e w' ⟨rfl, rfl⟩)
  refine (IH.out _ ((show Below w.heap.size w ((w.alloc (.cells #[.slice (some ⟨b, off, none⟩) n c] 24)).alloc (.cells #[.int .i64 x.o, .int .i64 x.a, .int .i64 x.b, .int .i64 x.c, .int .i64 x.k, .int .i64 x.n, .string x.t] 86)) from ((Below.refl _ _).alloc (Nat.le_refl _) _).alloc (by simp) _))).mono ?_
  rintro e w1 ⟨rfl, hb⟩
  have HB1 : Hid (Below w.heap.size w w1) := ((show Below w.heap.size w ((w.alloc (.cells #[.slice (some ⟨b, off, none⟩) n c] 24)).alloc (.cells #[.int .i64 x.o, .int .i64 x.a, .int .i64 x.b, .int .i64 x.c, .int .i64 x.k, .int .i64 x.n, .string x.t] 86)) from ((Below.refl _ _).alloc (Nat.le_refl _) _).alloc (by simp) _)).trans (hb.mono ((show Below w.heap.size w ((w.alloc (.cells #[.slice (some ⟨b, off, none⟩) n c] 24)).alloc (.cells #[.int .i64 x.o, .int .i64 x.a, .int .i64 x.b, .int .i64 x.c, .int .i64 x.k, .int .i64 x.n, .string x.t] 86)) from ((Below.refl _ _).alloc (Nat.le_refl _) _).alloc (by simp) _)).size)
  have Z1 : Box w1 w.heap.size 24 #[.slice (some ⟨b, off, none⟩) n c] := ((Box.new w #[.slice (some ⟨b, off, none⟩) n c] 24).alloc (.cells #[.int .i64 x.o, .int .i64 x.a, .int .i64 x.b, .int .i64 x.c, .int .i64 x.k, .int .i64 x.n, .string x.t] 86)).belowS hb
  have z1 : w1.cell? ⟨w.heap.size, 0, none⟩ = some (.slice (some ⟨b, off, none⟩) n c) := Z1.cell 0
  have Y1 : Box w1 (w.heap.size + 1) 86 #[.int .i64 x.o, .int .i64 x.a, .int .i64 x.b, .int .i64 x.c, .int .i64 x.k, .int .i64 x.n, .string x.t] := (Box.new2 w (.cells #[.slice (some ⟨b, off, none⟩) n c] 24) #[.int .i64 x.o, .int .i64 x.a, .int .i64 x.b, .int .i64 x.c, .int .i64 x.k, .int .i64 x.n, .string x.t] 86).belowS hb
  obtain ⟨y0, y1, y2, y3, y4, y5, y6⟩ := box7 Y1
  clear hb
  go_wp2_with fail
  go_big_quiet (fail)
  go_wp2
  go_ret3
  exact ⟨by rw [E.out]; exact ret_w rfl (by simp) rfl, below_drewN HB1.out _⟩
set_option maxRecDepth 100000 in
set_option maxHeartbeats 4000000 in
theorem c_lW_3a (L : List EN) (a : Option Addr) (n c k : Nat) (x : EN) (w : World) (hr : RdE w a n L) (hk : k < n) (hn : n ≤ 1048576) (hx : x = L.getD k zeroE) (hs : x.t.size ≤ maxLen) (r : Nat × Nat × Bool) (rl : r.1 ≤ 1048576) (rd : r.2.1 ≤ 1048576) (IH : Hid (∀ W, Below w.heap.size w W → Calls Tryz.prog 105 #[.agg #[.slice a n c], .int .i64 ((k : Int) - 1)] W fun e w' => e = .returned (.tuple #[.int .i64 ((r).1 : Int), .int .i64 ((r).2.1 : Int), .bool (r).2.2]) ∧ Below W.heap.size W w')) (o1 : (x.o == 1) = false) (o2 : (x.o == 2) = false) (u : inB x.o 3 5 = true) (ok : r.2.2 = true) (am : (x.a == (k : Int) - 1) = false) (q : Nat × Nat × Bool) (E : Hid (q = (r.1, r.2.1 + 1, false))) :
    Calls Tryz.prog 105 #[.agg #[.slice a n c], .int .i64 (k : Int)] w fun e w' => e = .returned (.tuple #[.int .i64 ((q).1 : Int), .int .i64 ((q).2.1 : Int), .bool (q).2.2]) ∧ Below w.heap.size w w' := by
  obtain ⟨b, off, rfl, hbl, hc⟩ := hr.2 (by omega)
  obtain ⟨d0, d1, d2, d3, d4, d5, d6⟩ := RdE.at hc hk hx
  have g1 : (0 : Int) ≤ (k : Int) := by omega
  have g2 : (k : Int) < (n : Int) := by omega
  have g3 : ¬ (k : Int) < 0 := by omega
  clear hc hx
  go_enter Tryz.func105, Tryz.ntmps105
  go_wp2_with (go_at_call 86; refine (c_in _ _ _ _).mono ?_; rintro e w' ⟨rfl, rfl⟩)
  refine (IH.out _ ((show Below w.heap.size w ((w.alloc (.cells #[.slice (some ⟨b, off, none⟩) n c] 24)).alloc (.cells #[.int .i64 x.o, .int .i64 x.a, .int .i64 x.b, .int .i64 x.c, .int .i64 x.k, .int .i64 x.n, .string x.t] 86)) from ((Below.refl _ _).alloc (Nat.le_refl _) _).alloc (by simp) _))).mono ?_
  rintro e w1 ⟨rfl, hb⟩
  have HB1 : Hid (Below w.heap.size w w1) := ((show Below w.heap.size w ((w.alloc (.cells #[.slice (some ⟨b, off, none⟩) n c] 24)).alloc (.cells #[.int .i64 x.o, .int .i64 x.a, .int .i64 x.b, .int .i64 x.c, .int .i64 x.k, .int .i64 x.n, .string x.t] 86)) from ((Below.refl _ _).alloc (Nat.le_refl _) _).alloc (by simp) _)).trans (hb.mono ((show Below w.heap.size w ((w.alloc (.cells #[.slice (some ⟨b, off, none⟩) n c] 24)).alloc (.cells #[.int .i64 x.o, .int .i64 x.a, .int .i64 x.b, .int .i64 x.c, .int .i64 x.k, .int .i64 x.n, .string x.t] 86)) from ((Below.refl _ _).alloc (Nat.le_refl _) _).alloc (by simp) _)).size)
  have Z1 : Box w1 w.heap.size 24 #[.slice (some ⟨b, off, none⟩) n c] := ((Box.new w #[.slice (some ⟨b, off, none⟩) n c] 24).alloc (.cells #[.int .i64 x.o, .int .i64 x.a, .int .i64 x.b, .int .i64 x.c, .int .i64 x.k, .int .i64 x.n, .string x.t] 86)).belowS hb
  have z1 : w1.cell? ⟨w.heap.size, 0, none⟩ = some (.slice (some ⟨b, off, none⟩) n c) := Z1.cell 0
  have Y1 : Box w1 (w.heap.size + 1) 86 #[.int .i64 x.o, .int .i64 x.a, .int .i64 x.b, .int .i64 x.c, .int .i64 x.k, .int .i64 x.n, .string x.t] := (Box.new2 w (.cells #[.slice (some ⟨b, off, none⟩) n c] 24) #[.int .i64 x.o, .int .i64 x.a, .int .i64 x.b, .int .i64 x.c, .int .i64 x.k, .int .i64 x.n, .string x.t] 86).belowS hb
  obtain ⟨y0, y1, y2, y3, y4, y5, y6⟩ := box7 Y1
  clear hb
  go_wp2_with fail
  go_big_quiet (fail)
  go_wp2
  go_ret3
  exact ⟨by rw [E.out]; exact ret_w rfl (by simp) rfl, below_drewN HB1.out _⟩
set_option maxRecDepth 100000 in
set_option maxHeartbeats 4000000 in
theorem c_lW_3b (L : List EN) (a : Option Addr) (n c k : Nat) (x : EN) (w : World) (hr : RdE w a n L) (hk : k < n) (hn : n ≤ 1048576) (hx : x = L.getD k zeroE) (hs : x.t.size ≤ maxLen) (r : Nat × Nat × Bool) (rl : r.1 ≤ 1048576) (rd : r.2.1 ≤ 1048576) (IH : Hid (∀ W, Below w.heap.size w W → Calls Tryz.prog 105 #[.agg #[.slice a n c], .int .i64 ((k : Int) - 1)] W fun e w' => e = .returned (.tuple #[.int .i64 ((r).1 : Int), .int .i64 ((r).2.1 : Int), .bool (r).2.2]) ∧ Below W.heap.size W w')) (o1 : (x.o == 1) = false) (o2 : (x.o == 2) = false) (u : inB x.o 3 5 = true) (ok : r.2.2 = true) (am : (x.a == (k : Int) - 1) = true) (b0 : (x.b == 0) = false) (q : Nat × Nat × Bool) (E : Hid (q = (r.1, r.2.1 + 1, false))) :
    Calls Tryz.prog 105 #[.agg #[.slice a n c], .int .i64 (k : Int)] w fun e w' => e = .returned (.tuple #[.int .i64 ((q).1 : Int), .int .i64 ((q).2.1 : Int), .bool (q).2.2]) ∧ Below w.heap.size w w' := by
  obtain ⟨b, off, rfl, hbl, hc⟩ := hr.2 (by omega)
  obtain ⟨d0, d1, d2, d3, d4, d5, d6⟩ := RdE.at hc hk hx
  have g1 : (0 : Int) ≤ (k : Int) := by omega
  have g2 : (k : Int) < (n : Int) := by omega
  have g3 : ¬ (k : Int) < 0 := by omega
  clear hc hx
  go_enter Tryz.func105, Tryz.ntmps105
  go_wp2_with (go_at_call 86; refine (c_in _ _ _ _).mono ?_; rintro e w' ⟨rfl, rfl⟩)
  refine (IH.out _ ((show Below w.heap.size w ((w.alloc (.cells #[.slice (some ⟨b, off, none⟩) n c] 24)).alloc (.cells #[.int .i64 x.o, .int .i64 x.a, .int .i64 x.b, .int .i64 x.c, .int .i64 x.k, .int .i64 x.n, .string x.t] 86)) from ((Below.refl _ _).alloc (Nat.le_refl _) _).alloc (by simp) _))).mono ?_
  rintro e w1 ⟨rfl, hb⟩
  have HB1 : Hid (Below w.heap.size w w1) := ((show Below w.heap.size w ((w.alloc (.cells #[.slice (some ⟨b, off, none⟩) n c] 24)).alloc (.cells #[.int .i64 x.o, .int .i64 x.a, .int .i64 x.b, .int .i64 x.c, .int .i64 x.k, .int .i64 x.n, .string x.t] 86)) from ((Below.refl _ _).alloc (Nat.le_refl _) _).alloc (by simp) _)).trans (hb.mono ((show Below w.heap.size w ((w.alloc (.cells #[.slice (some ⟨b, off, none⟩) n c] 24)).alloc (.cells #[.int .i64 x.o, .int .i64 x.a, .int .i64 x.b, .int .i64 x.c, .int .i64 x.k, .int .i64 x.n, .string x.t] 86)) from ((Below.refl _ _).alloc (Nat.le_refl _) _).alloc (by simp) _)).size)
  have Z1 : Box w1 w.heap.size 24 #[.slice (some ⟨b, off, none⟩) n c] := ((Box.new w #[.slice (some ⟨b, off, none⟩) n c] 24).alloc (.cells #[.int .i64 x.o, .int .i64 x.a, .int .i64 x.b, .int .i64 x.c, .int .i64 x.k, .int .i64 x.n, .string x.t] 86)).belowS hb
  have z1 : w1.cell? ⟨w.heap.size, 0, none⟩ = some (.slice (some ⟨b, off, none⟩) n c) := Z1.cell 0
  have Y1 : Box w1 (w.heap.size + 1) 86 #[.int .i64 x.o, .int .i64 x.a, .int .i64 x.b, .int .i64 x.c, .int .i64 x.k, .int .i64 x.n, .string x.t] := (Box.new2 w (.cells #[.slice (some ⟨b, off, none⟩) n c] 24) #[.int .i64 x.o, .int .i64 x.a, .int .i64 x.b, .int .i64 x.c, .int .i64 x.k, .int .i64 x.n, .string x.t] 86).belowS hb
  obtain ⟨y0, y1, y2, y3, y4, y5, y6⟩ := box7 Y1
  clear hb
  go_wp2_with fail
  go_big_quiet (fail)
  go_wp2
  go_ret3
  exact ⟨by rw [E.out]; exact ret_w rfl (by simp) rfl, below_drewN HB1.out _⟩
set_option maxRecDepth 100000 in
set_option maxHeartbeats 4000000 in
theorem c_lW_3c (L : List EN) (a : Option Addr) (n c k : Nat) (x : EN) (w : World) (hr : RdE w a n L) (hk : k < n) (hn : n ≤ 1048576) (hx : x = L.getD k zeroE) (hs : x.t.size ≤ maxLen) (r : Nat × Nat × Bool) (rl : r.1 ≤ 1048576) (rd : r.2.1 ≤ 1048576) (IH : Hid (∀ W, Below w.heap.size w W → Calls Tryz.prog 105 #[.agg #[.slice a n c], .int .i64 ((k : Int) - 1)] W fun e w' => e = .returned (.tuple #[.int .i64 ((r).1 : Int), .int .i64 ((r).2.1 : Int), .bool (r).2.2]) ∧ Below W.heap.size W w')) (o1 : (x.o == 1) = false) (o2 : (x.o == 2) = false) (u : inB x.o 3 5 = true) (ok : r.2.2 = true) (am : (x.a == (k : Int) - 1) = true) (b0 : (x.b == 0) = true) (c0 : (x.c == 0) = false) (q : Nat × Nat × Bool) (E : Hid (q = (r.1, r.2.1 + 1, false))) :
    Calls Tryz.prog 105 #[.agg #[.slice a n c], .int .i64 (k : Int)] w fun e w' => e = .returned (.tuple #[.int .i64 ((q).1 : Int), .int .i64 ((q).2.1 : Int), .bool (q).2.2]) ∧ Below w.heap.size w w' := by
  obtain ⟨b, off, rfl, hbl, hc⟩ := hr.2 (by omega)
  obtain ⟨d0, d1, d2, d3, d4, d5, d6⟩ := RdE.at hc hk hx
  have g1 : (0 : Int) ≤ (k : Int) := by omega
  have g2 : (k : Int) < (n : Int) := by omega
  have g3 : ¬ (k : Int) < 0 := by omega
  clear hc hx
  go_enter Tryz.func105, Tryz.ntmps105
  go_wp2_with (go_at_call 86; refine (c_in _ _ _ _).mono ?_; rintro e w' ⟨rfl, rfl⟩)
  refine (IH.out _ ((show Below w.heap.size w ((w.alloc (.cells #[.slice (some ⟨b, off, none⟩) n c] 24)).alloc (.cells #[.int .i64 x.o, .int .i64 x.a, .int .i64 x.b, .int .i64 x.c, .int .i64 x.k, .int .i64 x.n, .string x.t] 86)) from ((Below.refl _ _).alloc (Nat.le_refl _) _).alloc (by simp) _))).mono ?_
  rintro e w1 ⟨rfl, hb⟩
  have HB1 : Hid (Below w.heap.size w w1) := ((show Below w.heap.size w ((w.alloc (.cells #[.slice (some ⟨b, off, none⟩) n c] 24)).alloc (.cells #[.int .i64 x.o, .int .i64 x.a, .int .i64 x.b, .int .i64 x.c, .int .i64 x.k, .int .i64 x.n, .string x.t] 86)) from ((Below.refl _ _).alloc (Nat.le_refl _) _).alloc (by simp) _)).trans (hb.mono ((show Below w.heap.size w ((w.alloc (.cells #[.slice (some ⟨b, off, none⟩) n c] 24)).alloc (.cells #[.int .i64 x.o, .int .i64 x.a, .int .i64 x.b, .int .i64 x.c, .int .i64 x.k, .int .i64 x.n, .string x.t] 86)) from ((Below.refl _ _).alloc (Nat.le_refl _) _).alloc (by simp) _)).size)
  have Z1 : Box w1 w.heap.size 24 #[.slice (some ⟨b, off, none⟩) n c] := ((Box.new w #[.slice (some ⟨b, off, none⟩) n c] 24).alloc (.cells #[.int .i64 x.o, .int .i64 x.a, .int .i64 x.b, .int .i64 x.c, .int .i64 x.k, .int .i64 x.n, .string x.t] 86)).belowS hb
  have z1 : w1.cell? ⟨w.heap.size, 0, none⟩ = some (.slice (some ⟨b, off, none⟩) n c) := Z1.cell 0
  have Y1 : Box w1 (w.heap.size + 1) 86 #[.int .i64 x.o, .int .i64 x.a, .int .i64 x.b, .int .i64 x.c, .int .i64 x.k, .int .i64 x.n, .string x.t] := (Box.new2 w (.cells #[.slice (some ⟨b, off, none⟩) n c] 24) #[.int .i64 x.o, .int .i64 x.a, .int .i64 x.b, .int .i64 x.c, .int .i64 x.k, .int .i64 x.n, .string x.t] 86).belowS hb
  obtain ⟨y0, y1, y2, y3, y4, y5, y6⟩ := box7 Y1
  clear hb
  go_wp2_with fail
  go_big_quiet (fail)
  go_wp2
  go_ret3
  exact ⟨by rw [E.out]; exact ret_w rfl (by simp) rfl, below_drewN HB1.out _⟩
set_option maxRecDepth 100000 in
set_option maxHeartbeats 4000000 in
theorem c_lW_3k (L : List EN) (a : Option Addr) (n c k : Nat) (x : EN) (w : World) (hr : RdE w a n L) (hk : k < n) (hn : n ≤ 1048576) (hx : x = L.getD k zeroE) (hs : x.t.size ≤ maxLen) (r : Nat × Nat × Bool) (rl : r.1 ≤ 1048576) (rd : r.2.1 ≤ 1048576) (IH : Hid (∀ W, Below w.heap.size w W → Calls Tryz.prog 105 #[.agg #[.slice a n c], .int .i64 ((k : Int) - 1)] W fun e w' => e = .returned (.tuple #[.int .i64 ((r).1 : Int), .int .i64 ((r).2.1 : Int), .bool (r).2.2]) ∧ Below W.heap.size W w')) (o1 : (x.o == 1) = false) (o2 : (x.o == 2) = false) (u : inB x.o 3 5 = true) (ok : r.2.2 = true) (am : (x.a == (k : Int) - 1) = true) (b0 : (x.b == 0) = true) (c0 : (x.c == 0) = true) (k0 : (x.k == 0) = false) (q : Nat × Nat × Bool) (E : Hid (q = (r.1, r.2.1 + 1, false))) :
    Calls Tryz.prog 105 #[.agg #[.slice a n c], .int .i64 (k : Int)] w fun e w' => e = .returned (.tuple #[.int .i64 ((q).1 : Int), .int .i64 ((q).2.1 : Int), .bool (q).2.2]) ∧ Below w.heap.size w w' := by
  obtain ⟨b, off, rfl, hbl, hc⟩ := hr.2 (by omega)
  obtain ⟨d0, d1, d2, d3, d4, d5, d6⟩ := RdE.at hc hk hx
  have g1 : (0 : Int) ≤ (k : Int) := by omega
  have g2 : (k : Int) < (n : Int) := by omega
  have g3 : ¬ (k : Int) < 0 := by omega
  clear hc hx
  go_enter Tryz.func105, Tryz.ntmps105
  go_wp2_with (go_at_call 86; refine (c_in _ _ _ _).mono ?_; rintro e w' ⟨rfl, rfl⟩)
  refine (IH.out _ ((show Below w.heap.size w ((w.alloc (.cells #[.slice (some ⟨b, off, none⟩) n c] 24)).alloc (.cells #[.int .i64 x.o, .int .i64 x.a, .int .i64 x.b, .int .i64 x.c, .int .i64 x.k, .int .i64 x.n, .string x.t] 86)) from ((Below.refl _ _).alloc (Nat.le_refl _) _).alloc (by simp) _))).mono ?_
  rintro e w1 ⟨rfl, hb⟩
  have HB1 : Hid (Below w.heap.size w w1) := ((show Below w.heap.size w ((w.alloc (.cells #[.slice (some ⟨b, off, none⟩) n c] 24)).alloc (.cells #[.int .i64 x.o, .int .i64 x.a, .int .i64 x.b, .int .i64 x.c, .int .i64 x.k, .int .i64 x.n, .string x.t] 86)) from ((Below.refl _ _).alloc (Nat.le_refl _) _).alloc (by simp) _)).trans (hb.mono ((show Below w.heap.size w ((w.alloc (.cells #[.slice (some ⟨b, off, none⟩) n c] 24)).alloc (.cells #[.int .i64 x.o, .int .i64 x.a, .int .i64 x.b, .int .i64 x.c, .int .i64 x.k, .int .i64 x.n, .string x.t] 86)) from ((Below.refl _ _).alloc (Nat.le_refl _) _).alloc (by simp) _)).size)
  have Z1 : Box w1 w.heap.size 24 #[.slice (some ⟨b, off, none⟩) n c] := ((Box.new w #[.slice (some ⟨b, off, none⟩) n c] 24).alloc (.cells #[.int .i64 x.o, .int .i64 x.a, .int .i64 x.b, .int .i64 x.c, .int .i64 x.k, .int .i64 x.n, .string x.t] 86)).belowS hb
  have z1 : w1.cell? ⟨w.heap.size, 0, none⟩ = some (.slice (some ⟨b, off, none⟩) n c) := Z1.cell 0
  have Y1 : Box w1 (w.heap.size + 1) 86 #[.int .i64 x.o, .int .i64 x.a, .int .i64 x.b, .int .i64 x.c, .int .i64 x.k, .int .i64 x.n, .string x.t] := (Box.new2 w (.cells #[.slice (some ⟨b, off, none⟩) n c] 24) #[.int .i64 x.o, .int .i64 x.a, .int .i64 x.b, .int .i64 x.c, .int .i64 x.k, .int .i64 x.n, .string x.t] 86).belowS hb
  obtain ⟨y0, y1, y2, y3, y4, y5, y6⟩ := box7 Y1
  clear hb
  go_wp2_with fail
  go_big_quiet (fail)
  go_wp2
  go_ret3
  exact ⟨by rw [E.out]; exact ret_w rfl (by simp) rfl, below_drewN HB1.out _⟩
set_option maxRecDepth 100000 in
set_option maxHeartbeats 4000000 in
theorem c_lW_3n (L : List EN) (a : Option Addr) (n c k : Nat) (x : EN) (w : World) (hr : RdE w a n L) (hk : k < n) (hn : n ≤ 1048576) (hx : x = L.getD k zeroE) (hs : x.t.size ≤ maxLen) (r : Nat × Nat × Bool) (rl : r.1 ≤ 1048576) (rd : r.2.1 ≤ 1048576) (IH : Hid (∀ W, Below w.heap.size w W → Calls Tryz.prog 105 #[.agg #[.slice a n c], .int .i64 ((k : Int) - 1)] W fun e w' => e = .returned (.tuple #[.int .i64 ((r).1 : Int), .int .i64 ((r).2.1 : Int), .bool (r).2.2]) ∧ Below W.heap.size W w')) (o1 : (x.o == 1) = false) (o2 : (x.o == 2) = false) (u : inB x.o 3 5 = true) (ok : r.2.2 = true) (am : (x.a == (k : Int) - 1) = true) (b0 : (x.b == 0) = true) (c0 : (x.c == 0) = true) (k0 : (x.k == 0) = true) (n0 : (x.n == 0) = false) (q : Nat × Nat × Bool) (E : Hid (q = (r.1, r.2.1 + 1, false))) :
    Calls Tryz.prog 105 #[.agg #[.slice a n c], .int .i64 (k : Int)] w fun e w' => e = .returned (.tuple #[.int .i64 ((q).1 : Int), .int .i64 ((q).2.1 : Int), .bool (q).2.2]) ∧ Below w.heap.size w w' := by
  obtain ⟨b, off, rfl, hbl, hc⟩ := hr.2 (by omega)
  obtain ⟨d0, d1, d2, d3, d4, d5, d6⟩ := RdE.at hc hk hx
  have g1 : (0 : Int) ≤ (k : Int) := by omega
  have g2 : (k : Int) < (n : Int) := by omega
  have g3 : ¬ (k : Int) < 0 := by omega
  clear hc hx
  go_enter Tryz.func105, Tryz.ntmps105
  go_wp2_with (go_at_call 86; refine (c_in _ _ _ _).mono ?_; rintro e w' ⟨rfl, rfl⟩)
  refine (IH.out _ ((show Below w.heap.size w ((w.alloc (.cells #[.slice (some ⟨b, off, none⟩) n c] 24)).alloc (.cells #[.int .i64 x.o, .int .i64 x.a, .int .i64 x.b, .int .i64 x.c, .int .i64 x.k, .int .i64 x.n, .string x.t] 86)) from ((Below.refl _ _).alloc (Nat.le_refl _) _).alloc (by simp) _))).mono ?_
  rintro e w1 ⟨rfl, hb⟩
  have HB1 : Hid (Below w.heap.size w w1) := ((show Below w.heap.size w ((w.alloc (.cells #[.slice (some ⟨b, off, none⟩) n c] 24)).alloc (.cells #[.int .i64 x.o, .int .i64 x.a, .int .i64 x.b, .int .i64 x.c, .int .i64 x.k, .int .i64 x.n, .string x.t] 86)) from ((Below.refl _ _).alloc (Nat.le_refl _) _).alloc (by simp) _)).trans (hb.mono ((show Below w.heap.size w ((w.alloc (.cells #[.slice (some ⟨b, off, none⟩) n c] 24)).alloc (.cells #[.int .i64 x.o, .int .i64 x.a, .int .i64 x.b, .int .i64 x.c, .int .i64 x.k, .int .i64 x.n, .string x.t] 86)) from ((Below.refl _ _).alloc (Nat.le_refl _) _).alloc (by simp) _)).size)
  have Z1 : Box w1 w.heap.size 24 #[.slice (some ⟨b, off, none⟩) n c] := ((Box.new w #[.slice (some ⟨b, off, none⟩) n c] 24).alloc (.cells #[.int .i64 x.o, .int .i64 x.a, .int .i64 x.b, .int .i64 x.c, .int .i64 x.k, .int .i64 x.n, .string x.t] 86)).belowS hb
  have z1 : w1.cell? ⟨w.heap.size, 0, none⟩ = some (.slice (some ⟨b, off, none⟩) n c) := Z1.cell 0
  have Y1 : Box w1 (w.heap.size + 1) 86 #[.int .i64 x.o, .int .i64 x.a, .int .i64 x.b, .int .i64 x.c, .int .i64 x.k, .int .i64 x.n, .string x.t] := (Box.new2 w (.cells #[.slice (some ⟨b, off, none⟩) n c] 24) #[.int .i64 x.o, .int .i64 x.a, .int .i64 x.b, .int .i64 x.c, .int .i64 x.k, .int .i64 x.n, .string x.t] 86).belowS hb
  obtain ⟨y0, y1, y2, y3, y4, y5, y6⟩ := box7 Y1
  clear hb
  go_wp2_with fail
  go_big_quiet (fail)
  go_wp2
  go_ret3
  exact ⟨by rw [E.out]; exact ret_w rfl (by simp) rfl, below_drewN HB1.out _⟩
set_option maxRecDepth 100000 in
set_option maxHeartbeats 4000000 in
theorem c_lW_3t (L : List EN) (a : Option Addr) (n c k : Nat) (x : EN) (w : World) (hr : RdE w a n L) (hk : k < n) (hn : n ≤ 1048576) (hx : x = L.getD k zeroE) (hs : x.t.size ≤ maxLen) (r : Nat × Nat × Bool) (rl : r.1 ≤ 1048576) (rd : r.2.1 ≤ 1048576) (IH : Hid (∀ W, Below w.heap.size w W → Calls Tryz.prog 105 #[.agg #[.slice a n c], .int .i64 ((k : Int) - 1)] W fun e w' => e = .returned (.tuple #[.int .i64 ((r).1 : Int), .int .i64 ((r).2.1 : Int), .bool (r).2.2]) ∧ Below W.heap.size W w')) (o1 : (x.o == 1) = false) (o2 : (x.o == 2) = false) (u : inB x.o 3 5 = true) (ok : r.2.2 = true) (am : (x.a == (k : Int) - 1) = true) (b0 : (x.b == 0) = true) (c0 : (x.c == 0) = true) (k0 : (x.k == 0) = true) (n0 : (x.n == 0) = true) (t0 : (x.t.toList == []) = false) (q : Nat × Nat × Bool) (E : Hid (q = (r.1, r.2.1 + 1, false))) :
    Calls Tryz.prog 105 #[.agg #[.slice a n c], .int .i64 (k : Int)] w fun e w' => e = .returned (.tuple #[.int .i64 ((q).1 : Int), .int .i64 ((q).2.1 : Int), .bool (q).2.2]) ∧ Below w.heap.size w w' := by
  obtain ⟨b, off, rfl, hbl, hc⟩ := hr.2 (by omega)
  obtain ⟨d0, d1, d2, d3, d4, d5, d6⟩ := RdE.at hc hk hx
  have g1 : (0 : Int) ≤ (k : Int) := by omega
  have g2 : (k : Int) < (n : Int) := by omega
  have g3 : ¬ (k : Int) < 0 := by omega
  clear hc hx
  go_enter Tryz.func105, Tryz.ntmps105
  go_wp2_with (go_at_call 86; refine (c_in _ _ _ _).mono ?_; rintro e w' ⟨rfl, rfl⟩)
  refine (IH.out _ ((show Below w.heap.size w ((w.alloc (.cells #[.slice (some ⟨b, off, none⟩) n c] 24)).alloc (.cells #[.int .i64 x.o, .int .i64 x.a, .int .i64 x.b, .int .i64 x.c, .int .i64 x.k, .int .i64 x.n, .string x.t] 86)) from ((Below.refl _ _).alloc (Nat.le_refl _) _).alloc (by simp) _))).mono ?_
  rintro e w1 ⟨rfl, hb⟩
  have HB1 : Hid (Below w.heap.size w w1) := ((show Below w.heap.size w ((w.alloc (.cells #[.slice (some ⟨b, off, none⟩) n c] 24)).alloc (.cells #[.int .i64 x.o, .int .i64 x.a, .int .i64 x.b, .int .i64 x.c, .int .i64 x.k, .int .i64 x.n, .string x.t] 86)) from ((Below.refl _ _).alloc (Nat.le_refl _) _).alloc (by simp) _)).trans (hb.mono ((show Below w.heap.size w ((w.alloc (.cells #[.slice (some ⟨b, off, none⟩) n c] 24)).alloc (.cells #[.int .i64 x.o, .int .i64 x.a, .int .i64 x.b, .int .i64 x.c, .int .i64 x.k, .int .i64 x.n, .string x.t] 86)) from ((Below.refl _ _).alloc (Nat.le_refl _) _).alloc (by simp) _)).size)
  have Z1 : Box w1 w.heap.size 24 #[.slice (some ⟨b, off, none⟩) n c] := ((Box.new w #[.slice (some ⟨b, off, none⟩) n c] 24).alloc (.cells #[.int .i64 x.o, .int .i64 x.a, .int .i64 x.b, .int .i64 x.c, .int .i64 x.k, .int .i64 x.n, .string x.t] 86)).belowS hb
  have z1 : w1.cell? ⟨w.heap.size, 0, none⟩ = some (.slice (some ⟨b, off, none⟩) n c) := Z1.cell 0
  have Y1 : Box w1 (w.heap.size + 1) 86 #[.int .i64 x.o, .int .i64 x.a, .int .i64 x.b, .int .i64 x.c, .int .i64 x.k, .int .i64 x.n, .string x.t] := (Box.new2 w (.cells #[.slice (some ⟨b, off, none⟩) n c] 24) #[.int .i64 x.o, .int .i64 x.a, .int .i64 x.b, .int .i64 x.c, .int .i64 x.k, .int .i64 x.n, .string x.t] 86).belowS hb
  obtain ⟨y0, y1, y2, y3, y4, y5, y6⟩ := box7 Y1
  clear hb
  go_wp2_with fail
  go_big_quiet (fail)
  go_wp2
  go_ret3
  exact ⟨by rw [E.out]; exact ret_w rfl (by simp) rfl, below_drewN HB1.out _⟩
set_option maxRecDepth 100000 in
set_option maxHeartbeats 4000000 in
theorem c_lW_3v (L : List EN) (a : Option Addr) (n c k : Nat) (x : EN) (w : World) (hr : RdE w a n L) (hk : k < n) (hn : n ≤ 1048576) (hx : x = L.getD k zeroE) (hs : x.t.size ≤ maxLen) (r : Nat × Nat × Bool) (rl : r.1 ≤ 1048576) (rd : r.2.1 ≤ 1048576) (IH : Hid (∀ W, Below w.heap.size w W → Calls Tryz.prog 105 #[.agg #[.slice a n c], .int .i64 ((k : Int) - 1)] W fun e w' => e = .returned (.tuple #[.int .i64 ((r).1 : Int), .int .i64 ((r).2.1 : Int), .bool (r).2.2]) ∧ Below W.heap.size W w')) (o1 : (x.o == 1) = false) (o2 : (x.o == 2) = false) (u : inB x.o 3 5 = true) (ok : r.2.2 = true) (am : (x.a == (k : Int) - 1) = true) (b0 : (x.b == 0) = true) (c0 : (x.c == 0) = true) (k0 : (x.k == 0) = true) (n0 : (x.n == 0) = true) (t0 : (x.t.toList == []) = true) (q : Nat × Nat × Bool) (E : Hid (q = (r.1, r.2.1 + 1, true))) :
    Calls Tryz.prog 105 #[.agg #[.slice a n c], .int .i64 (k : Int)] w fun e w' => e = .returned (.tuple #[.int .i64 ((q).1 : Int), .int .i64 ((q).2.1 : Int), .bool (q).2.2]) ∧ Below w.heap.size w w' := by
  obtain ⟨b, off, rfl, hbl, hc⟩ := hr.2 (by omega)
  obtain ⟨d0, d1, d2, d3, d4, d5, d6⟩ := RdE.at hc hk hx
  have g1 : (0 : Int) ≤ (k : Int) := by omega
  have g2 : (k : Int) < (n : Int) := by omega
  have g3 : ¬ (k : Int) < 0 := by omega
  clear hc hx
  go_enter Tryz.func105, Tryz.ntmps105
  go_wp2_with (go_at_call 86; refine (c_in _ _ _ _).mono ?_; rintro e w' ⟨rfl, rfl⟩)
  refine (IH.out _ ((show Below w.heap.size w ((w.alloc (.cells #[.slice (some ⟨b, off, none⟩) n c] 24)).alloc (.cells #[.int .i64 x.o, .int .i64 x.a, .int .i64 x.b, .int .i64 x.c, .int .i64 x.k, .int .i64 x.n, .string x.t] 86)) from ((Below.refl _ _).alloc (Nat.le_refl _) _).alloc (by simp) _))).mono ?_
  rintro e w1 ⟨rfl, hb⟩
  have HB1 : Hid (Below w.heap.size w w1) := ((show Below w.heap.size w ((w.alloc (.cells #[.slice (some ⟨b, off, none⟩) n c] 24)).alloc (.cells #[.int .i64 x.o, .int .i64 x.a, .int .i64 x.b, .int .i64 x.c, .int .i64 x.k, .int .i64 x.n, .string x.t] 86)) from ((Below.refl _ _).alloc (Nat.le_refl _) _).alloc (by simp) _)).trans (hb.mono ((show Below w.heap.size w ((w.alloc (.cells #[.slice (some ⟨b, off, none⟩) n c] 24)).alloc (.cells #[.int .i64 x.o, .int .i64 x.a, .int .i64 x.b, .int .i64 x.c, .int .i64 x.k, .int .i64 x.n, .string x.t] 86)) from ((Below.refl _ _).alloc (Nat.le_refl _) _).alloc (by simp) _)).size)
  have Z1 : Box w1 w.heap.size 24 #[.slice (some ⟨b, off, none⟩) n c] := ((Box.new w #[.slice (some ⟨b, off, none⟩) n c] 24).alloc (.cells #[.int .i64 x.o, .int .i64 x.a, .int .i64 x.b, .int .i64 x.c, .int .i64 x.k, .int .i64 x.n, .string x.t] 86)).belowS hb
  have z1 : w1.cell? ⟨w.heap.size, 0, none⟩ = some (.slice (some ⟨b, off, none⟩) n c) := Z1.cell 0
  have Y1 : Box w1 (w.heap.size + 1) 86 #[.int .i64 x.o, .int .i64 x.a, .int .i64 x.b, .int .i64 x.c, .int .i64 x.k, .int .i64 x.n, .string x.t] := (Box.new2 w (.cells #[.slice (some ⟨b, off, none⟩) n c] 24) #[.int .i64 x.o, .int .i64 x.a, .int .i64 x.b, .int .i64 x.c, .int .i64 x.k, .int .i64 x.n, .string x.t] 86).belowS hb
  obtain ⟨y0, y1, y2, y3, y4, y5, y6⟩ := box7 Y1
  clear hb
  go_wp2_with fail
  go_big_quiet (fail)
  go_wp2
  go_ret3
  exact ⟨by rw [E.out]; exact ret_w rfl (by simp) rfl, below_drewN HB1.out _⟩
set_option maxRecDepth 100000 in
set_option maxHeartbeats 4000000 in
theorem c_lW_4N (L : List EN) (a : Option Addr) (n c k : Nat) (x : EN) (w : World) (hr : RdE w a n L) (hk : k < n) (hn : n ≤ 1048576) (hx : x = L.getD k zeroE) (hs : x.t.size ≤ maxLen) (r : Nat × Nat × Bool) (rl : r.1 ≤ 1048576) (rd : r.2.1 ≤ 1048576) (IH : Hid (∀ W, Below w.heap.size w W → Calls Tryz.prog 105 #[.agg #[.slice a n c], .int .i64 ((k : Int) - 1)] W fun e w' => e = .returned (.tuple #[.int .i64 ((r).1 : Int), .int .i64 ((r).2.1 : Int), .bool (r).2.2]) ∧ Below W.heap.size W w')) (o1 : (x.o == 1) = false) (o2 : (x.o == 2) = false) (u : inB x.o 3 5 = false) (bi : inB x.o 6 13 = true) (ok : r.2.2 = false) (q : Nat × Nat × Bool) (E : Hid (q = (0, 0, false))) :
    Calls Tryz.prog 105 #[.agg #[.slice a n c], .int .i64 (k : Int)] w fun e w' => e = .returned (.tuple #[.int .i64 ((q).1 : Int), .int .i64 ((q).2.1 : Int), .bool (q).2.2]) ∧ Below w.heap.size w w' := by
  obtain ⟨b, off, rfl, hbl, hc⟩ := hr.2 (by omega)
  obtain ⟨d0, d1, d2, d3, d4, d5, d6⟩ := RdE.at hc hk hx
  have g1 : (0 : Int) ≤ (k : Int) := by omega
  have g2 : (k : Int) < (n : Int) := by omega
  have g3 : ¬ (k : Int) < 0 := by omega
  clear hc hx
  go_enter Tryz.func105, Tryz.ntmps105
  go_wp2_with (go_at_call 86; refine (c_in _ _ _ _).mono ?_; rintro e w' ⟨rfl, rfl⟩)
  refine (IH.out _ ((show Below w.heap.size w ((w.alloc (.cells #[.slice (some ⟨b, off, none⟩) n c] 24)).alloc (.cells #[.int .i64 x.o, .int .i64 x.a, .int .i64 x.b, .int .i64 x.c, .int .i64 x.k, .int .i64 x.n, .string x.t] 86)) from ((Below.refl _ _).alloc (Nat.le_refl _) _).alloc (by simp) _))).mono ?_
  rintro e w1 ⟨rfl, hb⟩
  have HB1 : Hid (Below w.heap.size w w1) := ((show Below w.heap.size w ((w.alloc (.cells #[.slice (some ⟨b, off, none⟩) n c] 24)).alloc (.cells #[.int .i64 x.o, .int .i64 x.a, .int .i64 x.b, .int .i64 x.c, .int .i64 x.k, .int .i64 x.n, .string x.t] 86)) from ((Below.refl _ _).alloc (Nat.le_refl _) _).alloc (by simp) _)).trans (hb.mono ((show Below w.heap.size w ((w.alloc (.cells #[.slice (some ⟨b, off, none⟩) n c] 24)).alloc (.cells #[.int .i64 x.o, .int .i64 x.a, .int .i64 x.b, .int .i64 x.c, .int .i64 x.k, .int .i64 x.n, .string x.t] 86)) from ((Below.refl _ _).alloc (Nat.le_refl _) _).alloc (by simp) _)).size)
  have Z1 : Box w1 w.heap.size 24 #[.slice (some ⟨b, off, none⟩) n c] := ((Box.new w #[.slice (some ⟨b, off, none⟩) n c] 24).alloc (.cells #[.int .i64 x.o, .int .i64 x.a, .int .i64 x.b, .int .i64 x.c, .int .i64 x.k, .int .i64 x.n, .string x.t] 86)).belowS hb
  have z1 : w1.cell? ⟨w.heap.size, 0, none⟩ = some (.slice (some ⟨b, off, none⟩) n c) := Z1.cell 0
  have Y1 : Box w1 (w.heap.size + 1) 86 #[.int .i64 x.o, .int .i64 x.a, .int .i64 x.b, .int .i64 x.c, .int .i64 x.k, .int .i64 x.n, .string x.t] := (Box.new2 w (.cells #[.slice (some ⟨b, off, none⟩) n c] 24) #[.int .i64 x.o, .int .i64 x.a, .int .i64 x.b, .int .i64 x.c, .int .i64 x.k, .int .i64 x.n, .string x.t] 86).belowS hb
  obtain ⟨y0, y1, y2, y3, y4, y5, y6⟩ := box7 Y1
  clear hb
  rw [ok]
  go_wp2
  go_ret3
  exact ⟨by rw [E.out]; rfl, HB1.out⟩
set_option maxRecDepth 100000 in
set_option maxHeartbeats 4000000 in
theorem c_lW_5 (L : List EN) (a : Option Addr) (n c k : Nat) (x : EN) (w : World) (hr : RdE w a n L) (hk : k < n) (hn : n ≤ 1048576) (hx : x = L.getD k zeroE) (hs : x.t.size ≤ maxLen) (o1 : (x.o == 1) = false) (o2 : (x.o == 2) = false) (u : inB x.o 3 5 = false) (bi : inB x.o 6 13 = false) (q : Nat × Nat × Bool) (E : Hid (q = (0, 0, false))) :
    Calls Tryz.prog 105 #[.agg #[.slice a n c], .int .i64 (k : Int)] w fun e w' => e = .returned (.tuple #[.int .i64 ((q).1 : Int), .int .i64 ((q).2.1 : Int), .bool (q).2.2]) ∧ Below w.heap.size w w' := by
  obtain ⟨b, off, rfl, hbl, hc⟩ := hr.2 (by omega)
  obtain ⟨d0, d1, d2, d3, d4, d5, d6⟩ := RdE.at hc hk hx
  have g1 : (0 : Int) ≤ (k : Int) := by omega
  have g2 : (k : Int) < (n : Int) := by omega
  have g3 : ¬ (k : Int) < 0 := by omega
  clear hc hx
  go_enter Tryz.func105, Tryz.ntmps105
  go_wp2_with (go_at_call 86; refine (c_in _ _ _ _).mono ?_; rintro e w' ⟨rfl, rfl⟩)
  go_ret3
  exact ⟨by rw [E.out]; rfl, ((Below.refl _ _).alloc (Nat.le_refl _) _).alloc (by simp) _⟩
set_option maxRecDepth 100000 in
set_option maxHeartbeats 4000000 in
theorem c_lW_4f (L : List EN) (a : Option Addr) (n c k : Nat) (x : EN) (w : World) (hr : RdE w a n L) (hk : k < n) (hn : n ≤ 1048576) (hx : x = L.getD k zeroE) (hs : x.t.size ≤ maxLen) (r : Nat × Nat × Bool) (rl : r.1 ≤ 1048576) (rd : r.2.1 ≤ 1048576) (IH : Hid (∀ W, Below w.heap.size w W → Calls Tryz.prog 105 #[.agg #[.slice a n c], .int .i64 ((k : Int) - 1)] W fun e w' => e = .returned (.tuple #[.int .i64 ((r).1 : Int), .int .i64 ((r).2.1 : Int), .bool (r).2.2]) ∧ Below W.heap.size W w')) (s : Nat × Nat × Bool) (sl : s.1 ≤ 1048576) (sd : s.2.1 ≤ 1048576) (IJ : Hid (∀ W, Below w.heap.size w W → Calls Tryz.prog 105 #[.agg #[.slice a n c], .int .i64 ((r.1 : Int) - 1)] W fun e w' => e = .returned (.tuple #[.int .i64 ((s).1 : Int), .int .i64 ((s).2.1 : Int), .bool (s).2.2]) ∧ Below W.heap.size W w')) (o1 : (x.o == 1) = false) (o2 : (x.o == 2) = false) (u : inB x.o 3 5 = false) (bi : inB x.o 6 13 = true) (ok : r.2.2 = true) (fi : s.2.2 = false) (q : Nat × Nat × Bool) (E : Hid (q = (s.1, max s.2.1 r.2.1 + 1, false))) :
    Calls Tryz.prog 105 #[.agg #[.slice a n c], .int .i64 (k : Int)] w fun e w' => e = .returned (.tuple #[.int .i64 ((q).1 : Int), .int .i64 ((q).2.1 : Int), .bool (q).2.2]) ∧ Below w.heap.size w w' := by
  obtain ⟨b, off, rfl, hbl, hc⟩ := hr.2 (by omega)
  obtain ⟨d0, d1, d2, d3, d4, d5, d6⟩ := RdE.at hc hk hx
  have g1 : (0 : Int) ≤ (k : Int) := by omega
  have g2 : (k : Int) < (n : Int) := by omega
  have g3 : ¬ (k : Int) < 0 := by omega
  clear hc hx
  go_enter Tryz.func105, Tryz.ntmps105
  go_wp2_with (go_at_call 86; refine (c_in _ _ _ _).mono ?_; rintro e w' ⟨rfl, rfl⟩)
  refine (IH.out _ ((show Below w.heap.size w ((w.alloc (.cells #[.slice (some ⟨b, off, none⟩) n c] 24)).alloc (.cells #[.int .i64 x.o, .int .i64 x.a, .int .i64 x.b, .int .i64 x.c, .int .i64 x.k, .int .i64 x.n, .string x.t] 86)) from ((Below.refl _ _).alloc (Nat.le_refl _) _).alloc (by simp) _))).mono ?_
  rintro e w1 ⟨rfl, hb⟩
  have HB1 : Hid (Below w.heap.size w w1) := ((show Below w.heap.size w ((w.alloc (.cells #[.slice (some ⟨b, off, none⟩) n c] 24)).alloc (.cells #[.int .i64 x.o, .int .i64 x.a, .int .i64 x.b, .int .i64 x.c, .int .i64 x.k, .int .i64 x.n, .string x.t] 86)) from ((Below.refl _ _).alloc (Nat.le_refl _) _).alloc (by simp) _)).trans (hb.mono ((show Below w.heap.size w ((w.alloc (.cells #[.slice (some ⟨b, off, none⟩) n c] 24)).alloc (.cells #[.int .i64 x.o, .int .i64 x.a, .int .i64 x.b, .int .i64 x.c, .int .i64 x.k, .int .i64 x.n, .string x.t] 86)) from ((Below.refl _ _).alloc (Nat.le_refl _) _).alloc (by simp) _)).size)
  have Z1 : Box w1 w.heap.size 24 #[.slice (some ⟨b, off, none⟩) n c] := ((Box.new w #[.slice (some ⟨b, off, none⟩) n c] 24).alloc (.cells #[.int .i64 x.o, .int .i64 x.a, .int .i64 x.b, .int .i64 x.c, .int .i64 x.k, .int .i64 x.n, .string x.t] 86)).belowS hb
  have z1 : w1.cell? ⟨w.heap.size, 0, none⟩ = some (.slice (some ⟨b, off, none⟩) n c) := Z1.cell 0
  have Y1 : Box w1 (w.heap.size + 1) 86 #[.int .i64 x.o, .int .i64 x.a, .int .i64 x.b, .int .i64 x.c, .int .i64 x.k, .int .i64 x.n, .string x.t] := (Box.new2 w (.cells #[.slice (some ⟨b, off, none⟩) n c] 24) #[.int .i64 x.o, .int .i64 x.a, .int .i64 x.b, .int .i64 x.c, .int .i64 x.k, .int .i64 x.n, .string x.t] 86).belowS hb
  obtain ⟨y0, y1, y2, y3, y4, y5, y6⟩ := box7 Y1
  clear hb
  rw [ok]
  go_wp2_with fail
  refine (IJ.out _ HB1.out).mono ?_
  rintro e w2 ⟨rfl, hb⟩
  have HB2 : Hid (Below w.heap.size w w2) := HB1.out.trans (hb.mono HB1.out.size)
  have Y2 : Box w2 (w.heap.size + 1) 86 #[.int .i64 x.o, .int .i64 x.a, .int .i64 x.b, .int .i64 x.c, .int .i64 x.k, .int .i64 x.n, .string x.t] := Y1.belowS hb
  clear y0 y1 y2 y3 y4 y5 y6 z1 Z1
  obtain ⟨y0, y1, y2, y3, y4, y5, y6⟩ := box7 Y2
  clear hb
  go_wp2_with fail
  go_big_quiet (fail)
  go_wp2
  all_goals go_ret3
  all_goals exact ⟨by rw [E.out]; exact ret_w rfl (by dsimp only; omega) rfl, below_drewN HB2.out _⟩
set_option maxRecDepth 100000 in
set_option maxHeartbeats 4000000 in
theorem c_lW_4a (L : List EN) (a : Option Addr) (n c k : Nat) (x : EN) (w : World) (hr : RdE w a n L) (hk : k < n) (hn : n ≤ 1048576) (hx : x = L.getD k zeroE) (hs : x.t.size ≤ maxLen) (r : Nat × Nat × Bool) (rl : r.1 ≤ 1048576) (rd : r.2.1 ≤ 1048576) (IH : Hid (∀ W, Below w.heap.size w W → Calls Tryz.prog 105 #[.agg #[.slice a n c], .int .i64 ((k : Int) - 1)] W fun e w' => e = .returned (.tuple #[.int .i64 ((r).1 : Int), .int .i64 ((r).2.1 : Int), .bool (r).2.2]) ∧ Below W.heap.size W w')) (s : Nat × Nat × Bool) (sl : s.1 ≤ 1048576) (sd : s.2.1 ≤ 1048576) (IJ : Hid (∀ W, Below w.heap.size w W → Calls Tryz.prog 105 #[.agg #[.slice a n c], .int .i64 ((r.1 : Int) - 1)] W fun e w' => e = .returned (.tuple #[.int .i64 ((s).1 : Int), .int .i64 ((s).2.1 : Int), .bool (s).2.2]) ∧ Below W.heap.size W w')) (o1 : (x.o == 1) = false) (o2 : (x.o == 2) = false) (u : inB x.o 3 5 = false) (bi : inB x.o 6 13 = true) (ok : r.2.2 = true) (fi : s.2.2 = true) (aw : (x.a == (r.1 : Int) - 1) = false) (q : Nat × Nat × Bool) (E : Hid (q = (s.1, max s.2.1 r.2.1 + 1, false))) :
    Calls Tryz.prog 105 #[.agg #[.slice a n c], .int .i64 (k : Int)] w fun e w' => e = .returned (.tuple #[.int .i64 ((q).1 : Int), .int .i64 ((q).2.1 : Int), .bool (q).2.2]) ∧ Below w.heap.size w w' := by
  obtain ⟨b, off, rfl, hbl, hc⟩ := hr.2 (by omega)
  obtain ⟨d0, d1, d2, d3, d4, d5, d6⟩ := RdE.at hc hk hx
  have g1 : (0 : Int) ≤ (k : Int) := by omega
  have g2 : (k : Int) < (n : Int) := by omega
  have g3 : ¬ (k : Int) < 0 := by omega
  clear hc hx
  go_enter Tryz.func105, Tryz.ntmps105
  go_wp2_with (go_at_call 86; refine (c_in _ _ _ _).mono ?_; rintro e w' ⟨rfl, rfl⟩)
  refine (IH.out _ ((show Below w.heap.size w ((w.alloc (.cells #[.slice (some ⟨b, off, none⟩) n c] 24)).alloc (.cells #[.int .i64 x.o, .int .i64 x.a, .int .i64 x.b, .int .i64 x.c, .int .i64 x.k, .int .i64 x.n, .string x.t] 86)) from ((Below.refl _ _).alloc (Nat.le_refl _) _).alloc (by simp) _))).mono ?_
  rintro e w1 ⟨rfl, hb⟩
  have HB1 : Hid (Below w.heap.size w w1) := ((show Below w.heap.size w ((w.alloc (.cells #[.slice (some ⟨b, off, none⟩) n c] 24)).alloc (.cells #[.int .i64 x.o, .int .i64 x.a, .int .i64 x.b, .int .i64 x.c, .int .i64 x.k, .int .i64 x.n, .string x.t] 86)) from ((Below.refl _ _).alloc (Nat.le_refl _) _).alloc (by simp) _)).trans (hb.mono ((show Below w.heap.size w ((w.alloc (.cells #[.slice (some ⟨b, off, none⟩) n c] 24)).alloc (.cells #[.int .i64 x.o, .int .i64 x.a, .int .i64 x.b, .int .i64 x.c, .int .i64 x.k, .int .i64 x.n, .string x.t] 86)) from ((Below.refl _ _).alloc (Nat.le_refl _) _).alloc (by simp) _)).size)
  have Z1 : Box w1 w.heap.size 24 #[.slice (some ⟨b, off, none⟩) n c] := ((Box.new w #[.slice (some ⟨b, off, none⟩) n c] 24).alloc (.cells #[.int .i64 x.o, .int .i64 x.a, .int .i64 x.b, .int .i64 x.c, .int .i64 x.k, .int .i64 x.n, .string x.t] 86)).belowS hb
  have z1 : w1.cell? ⟨w.heap.size, 0, none⟩ = some (.slice (some ⟨b, off, none⟩) n c) := Z1.cell 0
  have Y1 : Box w1 (w.heap.size + 1) 86 #[.int .i64 x.o, .int .i64 x.a, .int .i64 x.b, .int .i64 x.c, .int .i64 x.k, .int .i64 x.n, .string x.t] := (Box.new2 w (.cells #[.slice (some ⟨b, off, none⟩) n c] 24) #[.int .i64 x.o, .int .i64 x.a, .int .i64 x.b, .int .i64 x.c, .int .i64 x.k, .int .i64 x.n, .string x.t] 86).belowS hb
  obtain ⟨y0, y1, y2, y3, y4, y5, y6⟩ := box7 Y1
  clear hb
  rw [ok]
  go_wp2_with fail
  refine (IJ.out _ HB1.out).mono ?_
  rintro e w2 ⟨rfl, hb⟩
  have HB2 : Hid (Below w.heap.size w w2) := HB1.out.trans (hb.mono HB1.out.size)
  have Y2 : Box w2 (w.heap.size + 1) 86 #[.int .i64 x.o, .int .i64 x.a, .int .i64 x.b, .int .i64 x.c, .int .i64 x.k, .int .i64 x.n, .string x.t] := Y1.belowS hb
  clear y0 y1 y2 y3 y4 y5 y6 z1 Z1
  obtain ⟨y0, y1, y2, y3, y4, y5, y6⟩ := box7 Y2
  clear hb
  go_wp2_with fail
  go_big_quiet (fail)
  go_wp2
  all_goals go_ret3
  all_goals exact ⟨by rw [E.out]; exact ret_w rfl (by dsimp only; omega) rfl, below_drewN HB2.out _⟩
set_option maxRecDepth 100000 in
set_option maxHeartbeats 4000000 in
theorem c_lW_4b (L : List EN) (a : Option Addr) (n c k : Nat) (x : EN) (w : World) (hr : RdE w a n L) (hk : k < n) (hn : n ≤ 1048576) (hx : x = L.getD k zeroE) (hs : x.t.size ≤ maxLen) (r : Nat × Nat × Bool) (rl : r.1 ≤ 1048576) (rd : r.2.1 ≤ 1048576) (IH : Hid (∀ W, Below w.heap.size w W → Calls Tryz.prog 105 #[.agg #[.slice a n c], .int .i64 ((k : Int) - 1)] W fun e w' => e = .returned (.tuple #[.int .i64 ((r).1 : Int), .int .i64 ((r).2.1 : Int), .bool (r).2.2]) ∧ Below W.heap.size W w')) (s : Nat × Nat × Bool) (sl : s.1 ≤ 1048576) (sd : s.2.1 ≤ 1048576) (IJ : Hid (∀ W, Below w.heap.size w W → Calls Tryz.prog 105 #[.agg #[.slice a n c], .int .i64 ((r.1 : Int) - 1)] W fun e w' => e = .returned (.tuple #[.int .i64 ((s).1 : Int), .int .i64 ((s).2.1 : Int), .bool (s).2.2]) ∧ Below W.heap.size W w')) (o1 : (x.o == 1) = false) (o2 : (x.o == 2) = false) (u : inB x.o 3 5 = false) (bi : inB x.o 6 13 = true) (ok : r.2.2 = true) (fi : s.2.2 = true) (aw : (x.a == (r.1 : Int) - 1) = true) (bm : (x.b == (k : Int) - 1) = false) (q : Nat × Nat × Bool) (E : Hid (q = (s.1, max s.2.1 r.2.1 + 1, false))) :
    Calls Tryz.prog 105 #[.agg #[.slice a n c], .int .i64 (k : Int)] w fun e w' => e = .returned (.tuple #[.int .i64 ((q).1 : Int), .int .i64 ((q).2.1 : Int), .bool (q).2.2]) ∧ Below w.heap.size w w' := by
  obtain ⟨b, off, rfl, hbl, hc⟩ := hr.2 (by omega)
  obtain ⟨d0, d1, d2, d3, d4, d5, d6⟩ := RdE.at hc hk hx
  have g1 : (0 : Int) ≤ (k : Int) := by omega
  have g2 : (k : Int) < (n : Int) := by omega
  have g3 : ¬ (k : Int) < 0 := by omega
  clear hc hx
  go_enter Tryz.func105, Tryz.ntmps105
  go_wp2_with (go_at_call 86; refine (c_in _ _ _ _).mono ?_; rintro e w' ⟨rfl, rfl⟩)
  refine (IH.out _ ((show Below w.heap.size w ((w.alloc (.cells #[.slice (some ⟨b, off, none⟩) n c] 24)).alloc (.cells #[.int .i64 x.o, .int .i64 x.a, .int .i64 x.b, .int .i64 x.c, .int .i64 x.k, .int .i64 x.n, .string x.t] 86)) from ((Below.refl _ _).alloc (Nat.le_refl _) _).alloc (by simp) _))).mono ?_
  rintro e w1 ⟨rfl, hb⟩
  have HB1 : Hid (Below w.heap.size w w1) := ((show Below w.heap.size w ((w.alloc (.cells #[.slice (some ⟨b, off, none⟩) n c] 24)).alloc (.cells #[.int .i64 x.o, .int .i64 x.a, .int .i64 x.b, .int .i64 x.c, .int .i64 x.k, .int .i64 x.n, .string x.t] 86)) from ((Below.refl _ _).alloc (Nat.le_refl _) _).alloc (by simp) _)).trans (hb.mono ((show Below w.heap.size w ((w.alloc (.cells #[.slice (some ⟨b, off, none⟩) n c] 24)).alloc (.cells #[.int .i64 x.o, .int .i64 x.a, .int .i64 x.b, .int .i64 x.c, .int .i64 x.k, .int .i64 x.n, .string x.t] 86)) from ((Below.refl _ _).alloc (Nat.le_refl _) _).alloc (by simp) _)).size)
  have Z1 : Box w1 w.heap.size 24 #[.slice (some ⟨b, off, none⟩) n c] := ((Box.new w #[.slice (some ⟨b, off, none⟩) n c] 24).alloc (.cells #[.int .i64 x.o, .int .i64 x.a, .int .i64 x.b, .int .i64 x.c, .int .i64 x.k, .int .i64 x.n, .string x.t] 86)).belowS hb
  have z1 : w1.cell? ⟨w.heap.size, 0, none⟩ = some (.slice (some ⟨b, off, none⟩) n c) := Z1.cell 0
  have Y1 : Box w1 (w.heap.size + 1) 86 #[.int .i64 x.o, .int .i64 x.a, .int .i64 x.b, .int .i64 x.c, .int .i64 x.k, .int .i64 x.n, .string x.t] := (Box.new2 w (.cells #[.slice (some ⟨b, off, none⟩) n c] 24) #[.int .i64 x.o, .int .i64 x.a, .int .i64 x.b, .int .i64 x.c, .int .i64 x.k, .int .i64 x.n, .string x.t] 86).belowS hb
  obtain ⟨y0, y1, y2, y3, y4, y5, y6⟩ := box7 Y1
  clear hb
  rw [ok]
  go_wp2_with fail
  refine (IJ.out _ HB1.out).mono ?_
  rintro e w2 ⟨rfl, hb⟩
  have HB2 : Hid (Below w.heap.size w w2) := HB1.out.trans (hb.mono HB1.out.size)
  have Y2 : Box w2 (w.heap.size + 1) 86 #[.int .i64 x.o, .int .i64 x.a, .int .i64 x.b, .int .i64 x.c, .int .i64 x.k, .int .i64 x.n, .string x.t] := Y1.belowS hb
  clear y0 y1 y2 y3 y4 y5 y6 z1 Z1
  obtain ⟨y0, y1, y2, y3, y4, y5, y6⟩ := box7 Y2
  clear hb
  go_wp2_with fail
  go_big_quiet (fail)
  go_wp2
  all_goals go_ret3
  all_goals exact ⟨by rw [E.out]; exact ret_w rfl (by dsimp only; omega) rfl, below_drewN HB2.out _⟩
set_option maxRecDepth 100000 in
set_option maxHeartbeats 4000000 in
theorem c_lW_4c (L : List EN) (a : Option Addr) (n c k : Nat) (x : EN) (w : World) (hr : RdE w a n L) (hk : k < n) (hn : n ≤ 1048576) (hx : x = L.getD k zeroE) (hs : x.t.size ≤ maxLen) (r : Nat × Nat × Bool) (rl : r.1 ≤ 1048576) (rd : r.2.1 ≤ 1048576) (IH : Hid (∀ W, Below w.heap.size w W → Calls Tryz.prog 105 #[.agg #[.slice a n c], .int .i64 ((k : Int) - 1)] W fun e w' => e = .returned (.tuple #[.int .i64 ((r).1 : Int), .int .i64 ((r).2.1 : Int), .bool (r).2.2]) ∧ Below W.heap.size W w')) (s : Nat × Nat × Bool) (sl : s.1 ≤ 1048576) (sd : s.2.1 ≤ 1048576) (IJ : Hid (∀ W, Below w.heap.size w W → Calls Tryz.prog 105 #[.agg #[.slice a n c], .int .i64 ((r.1 : Int) - 1)] W fun e w' => e = .returned (.tuple #[.int .i64 ((s).1 : Int), .int .i64 ((s).2.1 : Int), .bool (s).2.2]) ∧ Below W.heap.size W w')) (o1 : (x.o == 1) = false) (o2 : (x.o == 2) = false) (u : inB x.o 3 5 = false) (bi : inB x.o 6 13 = true) (ok : r.2.2 = true) (fi : s.2.2 = true) (aw : (x.a == (r.1 : Int) - 1) = true) (bm : (x.b == (k : Int) - 1) = true) (c0 : (x.c == 0) = false) (q : Nat × Nat × Bool) (E : Hid (q = (s.1, max s.2.1 r.2.1 + 1, false))) :
    Calls Tryz.prog 105 #[.agg #[.slice a n c], .int .i64 (k : Int)] w fun e w' => e = .returned (.tuple #[.int .i64 ((q).1 : Int), .int .i64 ((q).2.1 : Int), .bool (q).2.2]) ∧ Below w.heap.size w w' := by
  obtain ⟨b, off, rfl, hbl, hc⟩ := hr.2 (by omega)
  obtain ⟨d0, d1, d2, d3, d4, d5, d6⟩ := RdE.at hc hk hx
  have g1 : (0 : Int) ≤ (k : Int) := by omega
  have g2 : (k : Int) < (n : Int) := by omega
  have g3 : ¬ (k : Int) < 0 := by omega
  clear hc hx
  go_enter Tryz.func105, Tryz.ntmps105
  go_wp2_with (go_at_call 86; refine (c_in _ _ _ _).mono ?_; rintro e w' ⟨rfl, rfl⟩)
  refine (IH.out _ ((show Below w.heap.size w ((w.alloc (.cells #[.slice (some ⟨b, off, none⟩) n c] 24)).alloc (.cells #[.int .i64 x.o, .int .i64 x.a, .int .i64 x.b, .int .i64 x.c, .int .i64 x.k, .int .i64 x.n, .string x.t] 86)) from ((Below.refl _ _).alloc (Nat.le_refl _) _).alloc (by simp) _))).mono ?_
  rintro e w1 ⟨rfl, hb⟩
  have HB1 : Hid (Below w.heap.size w w1) := ((show Below w.heap.size w ((w.alloc (.cells #[.slice (some ⟨b, off, none⟩) n c] 24)).alloc (.cells #[.int .i64 x.o, .int .i64 x.a, .int .i64 x.b, .int .i64 x.c, .int .i64 x.k, .int .i64 x.n, .string x.t] 86)) from ((Below.refl _ _).alloc (Nat.le_refl _) _).alloc (by simp) _)).trans (hb.mono ((show Below w.heap.size w ((w.alloc (.cells #[.slice (some ⟨b, off, none⟩) n c] 24)).alloc (.cells #[.int .i64 x.o, .int .i64 x.a, .int .i64 x.b, .int .i64 x.c, .int .i64 x.k, .int .i64 x.n, .string x.t] 86)) from ((Below.refl _ _).alloc (Nat.le_refl _) _).alloc (by simp) _)).size)
  have Z1 : Box w1 w.heap.size 24 #[.slice (some ⟨b, off, none⟩) n c] := ((Box.new w #[.slice (some ⟨b, off, none⟩) n c] 24).alloc (.cells #[.int .i64 x.o, .int .i64 x.a, .int .i64 x.b, .int .i64 x.c, .int .i64 x.k, .int .i64 x.n, .string x.t] 86)).belowS hb
  have z1 : w1.cell? ⟨w.heap.size, 0, none⟩ = some (.slice (some ⟨b, off, none⟩) n c) := Z1.cell 0
  have Y1 : Box w1 (w.heap.size + 1) 86 #[.int .i64 x.o, .int .i64 x.a, .int .i64 x.b, .int .i64 x.c, .int .i64 x.k, .int .i64 x.n, .string x.t] := (Box.new2 w (.cells #[.slice (some ⟨b, off, none⟩) n c] 24) #[.int .i64 x.o, .int .i64 x.a, .int .i64 x.b, .int .i64 x.c, .int .i64 x.k, .int .i64 x.n, .string x.t] 86).belowS hb
  obtain ⟨y0, y1, y2, y3, y4, y5, y6⟩ := box7 Y1
  clear hb
  rw [ok]
  go_wp2_with fail
  refine (IJ.out _ HB1.out).mono ?_
  rintro e w2 ⟨rfl, hb⟩
  have HB2 : Hid (Below w.heap.size w w2) := HB1.out.trans (hb.mono HB1.out.size)
  have Y2 : Box w2 (w.heap.size + 1) 86 #[.int .i64 x.o, .int .i64 x.a, .int .i64 x.b, .int .i64 x.c, .int .i64 x.k, .int .i64 x.n, .string x.t] := Y1.belowS hb
  clear y0 y1 y2 y3 y4 y5 y6 z1 Z1
  obtain ⟨y0, y1, y2, y3, y4, y5, y6⟩ := box7 Y2
  clear hb
  go_wp2_with fail
  go_big_quiet (fail)
  go_wp2
  all_goals go_ret3
  all_goals exact ⟨by rw [E.out]; exact ret_w rfl (by dsimp only; omega) rfl, below_drewN HB2.out _⟩
set_option maxRecDepth 100000 in
set_option maxHeartbeats 4000000 in
theorem c_lW_4k (L : List EN) (a : Option Addr) (n c k : Nat) (x : EN) (w : World) (hr : RdE w a n L) (hk : k < n) (hn : n ≤ 1048576) (hx : x = L.getD k zeroE) (hs : x.t.size ≤ maxLen) (r : Nat × Nat × Bool) (rl : r.1 ≤ 1048576) (rd : r.2.1 ≤ 1048576) (IH : Hid (∀ W, Below w.heap.size w W → Calls Tryz.prog 105 #[.agg #[.slice a n c], .int .i64 ((k : Int) - 1)] W fun e w' => e = .returned (.tuple #[.int .i64 ((r).1 : Int), .int .i64 ((r).2.1 : Int), .bool (r).2.2]) ∧ Below W.heap.size W w')) (s : Nat × Nat × Bool) (sl : s.1 ≤ 1048576) (sd : s.2.1 ≤ 1048576) (IJ : Hid (∀ W, Below w.heap.size w W → Calls Tryz.prog 105 #[.agg #[.slice a n c], .int .i64 ((r.1 : Int) - 1)] W fun e w' => e = .returned (.tuple #[.int .i64 ((s).1 : Int), .int .i64 ((s).2.1 : Int), .bool (s).2.2]) ∧ Below W.heap.size W w')) (o1 : (x.o == 1) = false) (o2 : (x.o == 2) = false) (u : inB x.o 3 5 = false) (bi : inB x.o 6 13 = true) (ok : r.2.2 = true) (fi : s.2.2 = true) (aw : (x.a == (r.1 : Int) - 1) = true) (bm : (x.b == (k : Int) - 1) = true) (c0 : (x.c == 0) = true) (k0 : (x.k == 0) = false) (q : Nat × Nat × Bool) (E : Hid (q = (s.1, max s.2.1 r.2.1 + 1, false))) :
    Calls Tryz.prog 105 #[.agg #[.slice a n c], .int .i64 (k : Int)] w fun e w' => e = .returned (.tuple #[.int .i64 ((q).1 : Int), .int .i64 ((q).2.1 : Int), .bool (q).2.2]) ∧ Below w.heap.size w w' := by
  obtain ⟨b, off, rfl, hbl, hc⟩ := hr.2 (by omega)
  obtain ⟨d0, d1, d2, d3, d4, d5, d6⟩ := RdE.at hc hk hx
  have g1 : (0 : Int) ≤ (k : Int) := by omega
  have g2 : (k : Int) < (n : Int) := by omega
  have g3 : ¬ (k : Int) < 0 := by omega
  clear hc hx
  go_enter Tryz.func105, Tryz.ntmps105
  go_wp2_with (go_at_call 86; refine (c_in _ _ _ _).mono ?_; rintro e w' ⟨rfl, rfl⟩)
  refine (IH.out _ ((show Below w.heap.size w ((w.alloc (.cells #[.slice (some ⟨b, off, none⟩) n c] 24)).alloc (.cells #[.int .i64 x.o, .int .i64 x.a, .int .i64 x.b, .int .i64 x.c, .int .i64 x.k, .int .i64 x.n, .string x.t] 86)) from ((Below.refl _ _).alloc (Nat.le_refl _) _).alloc (by simp) _))).mono ?_
  rintro e w1 ⟨rfl, hb⟩
  have HB1 : Hid (Below w.heap.size w w1) := ((show Below w.heap.size w ((w.alloc (.cells #[.slice (some ⟨b, off, none⟩) n c] 24)).alloc (.cells #[.int .i64 x.o, .int .i64 x.a, .int .i64 x.b, .int .i64 x.c, .int .i64 x.k, .int .i64 x.n, .string x.t] 86)) from ((Below.refl _ _).alloc (Nat.le_refl _) _).alloc (by simp) _)).trans (hb.mono ((show Below w.heap.size w ((w.alloc (.cells #[.slice (some ⟨b, off, none⟩) n c] 24)).alloc (.cells #[.int .i64 x.o, .int .i64 x.a, .int .i64 x.b, .int .i64 x.c, .int .i64 x.k, .int .i64 x.n, .string x.t] 86)) from ((Below.refl _ _).alloc (Nat.le_refl _) _).alloc (by simp) _)).size)
  have Z1 : Box w1 w.heap.size 24 #[.slice (some ⟨b, off, none⟩) n c] := ((Box.new w #[.slice (some ⟨b, off, none⟩) n c] 24).alloc (.cells #[.int .i64 x.o, .int .i64 x.a, .int .i64 x.b, .int .i64 x.c, .int .i64 x.k, .int .i64 x.n, .string x.t] 86)).belowS hb
  have z1 : w1.cell? ⟨w.heap.size, 0, none⟩ = some (.slice (some ⟨b, off, none⟩) n c) := Z1.cell 0
  have Y1 : Box w1 (w.heap.size + 1) 86 #[.int .i64 x.o, .int .i64 x.a, .int .i64 x.b, .int .i64 x.c, .int .i64 x.k, .int .i64 x.n, .string x.t] := (Box.new2 w (.cells #[.slice (some ⟨b, off, none⟩) n c] 24) #[.int .i64 x.o, .int .i64 x.a, .int .i64 x.b, .int .i64 x.c, .int .i64 x.k, .int .i64 x.n, .string x.t] 86).belowS hb
  obtain ⟨y0, y1, y2, y3, y4, y5, y6⟩ := box7 Y1
  clear hb
  rw [ok]
  go_wp2_with fail
  refine (IJ.out _ HB1.out).mono ?_
  rintro e w2 ⟨rfl, hb⟩
  have HB2 : Hid (Below w.heap.size w w2) := HB1.out.trans (hb.mono HB1.out.size)
  have Y2 : Box w2 (w.heap.size + 1) 86 #[.int .i64 x.o, .int .i64 x.a, .int .i64 x.b, .int .i64 x.c, .int .i64 x.k, .int .i64 x.n, .string x.t] := Y1.belowS hb
  clear y0 y1 y2 y3 y4 y5 y6 z1 Z1
  obtain ⟨y0, y1, y2, y3, y4, y5, y6⟩ := box7 Y2
  clear hb
  go_wp2_with fail
  go_big_quiet (fail)
  go_wp2
  all_goals go_ret3
  all_goals exact ⟨by rw [E.out]; exact ret_w rfl (by dsimp only; omega) rfl, below_drewN HB2.out _⟩
set_option maxRecDepth 100000 in
set_option maxHeartbeats 4000000 in
theorem c_lW_4n (L : List EN) (a : Option Addr) (n c k : Nat) (x : EN) (w : World) (hr : RdE w a n L) (hk : k < n) (hn : n ≤ 1048576) (hx : x = L.getD k zeroE) (hs : x.t.size ≤ maxLen) (r : Nat × Nat × Bool) (rl : r.1 ≤ 1048576) (rd : r.2.1 ≤ 1048576) (IH : Hid (∀ W, Below w.heap.size w W → Calls Tryz.prog 105 #[.agg #[.slice a n c], .int .i64 ((k : Int) - 1)] W fun e w' => e = .returned (.tuple #[.int .i64 ((r).1 : Int), .int .i64 ((r).2.1 : Int), .bool (r).2.2]) ∧ Below W.heap.size W w')) (s : Nat × Nat × Bool) (sl : s.1 ≤ 1048576) (sd : s.2.1 ≤ 1048576) (IJ : Hid (∀ W, Below w.heap.size w W → Calls Tryz.prog 105 #[.agg #[.slice a n c], .int .i64 ((r.1 : Int) - 1)] W fun e w' => e = .returned (.tuple #[.int .i64 ((s).1 : Int), .int .i64 ((s).2.1 : Int), .bool (s).2.2]) ∧ Below W.heap.size W w')) (o1 : (x.o == 1) = false) (o2 : (x.o == 2) = false) (u : inB x.o 3 5 = false) (bi : inB x.o 6 13 = true) (ok : r.2.2 = true) (fi : s.2.2 = true) (aw : (x.a == (r.1 : Int) - 1) = true) (bm : (x.b == (k : Int) - 1) = true) (c0 : (x.c == 0) = true) (k0 : (x.k == 0) = true) (n0 : (x.n == 0) = false) (q : Nat × Nat × Bool) (E : Hid (q = (s.1, max s.2.1 r.2.1 + 1, false))) :
    Calls Tryz.prog 105 #[.agg #[.slice a n c], .int .i64 (k : Int)] w fun e w' => e = .returned (.tuple #[.int .i64 ((q).1 : Int), .int .i64 ((q).2.1 : Int), .bool (q).2.2]) ∧ Below w.heap.size w w' := by
  obtain ⟨b, off, rfl, hbl, hc⟩ := hr.2 (by omega)
  obtain ⟨d0, d1, d2, d3, d4, d5, d6⟩ := RdE.at hc hk hx
  have g1 : (0 : Int) ≤ (k : Int) := by omega
  have g2 : (k : Int) < (n : Int) := by omega
  have g3 : ¬ (k : Int) < 0 := by omega
  clear hc hx
  go_enter Tryz.func105, Tryz.ntmps105
  go_wp2_with (go_at_call 86; refine (c_in _ _ _ _).mono ?_; rintro e w' ⟨rfl, rfl⟩)
  refine (IH.out _ ((show Below w.heap.size w ((w.alloc (.cells #[.slice (some ⟨b, off, none⟩) n c] 24)).alloc (.cells #[.int .i64 x.o, .int .i64 x.a, .int .i64 x.b, .int .i64 x.c, .int .i64 x.k, .int .i64 x.n, .string x.t] 86)) from ((Below.refl _ _).alloc (Nat.le_refl _) _).alloc (by simp) _))).mono ?_
  rintro e w1 ⟨rfl, hb⟩
  have HB1 : Hid (Below w.heap.size w w1) := ((show Below w.heap.size w ((w.alloc (.cells #[.slice (some ⟨b, off, none⟩) n c] 24)).alloc (.cells #[.int .i64 x.o, .int .i64 x.a, .int .i64 x.b, .int .i64 x.c, .int .i64 x.k, .int .i64 x.n, .string x.t] 86)) from ((Below.refl _ _).alloc (Nat.le_refl _) _).alloc (by simp) _)).trans (hb.mono ((show Below w.heap.size w ((w.alloc (.cells #[.slice (some ⟨b, off, none⟩) n c] 24)).alloc (.cells #[.int .i64 x.o, .int .i64 x.a, .int .i64 x.b, .int .i64 x.c, .int .i64 x.k, .int .i64 x.n, .string x.t] 86)) from ((Below.refl _ _).alloc (Nat.le_refl _) _).alloc (by simp) _)).size)
  have Z1 : Box w1 w.heap.size 24 #[.slice (some ⟨b, off, none⟩) n c] := ((Box.new w #[.slice (some ⟨b, off, none⟩) n c] 24).alloc (.cells #[.int .i64 x.o, .int .i64 x.a, .int .i64 x.b, .int .i64 x.c, .int .i64 x.k, .int .i64 x.n, .string x.t] 86)).belowS hb
  have z1 : w1.cell? ⟨w.heap.size, 0, none⟩ = some (.slice (some ⟨b, off, none⟩) n c) := Z1.cell 0
  have Y1 : Box w1 (w.heap.size + 1) 86 #[.int .i64 x.o, .int .i64 x.a, .int .i64 x.b, .int .i64 x.c, .int .i64 x.k, .int .i64 x.n, .string x.t] := (Box.new2 w (.cells #[.slice (some ⟨b, off, none⟩) n c] 24) #[.int .i64 x.o, .int .i64 x.a, .int .i64 x.b, .int .i64 x.c, .int .i64 x.k, .int .i64 x.n, .string x.t] 86).belowS hb
  obtain ⟨y0, y1, y2, y3, y4, y5, y6⟩ := box7 Y1
  clear hb
  rw [ok]
  go_wp2_with fail
  refine (IJ.out _ HB1.out).mono ?_
  rintro e w2 ⟨rfl, hb⟩
  have HB2 : Hid (Below w.heap.size w w2) := HB1.out.trans (hb.mono HB1.out.size)
  have Y2 : Box w2 (w.heap.size + 1) 86 #[.int .i64 x.o, .int .i64 x.a, .int .i64 x.b, .int .i64 x.c, .int .i64 x.k, .int .i64 x.n, .string x.t] := Y1.belowS hb
  clear y0 y1 y2 y3 y4 y5 y6 z1 Z1
  obtain ⟨y0, y1, y2, y3, y4, y5, y6⟩ := box7 Y2
  clear hb
  go_wp2_with fail
  go_big_quiet (fail)
  go_wp2
  all_goals go_ret3
  all_goals exact ⟨by rw [E.out]; exact ret_w rfl (by dsimp only; omega) rfl, below_drewN HB2.out _⟩
set_option maxRecDepth 100000 in
set_option maxHeartbeats 4000000 in
theorem c_lW_4t (L : List EN) (a : Option Addr) (n c k : Nat) (x : EN) (w : World) (hr : RdE w a n L) (hk : k < n) (hn : n ≤ 1048576) (hx : x = L.getD k zeroE) (hs : x.t.size ≤ maxLen) (r : Nat × Nat × Bool) (rl : r.1 ≤ 1048576) (rd : r.2.1 ≤ 1048576) (IH : Hid (∀ W, Below w.heap.size w W → Calls Tryz.prog 105 #[.agg #[.slice a n c], .int .i64 ((k : Int) - 1)] W fun e w' => e = .returned (.tuple #[.int .i64 ((r).1 : Int), .int .i64 ((r).2.1 : Int), .bool (r).2.2]) ∧ Below W.heap.size W w')) (s : Nat × Nat × Bool) (sl : s.1 ≤ 1048576) (sd : s.2.1 ≤ 1048576) (IJ : Hid (∀ W, Below w.heap.size w W → Calls Tryz.prog 105 #[.agg #[.slice a n c], .int .i64 ((r.1 : Int) - 1)] W fun e w' => e = .returned (.tuple #[.int .i64 ((s).1 : Int), .int .i64 ((s).2.1 : Int), .bool (s).2.2]) ∧ Below W.heap.size W w')) (o1 : (x.o == 1) = false) (o2 : (x.o == 2) = false) (u : inB x.o 3 5 = false) (bi : inB x.o 6 13 = true) (ok : r.2.2 = true) (fi : s.2.2 = true) (aw : (x.a == (r.1 : Int) - 1) = true) (bm : (x.b == (k : Int) - 1) = true) (c0 : (x.c == 0) = true) (k0 : (x.k == 0) = true) (n0 : (x.n == 0) = true) (t0 : (x.t.toList == []) = false) (q : Nat × Nat × Bool) (E : Hid (q = (s.1, max s.2.1 r.2.1 + 1, false))) :
    Calls Tryz.prog 105 #[.agg #[.slice a n c], .int .i64 (k : Int)] w fun e w' => e = .returned (.tuple #[.int .i64 ((q).1 : Int), .int .i64 ((q).2.1 : Int), .bool (q).2.2]) ∧ Below w.heap.size w w' := by
  obtain ⟨b, off, rfl, hbl, hc⟩ := hr.2 (by omega)
  obtain ⟨d0, d1, d2, d3, d4, d5, d6⟩ := RdE.at hc hk hx
  have g1 : (0 : Int) ≤ (k : Int) := by omega
  have g2 : (k : Int) < (n : Int) := by omega
  have g3 : ¬ (k : Int) < 0 := by omega
  clear hc hx
  go_enter Tryz.func105, Tryz.ntmps105
  go_wp2_with (go_at_call 86; refine (c_in _ _ _ _).mono ?_; rintro e w' ⟨rfl, rfl⟩)
  refine (IH.out _ ((show Below w.heap.size w ((w.alloc (.cells #[.slice (some ⟨b, off, none⟩) n c] 24)).alloc (.cells #[.int .i64 x.o, .int .i64 x.a, .int .i64 x.b, .int .i64 x.c, .int .i64 x.k, .int .i64 x.n, .string x.t] 86)) from ((Below.refl _ _).alloc (Nat.le_refl _) _).alloc (by simp) _))).mono ?_
  rintro e w1 ⟨rfl, hb⟩
  have HB1 : Hid (Below w.heap.size w w1) := ((show Below w.heap.size w ((w.alloc (.cells #[.slice (some ⟨b, off, none⟩) n c] 24)).alloc (.cells #[.int .i64 x.o, .int .i64 x.a, .int .i64 x.b, .int .i64 x.c, .int .i64 x.k, .int .i64 x.n, .string x.t] 86)) from ((Below.refl _ _).alloc (Nat.le_refl _) _).alloc (by simp) _)).trans (hb.mono ((show Below w.heap.size w ((w.alloc (.cells #[.slice (some ⟨b, off, none⟩) n c] 24)).alloc (.cells #[.int .i64 x.o, .int .i64 x.a, .int .i64 x.b, .int .i64 x.c, .int .i64 x.k, .int .i64 x.n, .string x.t] 86)) from ((Below.refl _ _).alloc (Nat.le_refl _) _).alloc (by simp) _)).size)
  have Z1 : Box w1 w.heap.size 24 #[.slice (some ⟨b, off, none⟩) n c] := ((Box.new w #[.slice (some ⟨b, off, none⟩) n c] 24).alloc (.cells #[.int .i64 x.o, .int .i64 x.a, .int .i64 x.b, .int .i64 x.c, .int .i64 x.k, .int .i64 x.n, .string x.t] 86)).belowS hb
  have z1 : w1.cell? ⟨w.heap.size, 0, none⟩ = some (.slice (some ⟨b, off, none⟩) n c) := Z1.cell 0
  have Y1 : Box w1 (w.heap.size + 1) 86 #[.int .i64 x.o, .int .i64 x.a, .int .i64 x.b, .int .i64 x.c, .int .i64 x.k, .int .i64 x.n, .string x.t] := (Box.new2 w (.cells #[.slice (some ⟨b, off, none⟩) n c] 24) #[.int .i64 x.o, .int .i64 x.a, .int .i64 x.b, .int .i64 x.c, .int .i64 x.k, .int .i64 x.n, .string x.t] 86).belowS hb
  obtain ⟨y0, y1, y2, y3, y4, y5, y6⟩ := box7 Y1
  clear hb
  rw [ok]
  go_wp2_with fail
  refine (IJ.out _ HB1.out).mono ?_
  rintro e w2 ⟨rfl, hb⟩
  have HB2 : Hid (Below w.heap.size w w2) := HB1.out.trans (hb.mono HB1.out.size)
  have Y2 : Box w2 (w.heap.size + 1) 86 #[.int .i64 x.o, .int .i64 x.a, .int .i64 x.b, .int .i64 x.c, .int .i64 x.k, .int .i64 x.n, .string x.t] := Y1.belowS hb
  clear y0 y1 y2 y3 y4 y5 y6 z1 Z1
  obtain ⟨y0, y1, y2, y3, y4, y5, y6⟩ := box7 Y2
  clear hb
  go_wp2_with fail
  go_big_quiet (fail)
  go_wp2
  all_goals go_ret3
  all_goals exact ⟨by rw [E.out]; exact ret_w rfl (by dsimp only; omega) rfl, below_drewN HB2.out _⟩
set_option maxRecDepth 100000 in
set_option maxHeartbeats 4000000 in
theorem c_lW_4v (L : List EN) (a : Option Addr) (n c k : Nat) (x : EN) (w : World) (hr : RdE w a n L) (hk : k < n) (hn : n ≤ 1048576) (hx : x = L.getD k zeroE) (hs : x.t.size ≤ maxLen) (r : Nat × Nat × Bool) (rl : r.1 ≤ 1048576) (rd : r.2.1 ≤ 1048576) (IH : Hid (∀ W, Below w.heap.size w W → Calls Tryz.prog 105 #[.agg #[.slice a n c], .int .i64 ((k : Int) - 1)] W fun e w' => e = .returned (.tuple #[.int .i64 ((r).1 : Int), .int .i64 ((r).2.1 : Int), .bool (r).2.2]) ∧ Below W.heap.size W w')) (s : Nat × Nat × Bool) (sl : s.1 ≤ 1048576) (sd : s.2.1 ≤ 1048576) (IJ : Hid (∀ W, Below w.heap.size w W → Calls Tryz.prog 105 #[.agg #[.slice a n c], .int .i64 ((r.1 : Int) - 1)] W fun e w' => e = .returned (.tuple #[.int .i64 ((s).1 : Int), .int .i64 ((s).2.1 : Int), .bool (s).2.2]) ∧ Below W.heap.size W w')) (o1 : (x.o == 1) = false) (o2 : (x.o == 2) = false) (u : inB x.o 3 5 = false) (bi : inB x.o 6 13 = true) (ok : r.2.2 = true) (fi : s.2.2 = true) (aw : (x.a == (r.1 : Int) - 1) = true) (bm : (x.b == (k : Int) - 1) = true) (c0 : (x.c == 0) = true) (k0 : (x.k == 0) = true) (n0 : (x.n == 0) = true) (t0 : (x.t.toList == []) = true) (q : Nat × Nat × Bool) (E : Hid (q = (s.1, max s.2.1 r.2.1 + 1, true))) :
    Calls Tryz.prog 105 #[.agg #[.slice a n c], .int .i64 (k : Int)] w fun e w' => e = .returned (.tuple #[.int .i64 ((q).1 : Int), .int .i64 ((q).2.1 : Int), .bool (q).2.2]) ∧ Below w.heap.size w w' := by
  obtain ⟨b, off, rfl, hbl, hc⟩ := hr.2 (by omega)
  obtain ⟨d0, d1, d2, d3, d4, d5, d6⟩ := RdE.at hc hk hx
  have g1 : (0 : Int) ≤ (k : Int) := by omega
  have g2 : (k : Int) < (n : Int) := by omega
  have g3 : ¬ (k : Int) < 0 := by omega
  clear hc hx
  go_enter Tryz.func105, Tryz.ntmps105
  go_wp2_with (go_at_call 86; refine (c_in _ _ _ _).mono ?_; rintro e w' ⟨rfl, rfl⟩)
  refine (IH.out _ ((show Below w.heap.size w ((w.alloc (.cells #[.slice (some ⟨b, off, none⟩) n c] 24)).alloc (.cells #[.int .i64 x.o, .int .i64 x.a, .int .i64 x.b, .int .i64 x.c, .int .i64 x.k, .int .i64 x.n, .string x.t] 86)) from ((Below.refl _ _).alloc (Nat.le_refl _) _).alloc (by simp) _))).mono ?_
  rintro e w1 ⟨rfl, hb⟩
  have HB1 : Hid (Below w.heap.size w w1) := ((show Below w.heap.size w ((w.alloc (.cells #[.slice (some ⟨b, off, none⟩) n c] 24)).alloc (.cells #[.int .i64 x.o, .int .i64 x.a, .int .i64 x.b, .int .i64 x.c, .int .i64 x.k, .int .i64 x.n, .string x.t] 86)) from ((Below.refl _ _).alloc (Nat.le_refl _) _).alloc (by simp) _)).trans (hb.mono ((show Below w.heap.size w ((w.alloc (.cells #[.slice (some ⟨b, off, none⟩) n c] 24)).alloc (.cells #[.int .i64 x.o, .int .i64 x.a, .int .i64 x.b, .int .i64 x.c, .int .i64 x.k, .int .i64 x.n, .string x.t] 86)) from ((Below.refl _ _).alloc (Nat.le_refl _) _).alloc (by simp) _)).size)
  have Z1 : Box w1 w.heap.size 24 #[.slice (some ⟨b, off, none⟩) n c] := ((Box.new w #[.slice (some ⟨b, off, none⟩) n c] 24).alloc (.cells #[.int .i64 x.o, .int .i64 x.a, .int .i64 x.b, .int .i64 x.c, .int .i64 x.k, .int .i64 x.n, .string x.t] 86)).belowS hb
  have z1 : w1.cell? ⟨w.heap.size, 0, none⟩ = some (.slice (some ⟨b, off, none⟩) n c) := Z1.cell 0
  have Y1 : Box w1 (w.heap.size + 1) 86 #[.int .i64 x.o, .int .i64 x.a, .int .i64 x.b, .int .i64 x.c, .int .i64 x.k, .int .i64 x.n, .string x.t] := (Box.new2 w (.cells #[.slice (some ⟨b, off, none⟩) n c] 24) #[.int .i64 x.o, .int .i64 x.a, .int .i64 x.b, .int .i64 x.c, .int .i64 x.k, .int .i64 x.n, .string x.t] 86).belowS hb
  obtain ⟨y0, y1, y2, y3, y4, y5, y6⟩ := box7 Y1
  clear hb
  rw [ok]
  go_wp2_with fail
  refine (IJ.out _ HB1.out).mono ?_
  rintro e w2 ⟨rfl, hb⟩
  have HB2 : Hid (Below w.heap.size w w2) := HB1.out.trans (hb.mono HB1.out.size)
  have Y2 : Box w2 (w.heap.size + 1) 86 #[.int .i64 x.o, .int .i64 x.a, .int .i64 x.b, .int .i64 x.c, .int .i64 x.k, .int .i64 x.n, .string x.t] := Y1.belowS hb
  clear y0 y1 y2 y3 y4 y5 y6 z1 Z1
  obtain ⟨y0, y1, y2, y3, y4, y5, y6⟩ := box7 Y2
  clear hb
  go_wp2_with fail
  go_big_quiet (fail)
  go_wp2
  all_goals go_ret3
  all_goals exact ⟨by rw [E.out]; exact ret_w rfl (by dsimp only; omega) rfl, below_drewN HB2.out _⟩

end Go.Proofs.YtbpfpjmjmkpjoaaGreatDoor
