/-
  The program's parts.
-/
import Derived.Test.YtbpfpjmjmkpjoaaGreatDoorXc
namespace Go.Proofs.YtbpfpjmjmkpjoaaGreatDoor
open Go Go.RowKit
set_option linter.unusedVariables false

set_option maxRecDepth 100000 in
set_option maxHeartbeats 4000000 in
theorem c_isUn (op : Int) (w : World) : Calls Tryz.prog 151 #[.int .i64 op] w fun e w' => e = .returned (.bool (inB op 3 5)) ∧ w' = w := by
  by_cases h1 : 3 ≤ op <;> by_cases h2 : op ≤ 5
  all_goals
    go_enter Tryz.func151, Tryz.ntmps151
    go_wp2
    go_ret
    exact ⟨ret_bool (by simp [inB, h1, h2]), rfl⟩
set_option maxRecDepth 100000 in
set_option maxHeartbeats 4000000 in
theorem c_isBi (op : Int) (w : World) : Calls Tryz.prog 152 #[.int .i64 op] w fun e w' => e = .returned (.bool (inB op 6 13)) ∧ w' = w := by
  by_cases h1 : 6 ≤ op <;> by_cases h2 : op ≤ 13
  all_goals
    go_enter Tryz.func152, Tryz.ntmps152
    go_wp2
    go_ret
    exact ⟨ret_bool (by simp [inB, h1, h2]), rfl⟩
set_option maxRecDepth 100000 in
set_option maxHeartbeats 4000000 in
theorem c_isCol (c : Int) (w : World) : Calls Tryz.prog 66 #[.int .i64 c] w fun e w' => e = .returned (.bool (inB c 0 2)) ∧ w' = w := by
  by_cases h1 : 0 ≤ c <;> by_cases h2 : c < 3
  all_goals
    go_enter Tryz.func66, Tryz.ntmps66
    go_wp2
    go_ret
    exact ⟨ret_bool (by simp [inB]; omega), rfl⟩
theorem ret_pa {a b : Value} {c d : Int} (h : a = b) (h' : c = d) : Ending.returned (.tuple #[a, .int .i64 c]) = .returned (.tuple #[b, .int .i64 d]) := by rw [h, h']
theorem enc_if (p : PT) : ∃ T v, p.enc = .iface T v := by cases p <;> exact ⟨_, _, rfl⟩
set_option maxRecDepth 100000 in
set_option maxHeartbeats 4000000 in
theorem c_pA_1a (L : List EN) (a : Option Addr) (n c k : Nat) (x : EN) (w : World) (hr : RdE w a n L) (hk : k < n) (hn : n ≤ 1048576) (hx : x = L.getD k zeroE) (hs : x.t.size ≤ maxLen) (o1 : (x.o == 1) = true) (a0 : (x.a == 0) = false) (o2 : (x.o == 2) = false) (u : inB x.o 3 5 = false) (bi : inB x.o 6 13 = false) (q : Option (PT × Nat)) (E : Hid (q = none)) :
    Calls Tryz.prog 102 #[.slice a n c, .int .i64 (k : Int)] w fun e w' => e = .returned (.tuple #[encO (q), .int .i64 (ahO (k + 1) (q))]) ∧ Below w.heap.size w w' := by
  obtain ⟨b, off, rfl, hbl, hc⟩ := hr.2 (by omega)
  obtain ⟨d0, d1, d2, d3, d4, d5, d6⟩ := RdE.at hc hk hx
  have g1 : (0 : Int) ≤ (k : Int) := by omega
  have g2 : (k : Int) < (n : Int) := by omega
  have g3 : ¬ (k : Int) < 0 := by omega
  have rk : ∀ z : Int, (z == z) = true := fun z => by simp
  clear hc hx
  go_enter Tryz.func102, Tryz.ntmps102
  go_wp2_with (first | (go_at_call 66; refine (c_isCol _ _).mono ?_; rintro e w' ⟨rfl, rfl⟩) | (go_at_call 151; refine (c_isUn _ _).mono ?_; rintro e w' ⟨rfl, rfl⟩) | (go_at_call 152; refine (c_isBi _ _).mono ?_; rintro e w' ⟨rfl, rfl⟩))
  go_ret2
  exact ⟨ret_pa (by rw [E.out]; rfl) (by rw [E.out]; first | rfl | (simp only [ahO]; omega)), (Below.refl _ _).alloc (Nat.le_refl _) _⟩
set_option maxRecDepth 100000 in
set_option maxHeartbeats 4000000 in
theorem c_pA_1b (L : List EN) (a : Option Addr) (n c k : Nat) (x : EN) (w : World) (hr : RdE w a n L) (hk : k < n) (hn : n ≤ 1048576) (hx : x = L.getD k zeroE) (hs : x.t.size ≤ maxLen) (o1 : (x.o == 1) = true) (a0 : (x.a == 0) = true) (b0 : (x.b == 0) = false) (o2 : (x.o == 2) = false) (u : inB x.o 3 5 = false) (bi : inB x.o 6 13 = false) (q : Option (PT × Nat)) (E : Hid (q = none)) :
    Calls Tryz.prog 102 #[.slice a n c, .int .i64 (k : Int)] w fun e w' => e = .returned (.tuple #[encO (q), .int .i64 (ahO (k + 1) (q))]) ∧ Below w.heap.size w w' := by
  obtain ⟨b, off, rfl, hbl, hc⟩ := hr.2 (by omega)
  obtain ⟨d0, d1, d2, d3, d4, d5, d6⟩ := RdE.at hc hk hx
  have g1 : (0 : Int) ≤ (k : Int) := by omega
  have g2 : (k : Int) < (n : Int) := by omega
  have g3 : ¬ (k : Int) < 0 := by omega
  have rk : ∀ z : Int, (z == z) = true := fun z => by simp
  clear hc hx
  go_enter Tryz.func102, Tryz.ntmps102
  go_wp2_with (first | (go_at_call 66; refine (c_isCol _ _).mono ?_; rintro e w' ⟨rfl, rfl⟩) | (go_at_call 151; refine (c_isUn _ _).mono ?_; rintro e w' ⟨rfl, rfl⟩) | (go_at_call 152; refine (c_isBi _ _).mono ?_; rintro e w' ⟨rfl, rfl⟩))
  go_ret2
  exact ⟨ret_pa (by rw [E.out]; rfl) (by rw [E.out]; first | rfl | (simp only [ahO]; omega)), (Below.refl _ _).alloc (Nat.le_refl _) _⟩
set_option maxRecDepth 100000 in
set_option maxHeartbeats 4000000 in
theorem c_pA_1c (L : List EN) (a : Option Addr) (n c k : Nat) (x : EN) (w : World) (hr : RdE w a n L) (hk : k < n) (hn : n ≤ 1048576) (hx : x = L.getD k zeroE) (hs : x.t.size ≤ maxLen) (o1 : (x.o == 1) = true) (a0 : (x.a == 0) = true) (b0 : (x.b == 0) = true) (c0 : (x.c == 0) = false) (o2 : (x.o == 2) = false) (u : inB x.o 3 5 = false) (bi : inB x.o 6 13 = false) (q : Option (PT × Nat)) (E : Hid (q = none)) :
    Calls Tryz.prog 102 #[.slice a n c, .int .i64 (k : Int)] w fun e w' => e = .returned (.tuple #[encO (q), .int .i64 (ahO (k + 1) (q))]) ∧ Below w.heap.size w w' := by
  obtain ⟨b, off, rfl, hbl, hc⟩ := hr.2 (by omega)
  obtain ⟨d0, d1, d2, d3, d4, d5, d6⟩ := RdE.at hc hk hx
  have g1 : (0 : Int) ≤ (k : Int) := by omega
  have g2 : (k : Int) < (n : Int) := by omega
  have g3 : ¬ (k : Int) < 0 := by omega
  have rk : ∀ z : Int, (z == z) = true := fun z => by simp
  clear hc hx
  go_enter Tryz.func102, Tryz.ntmps102
  go_wp2_with (first | (go_at_call 66; refine (c_isCol _ _).mono ?_; rintro e w' ⟨rfl, rfl⟩) | (go_at_call 151; refine (c_isUn _ _).mono ?_; rintro e w' ⟨rfl, rfl⟩) | (go_at_call 152; refine (c_isBi _ _).mono ?_; rintro e w' ⟨rfl, rfl⟩))
  go_ret2
  exact ⟨ret_pa (by rw [E.out]; rfl) (by rw [E.out]; first | rfl | (simp only [ahO]; omega)), (Below.refl _ _).alloc (Nat.le_refl _) _⟩
set_option maxRecDepth 100000 in
set_option maxHeartbeats 4000000 in
theorem c_pA_1w (L : List EN) (a : Option Addr) (n c k : Nat) (x : EN) (w : World) (hr : RdE w a n L) (hk : k < n) (hn : n ≤ 1048576) (hx : x = L.getD k zeroE) (hs : x.t.size ≤ maxLen) (o1 : (x.o == 1) = true) (a0 : (x.a == 0) = true) (b0 : (x.b == 0) = true) (c0 : (x.c == 0) = true) (vb : valB x.k x.n x.t = false) (o2 : (x.o == 2) = false) (u : inB x.o 3 5 = false) (bi : inB x.o 6 13 = false) (q : Option (PT × Nat)) (E : Hid (q = none)) :
    Calls Tryz.prog 102 #[.slice a n c, .int .i64 (k : Int)] w fun e w' => e = .returned (.tuple #[encO (q), .int .i64 (ahO (k + 1) (q))]) ∧ Below w.heap.size w w' := by
  obtain ⟨b, off, rfl, hbl, hc⟩ := hr.2 (by omega)
  obtain ⟨d0, d1, d2, d3, d4, d5, d6⟩ := RdE.at hc hk hx
  have g1 : (0 : Int) ≤ (k : Int) := by omega
  have g2 : (k : Int) < (n : Int) := by omega
  have g3 : ¬ (k : Int) < 0 := by omega
  have rk : ∀ z : Int, (z == z) = true := fun z => by simp
  clear hc hx
  go_enter Tryz.func102, Tryz.ntmps102
  go_wp2_with fail
  refine (c_implOK _ _ _ _ hs).mono ?_
  rintro e w1 ⟨rfl, hb⟩
  rw [vb]
  have HB : Hid (Below w.heap.size w w1) := ((Below.refl _ _).alloc (Nat.le_refl _) _).trans (hb.mono (by simp))
  have Y1 : Box w1 w.heap.size 86 #[.int .i64 x.o, .int .i64 x.a, .int .i64 x.b, .int .i64 x.c, .int .i64 x.k, .int .i64 x.n, .string x.t] := (Box.new w #[.int .i64 x.o, .int .i64 x.a, .int .i64 x.b, .int .i64 x.c, .int .i64 x.k, .int .i64 x.n, .string x.t] 86).belowS hb
  obtain ⟨y0, y1, y2, y3, y4, y5, y6⟩ := box7 Y1
  clear hb Y1
  go_wp2_with (first | (go_at_call 66; refine (c_isCol _ _).mono ?_; rintro e w' ⟨rfl, rfl⟩) | (go_at_call 151; refine (c_isUn _ _).mono ?_; rintro e w' ⟨rfl, rfl⟩) | (go_at_call 152; refine (c_isBi _ _).mono ?_; rintro e w' ⟨rfl, rfl⟩))
  go_ret2
  exact ⟨ret_pa (by rw [E.out]; rfl) (by rw [E.out]; first | rfl | (simp only [ahO]; omega)), HB.out⟩
set_option maxRecDepth 100000 in
set_option maxHeartbeats 4000000 in
theorem c_pA_1v (L : List EN) (a : Option Addr) (n c k : Nat) (x : EN) (w : World) (hr : RdE w a n L) (hk : k < n) (hn : n ≤ 1048576) (hx : x = L.getD k zeroE) (hs : x.t.size ≤ maxLen) (o1 : (x.o == 1) = true) (a0 : (x.a == 0) = true) (b0 : (x.b == 0) = true) (c0 : (x.c == 0) = true) (vb : valB x.k x.n x.t = true) (q : Option (PT × Nat)) (E : Hid (q = some (.con x.k x.n x.t, k))) :
    Calls Tryz.prog 102 #[.slice a n c, .int .i64 (k : Int)] w fun e w' => e = .returned (.tuple #[encO (q), .int .i64 (ahO (k + 1) (q))]) ∧ Below w.heap.size w w' := by
  obtain ⟨b, off, rfl, hbl, hc⟩ := hr.2 (by omega)
  obtain ⟨d0, d1, d2, d3, d4, d5, d6⟩ := RdE.at hc hk hx
  have g1 : (0 : Int) ≤ (k : Int) := by omega
  have g2 : (k : Int) < (n : Int) := by omega
  have g3 : ¬ (k : Int) < 0 := by omega
  have rk : ∀ z : Int, (z == z) = true := fun z => by simp
  clear hc hx
  go_enter Tryz.func102, Tryz.ntmps102
  go_wp2_with fail
  refine (c_implOK _ _ _ _ hs).mono ?_
  rintro e w1 ⟨rfl, hb⟩
  rw [vb]
  have HB : Hid (Below w.heap.size w w1) := ((Below.refl _ _).alloc (Nat.le_refl _) _).trans (hb.mono (by simp))
  have Y1 : Box w1 w.heap.size 86 #[.int .i64 x.o, .int .i64 x.a, .int .i64 x.b, .int .i64 x.c, .int .i64 x.k, .int .i64 x.n, .string x.t] := (Box.new w #[.int .i64 x.o, .int .i64 x.a, .int .i64 x.b, .int .i64 x.c, .int .i64 x.k, .int .i64 x.n, .string x.t] 86).belowS hb
  obtain ⟨y0, y1, y2, y3, y4, y5, y6⟩ := box7 Y1
  clear hb Y1
  go_wp2_with (first | (go_at_call 66; refine (c_isCol _ _).mono ?_; rintro e w' ⟨rfl, rfl⟩) | (go_at_call 151; refine (c_isUn _ _).mono ?_; rintro e w' ⟨rfl, rfl⟩) | (go_at_call 152; refine (c_isBi _ _).mono ?_; rintro e w' ⟨rfl, rfl⟩))
  go_ret2
  exact ⟨ret_pa (by rw [E.out]; rfl) (by rw [E.out]; first | rfl | (simp only [ahO]; omega)), HB.out⟩
set_option maxRecDepth 100000 in
set_option maxHeartbeats 4000000 in
theorem c_pA_2a (L : List EN) (a : Option Addr) (n c k : Nat) (x : EN) (w : World) (hr : RdE w a n L) (hk : k < n) (hn : n ≤ 1048576) (hx : x = L.getD k zeroE) (hs : x.t.size ≤ maxLen) (o1 : (x.o == 1) = false) (o2 : (x.o == 2) = true) (a0 : (x.a == 0) = false) (u : inB x.o 3 5 = false) (bi : inB x.o 6 13 = false) (q : Option (PT × Nat)) (E : Hid (q = none)) :
    Calls Tryz.prog 102 #[.slice a n c, .int .i64 (k : Int)] w fun e w' => e = .returned (.tuple #[encO (q), .int .i64 (ahO (k + 1) (q))]) ∧ Below w.heap.size w w' := by
  obtain ⟨b, off, rfl, hbl, hc⟩ := hr.2 (by omega)
  obtain ⟨d0, d1, d2, d3, d4, d5, d6⟩ := RdE.at hc hk hx
  have g1 : (0 : Int) ≤ (k : Int) := by omega
  have g2 : (k : Int) < (n : Int) := by omega
  have g3 : ¬ (k : Int) < 0 := by omega
  have rk : ∀ z : Int, (z == z) = true := fun z => by simp
  clear hc hx
  go_enter Tryz.func102, Tryz.ntmps102
  go_wp2_with (first | (go_at_call 66; refine (c_isCol _ _).mono ?_; rintro e w' ⟨rfl, rfl⟩) | (go_at_call 151; refine (c_isUn _ _).mono ?_; rintro e w' ⟨rfl, rfl⟩) | (go_at_call 152; refine (c_isBi _ _).mono ?_; rintro e w' ⟨rfl, rfl⟩))
  go_ret2
  exact ⟨ret_pa (by rw [E.out]; rfl) (by rw [E.out]; first | rfl | (simp only [ahO]; omega)), (Below.refl _ _).alloc (Nat.le_refl _) _⟩
set_option maxRecDepth 100000 in
set_option maxHeartbeats 4000000 in
theorem c_pA_2b (L : List EN) (a : Option Addr) (n c k : Nat) (x : EN) (w : World) (hr : RdE w a n L) (hk : k < n) (hn : n ≤ 1048576) (hx : x = L.getD k zeroE) (hs : x.t.size ≤ maxLen) (o1 : (x.o == 1) = false) (o2 : (x.o == 2) = true) (a0 : (x.a == 0) = true) (b0 : (x.b == 0) = false) (u : inB x.o 3 5 = false) (bi : inB x.o 6 13 = false) (q : Option (PT × Nat)) (E : Hid (q = none)) :
    Calls Tryz.prog 102 #[.slice a n c, .int .i64 (k : Int)] w fun e w' => e = .returned (.tuple #[encO (q), .int .i64 (ahO (k + 1) (q))]) ∧ Below w.heap.size w w' := by
  obtain ⟨b, off, rfl, hbl, hc⟩ := hr.2 (by omega)
  obtain ⟨d0, d1, d2, d3, d4, d5, d6⟩ := RdE.at hc hk hx
  have g1 : (0 : Int) ≤ (k : Int) := by omega
  have g2 : (k : Int) < (n : Int) := by omega
  have g3 : ¬ (k : Int) < 0 := by omega
  have rk : ∀ z : Int, (z == z) = true := fun z => by simp
  clear hc hx
  go_enter Tryz.func102, Tryz.ntmps102
  go_wp2_with (first | (go_at_call 66; refine (c_isCol _ _).mono ?_; rintro e w' ⟨rfl, rfl⟩) | (go_at_call 151; refine (c_isUn _ _).mono ?_; rintro e w' ⟨rfl, rfl⟩) | (go_at_call 152; refine (c_isBi _ _).mono ?_; rintro e w' ⟨rfl, rfl⟩))
  go_ret2
  exact ⟨ret_pa (by rw [E.out]; rfl) (by rw [E.out]; first | rfl | (simp only [ahO]; omega)), (Below.refl _ _).alloc (Nat.le_refl _) _⟩
set_option maxRecDepth 100000 in
set_option maxHeartbeats 4000000 in
theorem c_pA_2k (L : List EN) (a : Option Addr) (n c k : Nat) (x : EN) (w : World) (hr : RdE w a n L) (hk : k < n) (hn : n ≤ 1048576) (hx : x = L.getD k zeroE) (hs : x.t.size ≤ maxLen) (o1 : (x.o == 1) = false) (o2 : (x.o == 2) = true) (a0 : (x.a == 0) = true) (b0 : (x.b == 0) = true) (k0 : (x.k == 0) = false) (u : inB x.o 3 5 = false) (bi : inB x.o 6 13 = false) (q : Option (PT × Nat)) (E : Hid (q = none)) :
    Calls Tryz.prog 102 #[.slice a n c, .int .i64 (k : Int)] w fun e w' => e = .returned (.tuple #[encO (q), .int .i64 (ahO (k + 1) (q))]) ∧ Below w.heap.size w w' := by
  obtain ⟨b, off, rfl, hbl, hc⟩ := hr.2 (by omega)
  obtain ⟨d0, d1, d2, d3, d4, d5, d6⟩ := RdE.at hc hk hx
  have g1 : (0 : Int) ≤ (k : Int) := by omega
  have g2 : (k : Int) < (n : Int) := by omega
  have g3 : ¬ (k : Int) < 0 := by omega
  have rk : ∀ z : Int, (z == z) = true := fun z => by simp
  clear hc hx
  go_enter Tryz.func102, Tryz.ntmps102
  go_wp2_with (first | (go_at_call 66; refine (c_isCol _ _).mono ?_; rintro e w' ⟨rfl, rfl⟩) | (go_at_call 151; refine (c_isUn _ _).mono ?_; rintro e w' ⟨rfl, rfl⟩) | (go_at_call 152; refine (c_isBi _ _).mono ?_; rintro e w' ⟨rfl, rfl⟩))
  go_ret2
  exact ⟨ret_pa (by rw [E.out]; rfl) (by rw [E.out]; first | rfl | (simp only [ahO]; omega)), (Below.refl _ _).alloc (Nat.le_refl _) _⟩
set_option maxRecDepth 100000 in
set_option maxHeartbeats 4000000 in
theorem c_pA_2n (L : List EN) (a : Option Addr) (n c k : Nat) (x : EN) (w : World) (hr : RdE w a n L) (hk : k < n) (hn : n ≤ 1048576) (hx : x = L.getD k zeroE) (hs : x.t.size ≤ maxLen) (o1 : (x.o == 1) = false) (o2 : (x.o == 2) = true) (a0 : (x.a == 0) = true) (b0 : (x.b == 0) = true) (k0 : (x.k == 0) = true) (n0 : (x.n == 0) = false) (u : inB x.o 3 5 = false) (bi : inB x.o 6 13 = false) (q : Option (PT × Nat)) (E : Hid (q = none)) :
    Calls Tryz.prog 102 #[.slice a n c, .int .i64 (k : Int)] w fun e w' => e = .returned (.tuple #[encO (q), .int .i64 (ahO (k + 1) (q))]) ∧ Below w.heap.size w w' := by
  obtain ⟨b, off, rfl, hbl, hc⟩ := hr.2 (by omega)
  obtain ⟨d0, d1, d2, d3, d4, d5, d6⟩ := RdE.at hc hk hx
  have g1 : (0 : Int) ≤ (k : Int) := by omega
  have g2 : (k : Int) < (n : Int) := by omega
  have g3 : ¬ (k : Int) < 0 := by omega
  have rk : ∀ z : Int, (z == z) = true := fun z => by simp
  clear hc hx
  go_enter Tryz.func102, Tryz.ntmps102
  go_wp2_with (first | (go_at_call 66; refine (c_isCol _ _).mono ?_; rintro e w' ⟨rfl, rfl⟩) | (go_at_call 151; refine (c_isUn _ _).mono ?_; rintro e w' ⟨rfl, rfl⟩) | (go_at_call 152; refine (c_isBi _ _).mono ?_; rintro e w' ⟨rfl, rfl⟩))
  go_ret2
  exact ⟨ret_pa (by rw [E.out]; rfl) (by rw [E.out]; first | rfl | (simp only [ahO]; omega)), (Below.refl _ _).alloc (Nat.le_refl _) _⟩
set_option maxRecDepth 100000 in
set_option maxHeartbeats 4000000 in
theorem c_pA_2t (L : List EN) (a : Option Addr) (n c k : Nat) (x : EN) (w : World) (hr : RdE w a n L) (hk : k < n) (hn : n ≤ 1048576) (hx : x = L.getD k zeroE) (hs : x.t.size ≤ maxLen) (o1 : (x.o == 1) = false) (o2 : (x.o == 2) = true) (a0 : (x.a == 0) = true) (b0 : (x.b == 0) = true) (k0 : (x.k == 0) = true) (n0 : (x.n == 0) = true) (t0 : (x.t.toList == []) = false) (u : inB x.o 3 5 = false) (bi : inB x.o 6 13 = false) (q : Option (PT × Nat)) (E : Hid (q = none)) :
    Calls Tryz.prog 102 #[.slice a n c, .int .i64 (k : Int)] w fun e w' => e = .returned (.tuple #[encO (q), .int .i64 (ahO (k + 1) (q))]) ∧ Below w.heap.size w w' := by
  obtain ⟨b, off, rfl, hbl, hc⟩ := hr.2 (by omega)
  obtain ⟨d0, d1, d2, d3, d4, d5, d6⟩ := RdE.at hc hk hx
  have g1 : (0 : Int) ≤ (k : Int) := by omega
  have g2 : (k : Int) < (n : Int) := by omega
  have g3 : ¬ (k : Int) < 0 := by omega
  have rk : ∀ z : Int, (z == z) = true := fun z => by simp
  clear hc hx
  go_enter Tryz.func102, Tryz.ntmps102
  go_wp2_with (first | (go_at_call 66; refine (c_isCol _ _).mono ?_; rintro e w' ⟨rfl, rfl⟩) | (go_at_call 151; refine (c_isUn _ _).mono ?_; rintro e w' ⟨rfl, rfl⟩) | (go_at_call 152; refine (c_isBi _ _).mono ?_; rintro e w' ⟨rfl, rfl⟩))
  go_ret2
  exact ⟨ret_pa (by rw [E.out]; rfl) (by rw [E.out]; first | rfl | (simp only [ahO]; omega)), (Below.refl _ _).alloc (Nat.le_refl _) _⟩
set_option maxRecDepth 100000 in
set_option maxHeartbeats 4000000 in
theorem c_pA_2w (L : List EN) (a : Option Addr) (n c k : Nat) (x : EN) (w : World) (hr : RdE w a n L) (hk : k < n) (hn : n ≤ 1048576) (hx : x = L.getD k zeroE) (hs : x.t.size ≤ maxLen) (o1 : (x.o == 1) = false) (o2 : (x.o == 2) = true) (a0 : (x.a == 0) = true) (b0 : (x.b == 0) = true) (k0 : (x.k == 0) = true) (n0 : (x.n == 0) = true) (t0 : (x.t.toList == []) = true) (cl : inB x.c 0 2 = false) (u : inB x.o 3 5 = false) (bi : inB x.o 6 13 = false) (q : Option (PT × Nat)) (E : Hid (q = none)) :
    Calls Tryz.prog 102 #[.slice a n c, .int .i64 (k : Int)] w fun e w' => e = .returned (.tuple #[encO (q), .int .i64 (ahO (k + 1) (q))]) ∧ Below w.heap.size w w' := by
  obtain ⟨b, off, rfl, hbl, hc⟩ := hr.2 (by omega)
  obtain ⟨d0, d1, d2, d3, d4, d5, d6⟩ := RdE.at hc hk hx
  have g1 : (0 : Int) ≤ (k : Int) := by omega
  have g2 : (k : Int) < (n : Int) := by omega
  have g3 : ¬ (k : Int) < 0 := by omega
  have rk : ∀ z : Int, (z == z) = true := fun z => by simp
  clear hc hx
  go_enter Tryz.func102, Tryz.ntmps102
  go_wp2_with (first | (go_at_call 66; refine (c_isCol _ _).mono ?_; rintro e w' ⟨rfl, rfl⟩) | (go_at_call 151; refine (c_isUn _ _).mono ?_; rintro e w' ⟨rfl, rfl⟩) | (go_at_call 152; refine (c_isBi _ _).mono ?_; rintro e w' ⟨rfl, rfl⟩))
  go_ret2
  exact ⟨ret_pa (by rw [E.out]; rfl) (by rw [E.out]; first | rfl | (simp only [ahO]; omega)), (Below.refl _ _).alloc (Nat.le_refl _) _⟩
set_option maxRecDepth 100000 in
set_option maxHeartbeats 4000000 in
theorem c_pA_2v (L : List EN) (a : Option Addr) (n c k : Nat) (x : EN) (w : World) (hr : RdE w a n L) (hk : k < n) (hn : n ≤ 1048576) (hx : x = L.getD k zeroE) (hs : x.t.size ≤ maxLen) (o1 : (x.o == 1) = false) (o2 : (x.o == 2) = true) (a0 : (x.a == 0) = true) (b0 : (x.b == 0) = true) (k0 : (x.k == 0) = true) (n0 : (x.n == 0) = true) (t0 : (x.t.toList == []) = true) (cl : inB x.c 0 2 = true) (q : Option (PT × Nat)) (E : Hid (q = some (.col x.c, k))) :
    Calls Tryz.prog 102 #[.slice a n c, .int .i64 (k : Int)] w fun e w' => e = .returned (.tuple #[encO (q), .int .i64 (ahO (k + 1) (q))]) ∧ Below w.heap.size w w' := by
  obtain ⟨b, off, rfl, hbl, hc⟩ := hr.2 (by omega)
  obtain ⟨d0, d1, d2, d3, d4, d5, d6⟩ := RdE.at hc hk hx
  have g1 : (0 : Int) ≤ (k : Int) := by omega
  have g2 : (k : Int) < (n : Int) := by omega
  have g3 : ¬ (k : Int) < 0 := by omega
  have rk : ∀ z : Int, (z == z) = true := fun z => by simp
  clear hc hx
  go_enter Tryz.func102, Tryz.ntmps102
  go_wp2_with (first | (go_at_call 66; refine (c_isCol _ _).mono ?_; rintro e w' ⟨rfl, rfl⟩) | (go_at_call 151; refine (c_isUn _ _).mono ?_; rintro e w' ⟨rfl, rfl⟩) | (go_at_call 152; refine (c_isBi _ _).mono ?_; rintro e w' ⟨rfl, rfl⟩))
  go_ret2
  exact ⟨ret_pa (by rw [E.out]; rfl) (by rw [E.out]; first | rfl | (simp only [ahO]; omega)), (Below.refl _ _).alloc (Nat.le_refl _) _⟩
set_option maxRecDepth 100000 in
set_option maxHeartbeats 4000000 in
theorem c_pA_3a (L : List EN) (a : Option Addr) (n c k : Nat) (x : EN) (w : World) (hr : RdE w a n L) (hk : k < n) (hn : n ≤ 1048576) (hx : x = L.getD k zeroE) (hs : x.t.size ≤ maxLen) (o1 : (x.o == 1) = false) (o2 : (x.o == 2) = false) (u : inB x.o 3 5 = true) (am : (x.a == (k : Int) - 1) = false) (bi : inB x.o 6 13 = false) (q : Option (PT × Nat)) (E : Hid (q = none)) :
    Calls Tryz.prog 102 #[.slice a n c, .int .i64 (k : Int)] w fun e w' => e = .returned (.tuple #[encO (q), .int .i64 (ahO (k + 1) (q))]) ∧ Below w.heap.size w w' := by
  obtain ⟨b, off, rfl, hbl, hc⟩ := hr.2 (by omega)
  obtain ⟨d0, d1, d2, d3, d4, d5, d6⟩ := RdE.at hc hk hx
  have g1 : (0 : Int) ≤ (k : Int) := by omega
  have g2 : (k : Int) < (n : Int) := by omega
  have g3 : ¬ (k : Int) < 0 := by omega
  have rk : ∀ z : Int, (z == z) = true := fun z => by simp
  clear hc hx
  go_enter Tryz.func102, Tryz.ntmps102
  go_wp2_with (first | (go_at_call 66; refine (c_isCol _ _).mono ?_; rintro e w' ⟨rfl, rfl⟩) | (go_at_call 151; refine (c_isUn _ _).mono ?_; rintro e w' ⟨rfl, rfl⟩) | (go_at_call 152; refine (c_isBi _ _).mono ?_; rintro e w' ⟨rfl, rfl⟩))
  go_ret2
  exact ⟨ret_pa (by rw [E.out]; rfl) (by rw [E.out]; first | rfl | (simp only [ahO]; omega)), (Below.refl _ _).alloc (Nat.le_refl _) _⟩
set_option maxRecDepth 100000 in
set_option maxHeartbeats 4000000 in
theorem c_pA_3b (L : List EN) (a : Option Addr) (n c k : Nat) (x : EN) (w : World) (hr : RdE w a n L) (hk : k < n) (hn : n ≤ 1048576) (hx : x = L.getD k zeroE) (hs : x.t.size ≤ maxLen) (o1 : (x.o == 1) = false) (o2 : (x.o == 2) = false) (u : inB x.o 3 5 = true) (am : (x.a == (k : Int) - 1) = true) (b0 : (x.b == 0) = false) (bi : inB x.o 6 13 = false) (q : Option (PT × Nat)) (E : Hid (q = none)) :
    Calls Tryz.prog 102 #[.slice a n c, .int .i64 (k : Int)] w fun e w' => e = .returned (.tuple #[encO (q), .int .i64 (ahO (k + 1) (q))]) ∧ Below w.heap.size w w' := by
  obtain ⟨b, off, rfl, hbl, hc⟩ := hr.2 (by omega)
  obtain ⟨d0, d1, d2, d3, d4, d5, d6⟩ := RdE.at hc hk hx
  have g1 : (0 : Int) ≤ (k : Int) := by omega
  have g2 : (k : Int) < (n : Int) := by omega
  have g3 : ¬ (k : Int) < 0 := by omega
  have rk : ∀ z : Int, (z == z) = true := fun z => by simp
  clear hc hx
  go_enter Tryz.func102, Tryz.ntmps102
  go_wp2_with (first | (go_at_call 66; refine (c_isCol _ _).mono ?_; rintro e w' ⟨rfl, rfl⟩) | (go_at_call 151; refine (c_isUn _ _).mono ?_; rintro e w' ⟨rfl, rfl⟩) | (go_at_call 152; refine (c_isBi _ _).mono ?_; rintro e w' ⟨rfl, rfl⟩))
  go_ret2
  exact ⟨ret_pa (by rw [E.out]; rfl) (by rw [E.out]; first | rfl | (simp only [ahO]; omega)), (Below.refl _ _).alloc (Nat.le_refl _) _⟩
set_option maxRecDepth 100000 in
set_option maxHeartbeats 4000000 in
theorem c_pA_3c (L : List EN) (a : Option Addr) (n c k : Nat) (x : EN) (w : World) (hr : RdE w a n L) (hk : k < n) (hn : n ≤ 1048576) (hx : x = L.getD k zeroE) (hs : x.t.size ≤ maxLen) (o1 : (x.o == 1) = false) (o2 : (x.o == 2) = false) (u : inB x.o 3 5 = true) (am : (x.a == (k : Int) - 1) = true) (b0 : (x.b == 0) = true) (c0 : (x.c == 0) = false) (bi : inB x.o 6 13 = false) (q : Option (PT × Nat)) (E : Hid (q = none)) :
    Calls Tryz.prog 102 #[.slice a n c, .int .i64 (k : Int)] w fun e w' => e = .returned (.tuple #[encO (q), .int .i64 (ahO (k + 1) (q))]) ∧ Below w.heap.size w w' := by
  obtain ⟨b, off, rfl, hbl, hc⟩ := hr.2 (by omega)
  obtain ⟨d0, d1, d2, d3, d4, d5, d6⟩ := RdE.at hc hk hx
  have g1 : (0 : Int) ≤ (k : Int) := by omega
  have g2 : (k : Int) < (n : Int) := by omega
  have g3 : ¬ (k : Int) < 0 := by omega
  have rk : ∀ z : Int, (z == z) = true := fun z => by simp
  clear hc hx
  go_enter Tryz.func102, Tryz.ntmps102
  go_wp2_with (first | (go_at_call 66; refine (c_isCol _ _).mono ?_; rintro e w' ⟨rfl, rfl⟩) | (go_at_call 151; refine (c_isUn _ _).mono ?_; rintro e w' ⟨rfl, rfl⟩) | (go_at_call 152; refine (c_isBi _ _).mono ?_; rintro e w' ⟨rfl, rfl⟩))
  go_ret2
  exact ⟨ret_pa (by rw [E.out]; rfl) (by rw [E.out]; first | rfl | (simp only [ahO]; omega)), (Below.refl _ _).alloc (Nat.le_refl _) _⟩
set_option maxRecDepth 100000 in
set_option maxHeartbeats 4000000 in
theorem c_pA_3k (L : List EN) (a : Option Addr) (n c k : Nat) (x : EN) (w : World) (hr : RdE w a n L) (hk : k < n) (hn : n ≤ 1048576) (hx : x = L.getD k zeroE) (hs : x.t.size ≤ maxLen) (o1 : (x.o == 1) = false) (o2 : (x.o == 2) = false) (u : inB x.o 3 5 = true) (am : (x.a == (k : Int) - 1) = true) (b0 : (x.b == 0) = true) (c0 : (x.c == 0) = true) (k0 : (x.k == 0) = false) (bi : inB x.o 6 13 = false) (q : Option (PT × Nat)) (E : Hid (q = none)) :
    Calls Tryz.prog 102 #[.slice a n c, .int .i64 (k : Int)] w fun e w' => e = .returned (.tuple #[encO (q), .int .i64 (ahO (k + 1) (q))]) ∧ Below w.heap.size w w' := by
  obtain ⟨b, off, rfl, hbl, hc⟩ := hr.2 (by omega)
  obtain ⟨d0, d1, d2, d3, d4, d5, d6⟩ := RdE.at hc hk hx
  have g1 : (0 : Int) ≤ (k : Int) := by omega
  have g2 : (k : Int) < (n : Int) := by omega
  have g3 : ¬ (k : Int) < 0 := by omega
  have rk : ∀ z : Int, (z == z) = true := fun z => by simp
  clear hc hx
  go_enter Tryz.func102, Tryz.ntmps102
  go_wp2_with (first | (go_at_call 66; refine (c_isCol _ _).mono ?_; rintro e w' ⟨rfl, rfl⟩) | (go_at_call 151; refine (c_isUn _ _).mono ?_; rintro e w' ⟨rfl, rfl⟩) | (go_at_call 152; refine (c_isBi _ _).mono ?_; rintro e w' ⟨rfl, rfl⟩))
  go_ret2
  exact ⟨ret_pa (by rw [E.out]; rfl) (by rw [E.out]; first | rfl | (simp only [ahO]; omega)), (Below.refl _ _).alloc (Nat.le_refl _) _⟩
set_option maxRecDepth 100000 in
set_option maxHeartbeats 4000000 in
theorem c_pA_3n (L : List EN) (a : Option Addr) (n c k : Nat) (x : EN) (w : World) (hr : RdE w a n L) (hk : k < n) (hn : n ≤ 1048576) (hx : x = L.getD k zeroE) (hs : x.t.size ≤ maxLen) (o1 : (x.o == 1) = false) (o2 : (x.o == 2) = false) (u : inB x.o 3 5 = true) (am : (x.a == (k : Int) - 1) = true) (b0 : (x.b == 0) = true) (c0 : (x.c == 0) = true) (k0 : (x.k == 0) = true) (n0 : (x.n == 0) = false) (bi : inB x.o 6 13 = false) (q : Option (PT × Nat)) (E : Hid (q = none)) :
    Calls Tryz.prog 102 #[.slice a n c, .int .i64 (k : Int)] w fun e w' => e = .returned (.tuple #[encO (q), .int .i64 (ahO (k + 1) (q))]) ∧ Below w.heap.size w w' := by
  obtain ⟨b, off, rfl, hbl, hc⟩ := hr.2 (by omega)
  obtain ⟨d0, d1, d2, d3, d4, d5, d6⟩ := RdE.at hc hk hx
  have g1 : (0 : Int) ≤ (k : Int) := by omega
  have g2 : (k : Int) < (n : Int) := by omega
  have g3 : ¬ (k : Int) < 0 := by omega
  have rk : ∀ z : Int, (z == z) = true := fun z => by simp
  clear hc hx
  go_enter Tryz.func102, Tryz.ntmps102
  go_wp2_with (first | (go_at_call 66; refine (c_isCol _ _).mono ?_; rintro e w' ⟨rfl, rfl⟩) | (go_at_call 151; refine (c_isUn _ _).mono ?_; rintro e w' ⟨rfl, rfl⟩) | (go_at_call 152; refine (c_isBi _ _).mono ?_; rintro e w' ⟨rfl, rfl⟩))
  go_ret2
  exact ⟨ret_pa (by rw [E.out]; rfl) (by rw [E.out]; first | rfl | (simp only [ahO]; omega)), (Below.refl _ _).alloc (Nat.le_refl _) _⟩
set_option maxRecDepth 100000 in
set_option maxHeartbeats 4000000 in
theorem c_pA_3t (L : List EN) (a : Option Addr) (n c k : Nat) (x : EN) (w : World) (hr : RdE w a n L) (hk : k < n) (hn : n ≤ 1048576) (hx : x = L.getD k zeroE) (hs : x.t.size ≤ maxLen) (o1 : (x.o == 1) = false) (o2 : (x.o == 2) = false) (u : inB x.o 3 5 = true) (am : (x.a == (k : Int) - 1) = true) (b0 : (x.b == 0) = true) (c0 : (x.c == 0) = true) (k0 : (x.k == 0) = true) (n0 : (x.n == 0) = true) (t0 : (x.t.toList == []) = false) (bi : inB x.o 6 13 = false) (q : Option (PT × Nat)) (E : Hid (q = none)) :
    Calls Tryz.prog 102 #[.slice a n c, .int .i64 (k : Int)] w fun e w' => e = .returned (.tuple #[encO (q), .int .i64 (ahO (k + 1) (q))]) ∧ Below w.heap.size w w' := by
  obtain ⟨b, off, rfl, hbl, hc⟩ := hr.2 (by omega)
  obtain ⟨d0, d1, d2, d3, d4, d5, d6⟩ := RdE.at hc hk hx
  have g1 : (0 : Int) ≤ (k : Int) := by omega
  have g2 : (k : Int) < (n : Int) := by omega
  have g3 : ¬ (k : Int) < 0 := by omega
  have rk : ∀ z : Int, (z == z) = true := fun z => by simp
  clear hc hx
  go_enter Tryz.func102, Tryz.ntmps102
  go_wp2_with (first | (go_at_call 66; refine (c_isCol _ _).mono ?_; rintro e w' ⟨rfl, rfl⟩) | (go_at_call 151; refine (c_isUn _ _).mono ?_; rintro e w' ⟨rfl, rfl⟩) | (go_at_call 152; refine (c_isBi _ _).mono ?_; rintro e w' ⟨rfl, rfl⟩))
  go_ret2
  exact ⟨ret_pa (by rw [E.out]; rfl) (by rw [E.out]; first | rfl | (simp only [ahO]; omega)), (Below.refl _ _).alloc (Nat.le_refl _) _⟩
set_option maxRecDepth 100000 in
set_option maxHeartbeats 4000000 in
theorem c_pA_3N (L : List EN) (a : Option Addr) (n c k : Nat) (x : EN) (w : World) (hr : RdE w a n L) (hk : k < n) (hn : n ≤ 1048576) (hx : x = L.getD k zeroE) (hs : x.t.size ≤ maxLen) (o1 : (x.o == 1) = false) (o2 : (x.o == 2) = false) (u : inB x.o 3 5 = true) (am : (x.a == (k : Int) - 1) = true) (b0 : (x.b == 0) = true) (c0 : (x.c == 0) = true) (k0 : (x.k == 0) = true) (n0 : (x.n == 0) = true) (t0 : (x.t.toList == []) = true) (IH : Hid (∀ W, Below w.heap.size w W → Calls Tryz.prog 102 #[.slice a n c, .int .i64 ((k : Int) - 1)] W fun e w' => e = .returned (.tuple #[encO none, .int .i64 (ahO k none)]) ∧ Below W.heap.size W w')) (q : Option (PT × Nat)) (E : Hid (q = none)) :
    Calls Tryz.prog 102 #[.slice a n c, .int .i64 (k : Int)] w fun e w' => e = .returned (.tuple #[encO (q), .int .i64 (ahO (k + 1) (q))]) ∧ Below w.heap.size w w' := by
  obtain ⟨b, off, rfl, hbl, hc⟩ := hr.2 (by omega)
  obtain ⟨d0, d1, d2, d3, d4, d5, d6⟩ := RdE.at hc hk hx
  have g1 : (0 : Int) ≤ (k : Int) := by omega
  have g2 : (k : Int) < (n : Int) := by omega
  have g3 : ¬ (k : Int) < 0 := by omega
  have rk : ∀ z : Int, (z == z) = true := fun z => by simp
  clear hc hx
  go_enter Tryz.func102, Tryz.ntmps102
  go_wp2_with (first | (go_at_call 66; refine (c_isCol _ _).mono ?_; rintro e w' ⟨rfl, rfl⟩) | (go_at_call 151; refine (c_isUn _ _).mono ?_; rintro e w' ⟨rfl, rfl⟩) | (go_at_call 152; refine (c_isBi _ _).mono ?_; rintro e w' ⟨rfl, rfl⟩))
  refine (IH.out _ ((Below.refl _ _).alloc (Nat.le_refl _) _)).mono ?_
  rintro e w1 ⟨rfl, hb⟩
  have HB1 : Hid (Below w.heap.size w w1) := ((Below.refl _ _).alloc (Nat.le_refl _) _).trans (hb.mono ((Below.refl _ _).alloc (Nat.le_refl _) _).size)
  have Y1 : Box w1 w.heap.size 86 #[.int .i64 x.o, .int .i64 x.a, .int .i64 x.b, .int .i64 x.c, .int .i64 x.k, .int .i64 x.n, .string x.t] := (Box.new w #[.int .i64 x.o, .int .i64 x.a, .int .i64 x.b, .int .i64 x.c, .int .i64 x.k, .int .i64 x.n, .string x.t] 86).belowS hb
  obtain ⟨y0, y1, y2, y3, y4, y5, y6⟩ := box7 Y1
  clear hb
  simp only [encO, ahO]
  go_wp2_with (first | (go_at_call 66; refine (c_isCol _ _).mono ?_; rintro e w' ⟨rfl, rfl⟩) | (go_at_call 151; refine (c_isUn _ _).mono ?_; rintro e w' ⟨rfl, rfl⟩) | (go_at_call 152; refine (c_isBi _ _).mono ?_; rintro e w' ⟨rfl, rfl⟩))
  go_ret2
  exact ⟨ret_pa (by rw [E.out]; rfl) (by rw [E.out]; first | rfl | (simp only [ahO]; omega)), HB1.out⟩
set_option maxRecDepth 100000 in
set_option maxHeartbeats 4000000 in
theorem c_pA_3S (L : List EN) (a : Option Addr) (n c k : Nat) (x : EN) (w : World) (hr : RdE w a n L) (hk : k < n) (hn : n ≤ 1048576) (hx : x = L.getD k zeroE) (hs : x.t.size ≤ maxLen) (o1 : (x.o == 1) = false) (o2 : (x.o == 2) = false) (u : inB x.o 3 5 = true) (am : (x.a == (k : Int) - 1) = true) (b0 : (x.b == 0) = true) (c0 : (x.c == 0) = true) (k0 : (x.k == 0) = true) (n0 : (x.n == 0) = true) (t0 : (x.t.toList == []) = true) (p : PT) (f : Nat) (IH : Hid (∀ W, Below w.heap.size w W → Calls Tryz.prog 102 #[.slice a n c, .int .i64 ((k : Int) - 1)] W fun e w' => e = .returned (.tuple #[encO (some (p, f)), .int .i64 (ahO k (some (p, f)))]) ∧ Below W.heap.size W w')) (q : Option (PT × Nat)) (E : Hid (q = some (.una x.o p, f))) :
    Calls Tryz.prog 102 #[.slice a n c, .int .i64 (k : Int)] w fun e w' => e = .returned (.tuple #[encO (q), .int .i64 (ahO (k + 1) (q))]) ∧ Below w.heap.size w w' := by
  obtain ⟨b, off, rfl, hbl, hc⟩ := hr.2 (by omega)
  obtain ⟨d0, d1, d2, d3, d4, d5, d6⟩ := RdE.at hc hk hx
  have g1 : (0 : Int) ≤ (k : Int) := by omega
  have g2 : (k : Int) < (n : Int) := by omega
  have g3 : ¬ (k : Int) < 0 := by omega
  have rk : ∀ z : Int, (z == z) = true := fun z => by simp
  clear hc hx
  go_enter Tryz.func102, Tryz.ntmps102
  go_wp2_with (first | (go_at_call 66; refine (c_isCol _ _).mono ?_; rintro e w' ⟨rfl, rfl⟩) | (go_at_call 151; refine (c_isUn _ _).mono ?_; rintro e w' ⟨rfl, rfl⟩) | (go_at_call 152; refine (c_isBi _ _).mono ?_; rintro e w' ⟨rfl, rfl⟩))
  refine (IH.out _ ((Below.refl _ _).alloc (Nat.le_refl _) _)).mono ?_
  rintro e w1 ⟨rfl, hb⟩
  have HB1 : Hid (Below w.heap.size w w1) := ((Below.refl _ _).alloc (Nat.le_refl _) _).trans (hb.mono ((Below.refl _ _).alloc (Nat.le_refl _) _).size)
  have Y1 : Box w1 w.heap.size 86 #[.int .i64 x.o, .int .i64 x.a, .int .i64 x.b, .int .i64 x.c, .int .i64 x.k, .int .i64 x.n, .string x.t] := (Box.new w #[.int .i64 x.o, .int .i64 x.a, .int .i64 x.b, .int .i64 x.c, .int .i64 x.k, .int .i64 x.n, .string x.t] 86).belowS hb
  obtain ⟨y0, y1, y2, y3, y4, y5, y6⟩ := box7 Y1
  clear hb
  obtain ⟨T, v, hv⟩ := enc_if p
  have HV : Hid (p.enc = .iface T v) := hv
  simp only [encO, ahO]
  rw [hv]
  clear hv
  go_wp2_with (first | (go_at_call 66; refine (c_isCol _ _).mono ?_; rintro e w' ⟨rfl, rfl⟩) | (go_at_call 151; refine (c_isUn _ _).mono ?_; rintro e w' ⟨rfl, rfl⟩) | (go_at_call 152; refine (c_isBi _ _).mono ?_; rintro e w' ⟨rfl, rfl⟩))
  go_ret2
  exact ⟨ret_pa (by rw [E.out]; simp only [encO]; unfold PT.enc; rw [HV.out]; rfl) (by rw [E.out]; first | rfl | (simp only [ahO]; omega)), HB1.out⟩
set_option maxRecDepth 100000 in
set_option maxHeartbeats 4000000 in
theorem c_pA_5 (L : List EN) (a : Option Addr) (n c k : Nat) (x : EN) (w : World) (hr : RdE w a n L) (hk : k < n) (hn : n ≤ 1048576) (hx : x = L.getD k zeroE) (hs : x.t.size ≤ maxLen) (o1 : (x.o == 1) = false) (o2 : (x.o == 2) = false) (u : inB x.o 3 5 = false) (bi : inB x.o 6 13 = false) (q : Option (PT × Nat)) (E : Hid (q = none)) :
    Calls Tryz.prog 102 #[.slice a n c, .int .i64 (k : Int)] w fun e w' => e = .returned (.tuple #[encO (q), .int .i64 (ahO (k + 1) (q))]) ∧ Below w.heap.size w w' := by
  obtain ⟨b, off, rfl, hbl, hc⟩ := hr.2 (by omega)
  obtain ⟨d0, d1, d2, d3, d4, d5, d6⟩ := RdE.at hc hk hx
  have g1 : (0 : Int) ≤ (k : Int) := by omega
  have g2 : (k : Int) < (n : Int) := by omega
  have g3 : ¬ (k : Int) < 0 := by omega
  have rk : ∀ z : Int, (z == z) = true := fun z => by simp
  clear hc hx
  go_enter Tryz.func102, Tryz.ntmps102
  go_wp2_with (first | (go_at_call 66; refine (c_isCol _ _).mono ?_; rintro e w' ⟨rfl, rfl⟩) | (go_at_call 151; refine (c_isUn _ _).mono ?_; rintro e w' ⟨rfl, rfl⟩) | (go_at_call 152; refine (c_isBi _ _).mono ?_; rintro e w' ⟨rfl, rfl⟩))
  go_ret2
  exact ⟨ret_pa (by rw [E.out]; rfl) (by rw [E.out]; first | rfl | (simp only [ahO]; omega)), (Below.refl _ _).alloc (Nat.le_refl _) _⟩

end Go.Proofs.YtbpfpjmjmkpjoaaGreatDoor
