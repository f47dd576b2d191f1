/-
  The program's joinAt, and partAt whole.
-/
import Derived.Test.YtbpfpjmjmkpjoaaGreatDoorXd
namespace Go.Proofs.YtbpfpjmjmkpjoaaGreatDoor
open Go Go.RowKit
set_option linter.unusedVariables false

set_option maxRecDepth 100000 in
set_option maxHeartbeats 4000000 in
theorem c_jA_N (L : List EN) (a : Option Addr) (n c k : Nat) (x : EN) (w : World) (hr : RdE w a n L) (hk : k < n) (hn : n ≤ 1048576) (hx : x = L.getD k zeroE) (hs : x.t.size ≤ maxLen) (IH : Hid (∀ W, Below w.heap.size w W → Calls Tryz.prog 102 #[.slice a n c, .int .i64 ((k : Int) - 1)] W fun e w' => e = .returned (.tuple #[encO none, .int .i64 (ahO k none)]) ∧ Below W.heap.size W w'))  (q : Option (PT × Nat)) (E : Hid (q = none)) :
    Calls Tryz.prog 153 #[.slice a n c, .int .i64 (k : Int)] w fun e w' => e = .returned (.tuple #[encO (q), .int .i64 (ahO (k + 1) (q))]) ∧ Below w.heap.size w w' := by
  obtain ⟨b, off, rfl, hbl, hc⟩ := hr.2 (by omega)
  obtain ⟨d0, d1, d2, d3, d4, d5, d6⟩ := RdE.at hc hk hx
  have g1 : (0 : Int) ≤ (k : Int) := by omega
  have g2 : (k : Int) < (n : Int) := by omega
  have g3 : ¬ (k : Int) < 0 := by omega
  have rk : ∀ z : Int, (z == z) = true := fun z => by simp
  clear hc hx
  go_enter Tryz.func153, Tryz.ntmps153
  go_wp2_with (first | (go_at_call 66; refine (c_isCol _ _).mono ?_; rintro e w' ⟨rfl, rfl⟩) | (go_at_call 151; refine (c_isUn _ _).mono ?_; rintro e w' ⟨rfl, rfl⟩) | (go_at_call 152; refine (c_isBi _ _).mono ?_; rintro e w' ⟨rfl, rfl⟩))
  refine (IH.out _ ((Below.refl _ _).alloc (Nat.le_refl _) _)).mono ?_
  rintro e w1 ⟨rfl, hb⟩
  have HB1 : Hid (Below w.heap.size w w1) := ((Below.refl _ _).alloc (Nat.le_refl _) _).trans (hb.mono ((Below.refl _ _).alloc (Nat.le_refl _) _).size)
  have Y1 : Box w1 w.heap.size 86 #[.int .i64 x.o, .int .i64 x.a, .int .i64 x.b, .int .i64 x.c, .int .i64 x.k, .int .i64 x.n, .string x.t] := (Box.new w #[.int .i64 x.o, .int .i64 x.a, .int .i64 x.b, .int .i64 x.c, .int .i64 x.k, .int .i64 x.n, .string x.t] 86).belowS hb
  obtain ⟨y0, y1, y2, y3, y4, y5, y6⟩ := box7 Y1
  clear hb
  simp only [encO, ahO]
  go_wp2
  go_ret2
  exact ⟨ret_pa (by rw [E.out]; rfl) (by rw [E.out]; first | rfl | (simp only [ahO]; omega)), HB1.out⟩
set_option maxRecDepth 100000 in
set_option maxHeartbeats 4000000 in
theorem c_jA_Sa (L : List EN) (a : Option Addr) (n c k : Nat) (x : EN) (w : World) (hr : RdE w a n L) (hk : k < n) (hn : n ≤ 1048576) (hx : x = L.getD k zeroE) (hs : x.t.size ≤ maxLen) (p : PT) (f : Nat) (IH : Hid (∀ W, Below w.heap.size w W → Calls Tryz.prog 102 #[.slice a n c, .int .i64 ((k : Int) - 1)] W fun e w' => e = .returned (.tuple #[encO (some (p, f)), .int .i64 (ahO k (some (p, f)))]) ∧ Below W.heap.size W w')) (af : (x.a == (f : Int) - 1) = false) (q : Option (PT × Nat)) (E : Hid (q = none)) :
    Calls Tryz.prog 153 #[.slice a n c, .int .i64 (k : Int)] w fun e w' => e = .returned (.tuple #[encO (q), .int .i64 (ahO (k + 1) (q))]) ∧ Below w.heap.size w w' := by
  obtain ⟨b, off, rfl, hbl, hc⟩ := hr.2 (by omega)
  obtain ⟨d0, d1, d2, d3, d4, d5, d6⟩ := RdE.at hc hk hx
  have g1 : (0 : Int) ≤ (k : Int) := by omega
  have g2 : (k : Int) < (n : Int) := by omega
  have g3 : ¬ (k : Int) < 0 := by omega
  have rk : ∀ z : Int, (z == z) = true := fun z => by simp
  clear hc hx
  go_enter Tryz.func153, Tryz.ntmps153
  go_wp2_with (first | (go_at_call 66; refine (c_isCol _ _).mono ?_; rintro e w' ⟨rfl, rfl⟩) | (go_at_call 151; refine (c_isUn _ _).mono ?_; rintro e w' ⟨rfl, rfl⟩) | (go_at_call 152; refine (c_isBi _ _).mono ?_; rintro e w' ⟨rfl, rfl⟩))
  refine (IH.out _ ((Below.refl _ _).alloc (Nat.le_refl _) _)).mono ?_
  rintro e w1 ⟨rfl, hb⟩
  have HB1 : Hid (Below w.heap.size w w1) := ((Below.refl _ _).alloc (Nat.le_refl _) _).trans (hb.mono ((Below.refl _ _).alloc (Nat.le_refl _) _).size)
  have Y1 : Box w1 w.heap.size 86 #[.int .i64 x.o, .int .i64 x.a, .int .i64 x.b, .int .i64 x.c, .int .i64 x.k, .int .i64 x.n, .string x.t] := (Box.new w #[.int .i64 x.o, .int .i64 x.a, .int .i64 x.b, .int .i64 x.c, .int .i64 x.k, .int .i64 x.n, .string x.t] 86).belowS hb
  obtain ⟨y0, y1, y2, y3, y4, y5, y6⟩ := box7 Y1
  clear hb
  obtain ⟨T, v, hv⟩ := enc_if p
  have HV : Hid (p.enc = .iface T v) := hv
  simp only [encO, ahO]
  rw [hv]
  clear hv
  go_wp2
  go_ret2
  exact ⟨ret_pa (by rw [E.out]; rfl) (by rw [E.out]; first | rfl | (simp only [ahO]; omega)), HB1.out⟩
set_option maxRecDepth 100000 in
set_option maxHeartbeats 4000000 in
theorem c_jA_Sb (L : List EN) (a : Option Addr) (n c k : Nat) (x : EN) (w : World) (hr : RdE w a n L) (hk : k < n) (hn : n ≤ 1048576) (hx : x = L.getD k zeroE) (hs : x.t.size ≤ maxLen) (p : PT) (f : Nat) (IH : Hid (∀ W, Below w.heap.size w W → Calls Tryz.prog 102 #[.slice a n c, .int .i64 ((k : Int) - 1)] W fun e w' => e = .returned (.tuple #[encO (some (p, f)), .int .i64 (ahO k (some (p, f)))]) ∧ Below W.heap.size W w')) (af : (x.a == (f : Int) - 1) = true) (bm : (x.b == (k : Int) - 1) = false) (q : Option (PT × Nat)) (E : Hid (q = none)) :
    Calls Tryz.prog 153 #[.slice a n c, .int .i64 (k : Int)] w fun e w' => e = .returned (.tuple #[encO (q), .int .i64 (ahO (k + 1) (q))]) ∧ Below w.heap.size w w' := by
  obtain ⟨b, off, rfl, hbl, hc⟩ := hr.2 (by omega)
  obtain ⟨d0, d1, d2, d3, d4, d5, d6⟩ := RdE.at hc hk hx
  have g1 : (0 : Int) ≤ (k : Int) := by omega
  have g2 : (k : Int) < (n : Int) := by omega
  have g3 : ¬ (k : Int) < 0 := by omega
  have rk : ∀ z : Int, (z == z) = true := fun z => by simp
  clear hc hx
  go_enter Tryz.func153, Tryz.ntmps153
  go_wp2_with (first | (go_at_call 66; refine (c_isCol _ _).mono ?_; rintro e w' ⟨rfl, rfl⟩) | (go_at_call 151; refine (c_isUn _ _).mono ?_; rintro e w' ⟨rfl, rfl⟩) | (go_at_call 152; refine (c_isBi _ _).mono ?_; rintro e w' ⟨rfl, rfl⟩))
  refine (IH.out _ ((Below.refl _ _).alloc (Nat.le_refl _) _)).mono ?_
  rintro e w1 ⟨rfl, hb⟩
  have HB1 : Hid (Below w.heap.size w w1) := ((Below.refl _ _).alloc (Nat.le_refl _) _).trans (hb.mono ((Below.refl _ _).alloc (Nat.le_refl _) _).size)
  have Y1 : Box w1 w.heap.size 86 #[.int .i64 x.o, .int .i64 x.a, .int .i64 x.b, .int .i64 x.c, .int .i64 x.k, .int .i64 x.n, .string x.t] := (Box.new w #[.int .i64 x.o, .int .i64 x.a, .int .i64 x.b, .int .i64 x.c, .int .i64 x.k, .int .i64 x.n, .string x.t] 86).belowS hb
  obtain ⟨y0, y1, y2, y3, y4, y5, y6⟩ := box7 Y1
  clear hb
  obtain ⟨T, v, hv⟩ := enc_if p
  have HV : Hid (p.enc = .iface T v) := hv
  simp only [encO, ahO]
  rw [hv]
  clear hv
  go_wp2
  go_ret2
  exact ⟨ret_pa (by rw [E.out]; rfl) (by rw [E.out]; first | rfl | (simp only [ahO]; omega)), HB1.out⟩
set_option maxRecDepth 100000 in
set_option maxHeartbeats 4000000 in
theorem c_jA_Sc (L : List EN) (a : Option Addr) (n c k : Nat) (x : EN) (w : World) (hr : RdE w a n L) (hk : k < n) (hn : n ≤ 1048576) (hx : x = L.getD k zeroE) (hs : x.t.size ≤ maxLen) (p : PT) (f : Nat) (IH : Hid (∀ W, Below w.heap.size w W → Calls Tryz.prog 102 #[.slice a n c, .int .i64 ((k : Int) - 1)] W fun e w' => e = .returned (.tuple #[encO (some (p, f)), .int .i64 (ahO k (some (p, f)))]) ∧ Below W.heap.size W w')) (af : (x.a == (f : Int) - 1) = true) (bm : (x.b == (k : Int) - 1) = true) (c0 : (x.c == 0) = false) (q : Option (PT × Nat)) (E : Hid (q = none)) :
    Calls Tryz.prog 153 #[.slice a n c, .int .i64 (k : Int)] w fun e w' => e = .returned (.tuple #[encO (q), .int .i64 (ahO (k + 1) (q))]) ∧ Below w.heap.size w w' := by
  obtain ⟨b, off, rfl, hbl, hc⟩ := hr.2 (by omega)
  obtain ⟨d0, d1, d2, d3, d4, d5, d6⟩ := RdE.at hc hk hx
  have g1 : (0 : Int) ≤ (k : Int) := by omega
  have g2 : (k : Int) < (n : Int) := by omega
  have g3 : ¬ (k : Int) < 0 := by omega
  have rk : ∀ z : Int, (z == z) = true := fun z => by simp
  clear hc hx
  go_enter Tryz.func153, Tryz.ntmps153
  go_wp2_with (first | (go_at_call 66; refine (c_isCol _ _).mono ?_; rintro e w' ⟨rfl, rfl⟩) | (go_at_call 151; refine (c_isUn _ _).mono ?_; rintro e w' ⟨rfl, rfl⟩) | (go_at_call 152; refine (c_isBi _ _).mono ?_; rintro e w' ⟨rfl, rfl⟩))
  refine (IH.out _ ((Below.refl _ _).alloc (Nat.le_refl _) _)).mono ?_
  rintro e w1 ⟨rfl, hb⟩
  have HB1 : Hid (Below w.heap.size w w1) := ((Below.refl _ _).alloc (Nat.le_refl _) _).trans (hb.mono ((Below.refl _ _).alloc (Nat.le_refl _) _).size)
  have Y1 : Box w1 w.heap.size 86 #[.int .i64 x.o, .int .i64 x.a, .int .i64 x.b, .int .i64 x.c, .int .i64 x.k, .int .i64 x.n, .string x.t] := (Box.new w #[.int .i64 x.o, .int .i64 x.a, .int .i64 x.b, .int .i64 x.c, .int .i64 x.k, .int .i64 x.n, .string x.t] 86).belowS hb
  obtain ⟨y0, y1, y2, y3, y4, y5, y6⟩ := box7 Y1
  clear hb
  obtain ⟨T, v, hv⟩ := enc_if p
  have HV : Hid (p.enc = .iface T v) := hv
  simp only [encO, ahO]
  rw [hv]
  clear hv
  go_wp2
  go_ret2
  exact ⟨ret_pa (by rw [E.out]; rfl) (by rw [E.out]; first | rfl | (simp only [ahO]; omega)), HB1.out⟩
set_option maxRecDepth 100000 in
set_option maxHeartbeats 4000000 in
theorem c_jA_Sk (L : List EN) (a : Option Addr) (n c k : Nat) (x : EN) (w : World) (hr : RdE w a n L) (hk : k < n) (hn : n ≤ 1048576) (hx : x = L.getD k zeroE) (hs : x.t.size ≤ maxLen) (p : PT) (f : Nat) (IH : Hid (∀ W, Below w.heap.size w W → Calls Tryz.prog 102 #[.slice a n c, .int .i64 ((k : Int) - 1)] W fun e w' => e = .returned (.tuple #[encO (some (p, f)), .int .i64 (ahO k (some (p, f)))]) ∧ Below W.heap.size W w')) (af : (x.a == (f : Int) - 1) = true) (bm : (x.b == (k : Int) - 1) = true) (c0 : (x.c == 0) = true) (k0 : (x.k == 0) = false) (q : Option (PT × Nat)) (E : Hid (q = none)) :
    Calls Tryz.prog 153 #[.slice a n c, .int .i64 (k : Int)] w fun e w' => e = .returned (.tuple #[encO (q), .int .i64 (ahO (k + 1) (q))]) ∧ Below w.heap.size w w' := by
  obtain ⟨b, off, rfl, hbl, hc⟩ := hr.2 (by omega)
  obtain ⟨d0, d1, d2, d3, d4, d5, d6⟩ := RdE.at hc hk hx
  have g1 : (0 : Int) ≤ (k : Int) := by omega
  have g2 : (k : Int) < (n : Int) := by omega
  have g3 : ¬ (k : Int) < 0 := by omega
  have rk : ∀ z : Int, (z == z) = true := fun z => by simp
  clear hc hx
  go_enter Tryz.func153, Tryz.ntmps153
  go_wp2_with (first | (go_at_call 66; refine (c_isCol _ _).mono ?_; rintro e w' ⟨rfl, rfl⟩) | (go_at_call 151; refine (c_isUn _ _).mono ?_; rintro e w' ⟨rfl, rfl⟩) | (go_at_call 152; refine (c_isBi _ _).mono ?_; rintro e w' ⟨rfl, rfl⟩))
  refine (IH.out _ ((Below.refl _ _).alloc (Nat.le_refl _) _)).mono ?_
  rintro e w1 ⟨rfl, hb⟩
  have HB1 : Hid (Below w.heap.size w w1) := ((Below.refl _ _).alloc (Nat.le_refl _) _).trans (hb.mono ((Below.refl _ _).alloc (Nat.le_refl _) _).size)
  have Y1 : Box w1 w.heap.size 86 #[.int .i64 x.o, .int .i64 x.a, .int .i64 x.b, .int .i64 x.c, .int .i64 x.k, .int .i64 x.n, .string x.t] := (Box.new w #[.int .i64 x.o, .int .i64 x.a, .int .i64 x.b, .int .i64 x.c, .int .i64 x.k, .int .i64 x.n, .string x.t] 86).belowS hb
  obtain ⟨y0, y1, y2, y3, y4, y5, y6⟩ := box7 Y1
  clear hb
  obtain ⟨T, v, hv⟩ := enc_if p
  have HV : Hid (p.enc = .iface T v) := hv
  simp only [encO, ahO]
  rw [hv]
  clear hv
  go_wp2
  go_ret2
  exact ⟨ret_pa (by rw [E.out]; rfl) (by rw [E.out]; first | rfl | (simp only [ahO]; omega)), HB1.out⟩
set_option maxRecDepth 100000 in
set_option maxHeartbeats 4000000 in
theorem c_jA_Sn (L : List EN) (a : Option Addr) (n c k : Nat) (x : EN) (w : World) (hr : RdE w a n L) (hk : k < n) (hn : n ≤ 1048576) (hx : x = L.getD k zeroE) (hs : x.t.size ≤ maxLen) (p : PT) (f : Nat) (IH : Hid (∀ W, Below w.heap.size w W → Calls Tryz.prog 102 #[.slice a n c, .int .i64 ((k : Int) - 1)] W fun e w' => e = .returned (.tuple #[encO (some (p, f)), .int .i64 (ahO k (some (p, f)))]) ∧ Below W.heap.size W w')) (af : (x.a == (f : Int) - 1) = true) (bm : (x.b == (k : Int) - 1) = true) (c0 : (x.c == 0) = true) (k0 : (x.k == 0) = true) (n0 : (x.n == 0) = false) (q : Option (PT × Nat)) (E : Hid (q = none)) :
    Calls Tryz.prog 153 #[.slice a n c, .int .i64 (k : Int)] w fun e w' => e = .returned (.tuple #[encO (q), .int .i64 (ahO (k + 1) (q))]) ∧ Below w.heap.size w w' := by
  obtain ⟨b, off, rfl, hbl, hc⟩ := hr.2 (by omega)
  obtain ⟨d0, d1, d2, d3, d4, d5, d6⟩ := RdE.at hc hk hx
  have g1 : (0 : Int) ≤ (k : Int) := by omega
  have g2 : (k : Int) < (n : Int) := by omega
  have g3 : ¬ (k : Int) < 0 := by omega
  have rk : ∀ z : Int, (z == z) = true := fun z => by simp
  clear hc hx
  go_enter Tryz.func153, Tryz.ntmps153
  go_wp2_with (first | (go_at_call 66; refine (c_isCol _ _).mono ?_; rintro e w' ⟨rfl, rfl⟩) | (go_at_call 151; refine (c_isUn _ _).mono ?_; rintro e w' ⟨rfl, rfl⟩) | (go_at_call 152; refine (c_isBi _ _).mono ?_; rintro e w' ⟨rfl, rfl⟩))
  refine (IH.out _ ((Below.refl _ _).alloc (Nat.le_refl _) _)).mono ?_
  rintro e w1 ⟨rfl, hb⟩
  have HB1 : Hid (Below w.heap.size w w1) := ((Below.refl _ _).alloc (Nat.le_refl _) _).trans (hb.mono ((Below.refl _ _).alloc (Nat.le_refl _) _).size)
  have Y1 : Box w1 w.heap.size 86 #[.int .i64 x.o, .int .i64 x.a, .int .i64 x.b, .int .i64 x.c, .int .i64 x.k, .int .i64 x.n, .string x.t] := (Box.new w #[.int .i64 x.o, .int .i64 x.a, .int .i64 x.b, .int .i64 x.c, .int .i64 x.k, .int .i64 x.n, .string x.t] 86).belowS hb
  obtain ⟨y0, y1, y2, y3, y4, y5, y6⟩ := box7 Y1
  clear hb
  obtain ⟨T, v, hv⟩ := enc_if p
  have HV : Hid (p.enc = .iface T v) := hv
  simp only [encO, ahO]
  rw [hv]
  clear hv
  go_wp2
  go_ret2
  exact ⟨ret_pa (by rw [E.out]; rfl) (by rw [E.out]; first | rfl | (simp only [ahO]; omega)), HB1.out⟩
set_option maxRecDepth 100000 in
set_option maxHeartbeats 4000000 in
theorem c_jA_St (L : List EN) (a : Option Addr) (n c k : Nat) (x : EN) (w : World) (hr : RdE w a n L) (hk : k < n) (hn : n ≤ 1048576) (hx : x = L.getD k zeroE) (hs : x.t.size ≤ maxLen) (p : PT) (f : Nat) (IH : Hid (∀ W, Below w.heap.size w W → Calls Tryz.prog 102 #[.slice a n c, .int .i64 ((k : Int) - 1)] W fun e w' => e = .returned (.tuple #[encO (some (p, f)), .int .i64 (ahO k (some (p, f)))]) ∧ Below W.heap.size W w')) (af : (x.a == (f : Int) - 1) = true) (bm : (x.b == (k : Int) - 1) = true) (c0 : (x.c == 0) = true) (k0 : (x.k == 0) = true) (n0 : (x.n == 0) = true) (t0 : (x.t.toList == []) = false) (q : Option (PT × Nat)) (E : Hid (q = none)) :
    Calls Tryz.prog 153 #[.slice a n c, .int .i64 (k : Int)] w fun e w' => e = .returned (.tuple #[encO (q), .int .i64 (ahO (k + 1) (q))]) ∧ Below w.heap.size w w' := by
  obtain ⟨b, off, rfl, hbl, hc⟩ := hr.2 (by omega)
  obtain ⟨d0, d1, d2, d3, d4, d5, d6⟩ := RdE.at hc hk hx
  have g1 : (0 : Int) ≤ (k : Int) := by omega
  have g2 : (k : Int) < (n : Int) := by omega
  have g3 : ¬ (k : Int) < 0 := by omega
  have rk : ∀ z : Int, (z == z) = true := fun z => by simp
  clear hc hx
  go_enter Tryz.func153, Tryz.ntmps153
  go_wp2_with (first | (go_at_call 66; refine (c_isCol _ _).mono ?_; rintro e w' ⟨rfl, rfl⟩) | (go_at_call 151; refine (c_isUn _ _).mono ?_; rintro e w' ⟨rfl, rfl⟩) | (go_at_call 152; refine (c_isBi _ _).mono ?_; rintro e w' ⟨rfl, rfl⟩))
  refine (IH.out _ ((Below.refl _ _).alloc (Nat.le_refl _) _)).mono ?_
  rintro e w1 ⟨rfl, hb⟩
  have HB1 : Hid (Below w.heap.size w w1) := ((Below.refl _ _).alloc (Nat.le_refl _) _).trans (hb.mono ((Below.refl _ _).alloc (Nat.le_refl _) _).size)
  have Y1 : Box w1 w.heap.size 86 #[.int .i64 x.o, .int .i64 x.a, .int .i64 x.b, .int .i64 x.c, .int .i64 x.k, .int .i64 x.n, .string x.t] := (Box.new w #[.int .i64 x.o, .int .i64 x.a, .int .i64 x.b, .int .i64 x.c, .int .i64 x.k, .int .i64 x.n, .string x.t] 86).belowS hb
  obtain ⟨y0, y1, y2, y3, y4, y5, y6⟩ := box7 Y1
  clear hb
  obtain ⟨T, v, hv⟩ := enc_if p
  have HV : Hid (p.enc = .iface T v) := hv
  simp only [encO, ahO]
  rw [hv]
  clear hv
  go_wp2
  go_ret2
  exact ⟨ret_pa (by rw [E.out]; rfl) (by rw [E.out]; first | rfl | (simp only [ahO]; omega)), HB1.out⟩
set_option maxRecDepth 100000 in
set_option maxHeartbeats 4000000 in
theorem c_jA_LN (L : List EN) (a : Option Addr) (n c k : Nat) (x : EN) (w : World) (hr : RdE w a n L) (hk : k < n) (hn : n ≤ 1048576) (hx : x = L.getD k zeroE) (hs : x.t.size ≤ maxLen) (p : PT) (f : Nat) (IH : Hid (∀ W, Below w.heap.size w W → Calls Tryz.prog 102 #[.slice a n c, .int .i64 ((k : Int) - 1)] W fun e w' => e = .returned (.tuple #[encO (some (p, f)), .int .i64 (ahO k (some (p, f)))]) ∧ Below W.heap.size W w')) (IJ : Hid (∀ W, Below w.heap.size w W → Calls Tryz.prog 102 #[.slice a n c, .int .i64 ((f : Int) - 1)] W fun e w' => e = .returned (.tuple #[encO none, .int .i64 (ahO f none)]) ∧ Below W.heap.size W w')) (af : (x.a == (f : Int) - 1) = true) (bm : (x.b == (k : Int) - 1) = true) (c0 : (x.c == 0) = true) (k0 : (x.k == 0) = true) (n0 : (x.n == 0) = true) (t0 : (x.t.toList == []) = true) (q : Option (PT × Nat)) (E : Hid (q = none)) :
    Calls Tryz.prog 153 #[.slice a n c, .int .i64 (k : Int)] w fun e w' => e = .returned (.tuple #[encO (q), .int .i64 (ahO (k + 1) (q))]) ∧ Below w.heap.size w w' := by
  obtain ⟨b, off, rfl, hbl, hc⟩ := hr.2 (by omega)
  obtain ⟨d0, d1, d2, d3, d4, d5, d6⟩ := RdE.at hc hk hx
  have g1 : (0 : Int) ≤ (k : Int) := by omega
  have g2 : (k : Int) < (n : Int) := by omega
  have g3 : ¬ (k : Int) < 0 := by omega
  have rk : ∀ z : Int, (z == z) = true := fun z => by simp
  clear hc hx
  go_enter Tryz.func153, Tryz.ntmps153
  go_wp2_with (first | (go_at_call 66; refine (c_isCol _ _).mono ?_; rintro e w' ⟨rfl, rfl⟩) | (go_at_call 151; refine (c_isUn _ _).mono ?_; rintro e w' ⟨rfl, rfl⟩) | (go_at_call 152; refine (c_isBi _ _).mono ?_; rintro e w' ⟨rfl, rfl⟩))
  refine (IH.out _ ((Below.refl _ _).alloc (Nat.le_refl _) _)).mono ?_
  rintro e w1 ⟨rfl, hb⟩
  have HB1 : Hid (Below w.heap.size w w1) := ((Below.refl _ _).alloc (Nat.le_refl _) _).trans (hb.mono ((Below.refl _ _).alloc (Nat.le_refl _) _).size)
  have Y1 : Box w1 w.heap.size 86 #[.int .i64 x.o, .int .i64 x.a, .int .i64 x.b, .int .i64 x.c, .int .i64 x.k, .int .i64 x.n, .string x.t] := (Box.new w #[.int .i64 x.o, .int .i64 x.a, .int .i64 x.b, .int .i64 x.c, .int .i64 x.k, .int .i64 x.n, .string x.t] 86).belowS hb
  obtain ⟨y0, y1, y2, y3, y4, y5, y6⟩ := box7 Y1
  clear hb
  obtain ⟨T, v, hv⟩ := enc_if p
  have HV : Hid (p.enc = .iface T v) := hv
  simp only [encO, ahO]
  rw [hv]
  clear hv
  go_wp2_with fail
  refine (IJ.out _ HB1.out).mono ?_
  rintro e w2 ⟨rfl, hb⟩
  have HB2 : Hid (Below w.heap.size w w2) := HB1.out.trans (hb.mono HB1.out.size)
  have Y2 : Box w2 w.heap.size 86 #[.int .i64 x.o, .int .i64 x.a, .int .i64 x.b, .int .i64 x.c, .int .i64 x.k, .int .i64 x.n, .string x.t] := Y1.belowS hb
  clear y0 y1 y2 y3 y4 y5 y6
  obtain ⟨y0, y1, y2, y3, y4, y5, y6⟩ := box7 Y2
  clear hb
  simp only [encO, ahO]
  go_wp2
  go_ret2
  exact ⟨ret_pa (by rw [E.out]; rfl) (by rw [E.out]; first | rfl | (simp only [ahO]; omega)), HB2.out⟩
set_option maxRecDepth 100000 in
set_option maxHeartbeats 4000000 in
theorem c_jA_LS (L : List EN) (a : Option Addr) (n c k : Nat) (x : EN) (w : World) (hr : RdE w a n L) (hk : k < n) (hn : n ≤ 1048576) (hx : x = L.getD k zeroE) (hs : x.t.size ≤ maxLen) (p : PT) (f : Nat) (IH : Hid (∀ W, Below w.heap.size w W → Calls Tryz.prog 102 #[.slice a n c, .int .i64 ((k : Int) - 1)] W fun e w' => e = .returned (.tuple #[encO (some (p, f)), .int .i64 (ahO k (some (p, f)))]) ∧ Below W.heap.size W w')) (l : PT) (g : Nat) (IJ : Hid (∀ W, Below w.heap.size w W → Calls Tryz.prog 102 #[.slice a n c, .int .i64 ((f : Int) - 1)] W fun e w' => e = .returned (.tuple #[encO (some (l, g)), .int .i64 (ahO f (some (l, g)))]) ∧ Below W.heap.size W w')) (af : (x.a == (f : Int) - 1) = true) (bm : (x.b == (k : Int) - 1) = true) (c0 : (x.c == 0) = true) (k0 : (x.k == 0) = true) (n0 : (x.n == 0) = true) (t0 : (x.t.toList == []) = true) (q : Option (PT × Nat)) (E : Hid (q = some (.bin x.o l p, g))) :
    Calls Tryz.prog 153 #[.slice a n c, .int .i64 (k : Int)] w fun e w' => e = .returned (.tuple #[encO (q), .int .i64 (ahO (k + 1) (q))]) ∧ Below w.heap.size w w' := by
  obtain ⟨b, off, rfl, hbl, hc⟩ := hr.2 (by omega)
  obtain ⟨d0, d1, d2, d3, d4, d5, d6⟩ := RdE.at hc hk hx
  have g1 : (0 : Int) ≤ (k : Int) := by omega
  have g2 : (k : Int) < (n : Int) := by omega
  have g3 : ¬ (k : Int) < 0 := by omega
  have rk : ∀ z : Int, (z == z) = true := fun z => by simp
  clear hc hx
  go_enter Tryz.func153, Tryz.ntmps153
  go_wp2_with (first | (go_at_call 66; refine (c_isCol _ _).mono ?_; rintro e w' ⟨rfl, rfl⟩) | (go_at_call 151; refine (c_isUn _ _).mono ?_; rintro e w' ⟨rfl, rfl⟩) | (go_at_call 152; refine (c_isBi _ _).mono ?_; rintro e w' ⟨rfl, rfl⟩))
  refine (IH.out _ ((Below.refl _ _).alloc (Nat.le_refl _) _)).mono ?_
  rintro e w1 ⟨rfl, hb⟩
  have HB1 : Hid (Below w.heap.size w w1) := ((Below.refl _ _).alloc (Nat.le_refl _) _).trans (hb.mono ((Below.refl _ _).alloc (Nat.le_refl _) _).size)
  have Y1 : Box w1 w.heap.size 86 #[.int .i64 x.o, .int .i64 x.a, .int .i64 x.b, .int .i64 x.c, .int .i64 x.k, .int .i64 x.n, .string x.t] := (Box.new w #[.int .i64 x.o, .int .i64 x.a, .int .i64 x.b, .int .i64 x.c, .int .i64 x.k, .int .i64 x.n, .string x.t] 86).belowS hb
  obtain ⟨y0, y1, y2, y3, y4, y5, y6⟩ := box7 Y1
  clear hb
  obtain ⟨T, v, hv⟩ := enc_if p
  have HV : Hid (p.enc = .iface T v) := hv
  simp only [encO, ahO]
  rw [hv]
  clear hv
  go_wp2_with fail
  refine (IJ.out _ HB1.out).mono ?_
  rintro e w2 ⟨rfl, hb⟩
  have HB2 : Hid (Below w.heap.size w w2) := HB1.out.trans (hb.mono HB1.out.size)
  have Y2 : Box w2 w.heap.size 86 #[.int .i64 x.o, .int .i64 x.a, .int .i64 x.b, .int .i64 x.c, .int .i64 x.k, .int .i64 x.n, .string x.t] := Y1.belowS hb
  clear y0 y1 y2 y3 y4 y5 y6
  obtain ⟨y0, y1, y2, y3, y4, y5, y6⟩ := box7 Y2
  clear hb
  obtain ⟨T', v', hv'⟩ := enc_if l
  have HV' : Hid (l.enc = .iface T' v') := hv'
  simp only [encO, ahO]
  rw [hv']
  clear hv'
  go_wp2
  go_ret2
  exact ⟨ret_pa (by rw [E.out]; simp only [encO]; unfold PT.enc; rw [HV.out, HV'.out]; rfl) (by rw [E.out]; first | rfl | (simp only [ahO]; omega)), HB2.out⟩
set_option maxRecDepth 100000 in
set_option maxHeartbeats 4000000 in
theorem c_pA_4 (L : List EN) (a : Option Addr) (n c k : Nat) (x : EN) (w : World) (hr : RdE w a n L) (hk : k < n) (hn : n ≤ 1048576) (hx : x = L.getD k zeroE) (hs : x.t.size ≤ maxLen) (o1 : (x.o == 1) = false) (o2 : (x.o == 2) = false) (u : inB x.o 3 5 = false) (bi : inB x.o 6 13 = true) (q' : Option (PT × Nat)) (CJ : Hid (∀ W, Below w.heap.size w W → Calls Tryz.prog 153 #[.slice a n c, .int .i64 (k : Int)] W fun e w' => e = .returned (.tuple #[encO (q'), .int .i64 (ahO (k + 1) (q'))]) ∧ Below W.heap.size W w')) (q : Option (PT × Nat)) (E : Hid (q = q')) :
    Calls Tryz.prog 102 #[.slice a n c, .int .i64 (k : Int)] w fun e w' => e = .returned (.tuple #[encO (q), .int .i64 (ahO (k + 1) (q))]) ∧ Below w.heap.size w w' := by
  obtain ⟨b, off, rfl, hbl, hc⟩ := hr.2 (by omega)
  obtain ⟨d0, d1, d2, d3, d4, d5, d6⟩ := RdE.at hc hk hx
  have g1 : (0 : Int) ≤ (k : Int) := by omega
  have g2 : (k : Int) < (n : Int) := by omega
  have g3 : ¬ (k : Int) < 0 := by omega
  have rk : ∀ z : Int, (z == z) = true := fun z => by simp
  clear hc hx
  go_enter Tryz.func102, Tryz.ntmps102
  go_wp2_with (first | (go_at_call 66; refine (c_isCol _ _).mono ?_; rintro e w' ⟨rfl, rfl⟩) | (go_at_call 151; refine (c_isUn _ _).mono ?_; rintro e w' ⟨rfl, rfl⟩) | (go_at_call 152; refine (c_isBi _ _).mono ?_; rintro e w' ⟨rfl, rfl⟩))
  refine (CJ.out _ ((Below.refl _ _).alloc (Nat.le_refl _) _)).mono ?_
  rintro e w1 ⟨rfl, hb⟩
  have HB1 : Hid (Below w.heap.size w w1) := ((Below.refl _ _).alloc (Nat.le_refl _) _).trans (hb.mono (by simp))
  clear hb
  go_wp2
  go_ret2
  exact ⟨by rw [E.out]; rfl, HB1.out⟩
set_option maxRecDepth 100000 in
set_option maxHeartbeats 4000000 in
theorem c_pA_0 (a : Option Addr) (n c : Nat) (w : World) : Calls Tryz.prog 102 #[.slice a n c, .int .i64 (-1)] w fun e w' => e = .returned (.tuple #[encO (none), .int .i64 (ahO 0 (none))]) ∧ Below w.heap.size w w' := by
  go_enter Tryz.func102, Tryz.ntmps102
  go_wp2
  go_ret2
  exact ⟨rfl, Below.refl _ _⟩

end Go.Proofs.YtbpfpjmjmkpjoaaGreatDoor
