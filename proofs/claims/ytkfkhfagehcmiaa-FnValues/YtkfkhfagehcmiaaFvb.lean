/-
  The walk of FnValues.
-/
import Derived.Test.YtkfkhfagehcmiaaFva
import Derived.Test.YtkfkhfagehcmiaaFky
namespace Go.Proofs.Ytkfkhfagehcmiaa
open Go Go.RowKit
attribute [local go_sem ↓] Go.wp_at_zero Go.wp_at_succ

theorem szE (b : ByteArray) : b.size = 0 ↔ b.toList = [] := by
  rw [ByteArray.toList_eq]
  constructor
  · intro h
    cases hd : b.data.toList with
    | nil => rfl
    | cons c r => have := congrArg List.length hd; simp at this; omega
  · intro h
    have := congrArg List.length h
    simpa using this
theorem okV_val {u : VV} (h : okV u = true) : u.2.2.size ≤ maxLen := by
  unfold okV valB at h
  unfold maxLen
  split at h
  · have : u.2.2.size = 0 := (szE _).2 (List.isEmpty_iff.1 (Bool.and_eq_true _ _ ▸ h).2)
    omega
  · split at h
    · have : u.2.2.size = 0 := (szE _).2 (List.isEmpty_iff.1 (Bool.and_eq_true _ _ ▸ h).2)
      omega
    · split at h
      · have h2 := (Bool.and_eq_true _ _ ▸ h).2
        unfold wordB at h2
        simp at h2
        omega
      · cases h
set_option maxRecDepth 100000 in
set_option maxHeartbeats 8000000 in
theorem law_FnValues (a : Option Addr) (n c : Nat) (zs : List Int) (a' : Option Addr) (n' c' : Nat) (zs' : List Int) (w : World) (hr : RdV w a n (zs.map (Value.int .u8))) (hz : ∀ z ∈ zs, 0 ≤ z ∧ z < 256) (hm : n ≤ maxLen) (hr' : RdV w a' n' (zs'.map (Value.int .u8))) (hz' : ∀ z ∈ zs', 0 ≤ z ∧ z < 256) (hm' : n' ≤ maxLen) :
    Calls Try.prog 4 #[.slice a n c, .slice a' n' c'] w fun e w' => e = .returned (.bool true) ∧ Below w.heap.size w w' := by
  unfold maxLen at hm hm'
  by_cases b1 : 1048576 < n
  · have d1 : decide ((1048576 : Int) < (n : Int)) = true := by rw [decide_eq_true_eq]; omega
    go_enter Try.func4, Try.ntmps4
    go_wp2
    go_ret
    exact ⟨rfl, Below.refl _ _⟩
  by_cases b2 : 1048576 < n'
  · have d1 : decide ((1048576 : Int) < (n : Int)) = false := by rw [decide_eq_false_iff_not]; omega
    have d2 : decide ((1048576 : Int) < (n' : Int)) = true := by rw [decide_eq_true_eq]; omega
    go_enter Try.func4, Try.ntmps4
    go_wp2
    go_ret
    exact ⟨rfl, Below.refl _ _⟩
  have d1 : decide ((1048576 : Int) < (n : Int)) = false := by rw [decide_eq_false_iff_not]; omega
  have d2 : decide ((1048576 : Int) < (n' : Int)) = false := by rw [decide_eq_false_iff_not]; omega
  have C1 : Hid (∀ W, Below w.heap.size w W → Calls Try.prog 17 #[.slice a n c] W fun e w' => (∃ u : VV, e = .returned (.agg #[.int .i64 u.1, .int .i64 u.2.1, .string u.2.2]) ∧ okV u = true) ∧ Below W.heap.size W w') := fun W hW => c_valueOf a n c zs W (hr.below hW) hz (by omega)
  have C2 : Hid (∀ W, Below w.heap.size w W → Calls Try.prog 17 #[.slice a' n' c'] W fun e w' => (∃ u : VV, e = .returned (.agg #[.int .i64 u.1, .int .i64 u.2.1, .string u.2.2]) ∧ okV u = true) ∧ Below W.heap.size W w') := fun W hW => c_valueOf a' n' c' zs' W (hr'.below hW) hz' (by omega)
  clear hr hz hr' hz'
  go_enter Try.func4, Try.ntmps4
  go_wp2_with fail
  refine (C1.out w (Below.refl _ _)).mono ?_
  rintro e w1 ⟨⟨u, rfl, hu⟩, hb⟩
  obtain ⟨w2, hw2⟩ : ∃ W, w1.alloc (.cells #[.int .i64 u.1, .int .i64 u.2.1, .string u.2.2] 25) = W := ⟨_, rfl⟩
  have hb2 : Below w1.heap.size w1 w2 := by rw [← hw2]; exact (Below.refl _ _).alloc (Nat.le_refl _) _
  have B2 : Hid (Below w.heap.size w w2) := hb.trans (hb2.mono hb.size)
  have G2 : Hid (Box w2 w1.heap.size 25 #[.int .i64 u.1, .int .i64 u.2.1, .string u.2.2]) := by unfold Hid; rw [← hw2]; exact Box.new _ _ _
  have SU : Hid (u.2.2.size ≤ maxLen) := okV_val hu
  clear hu hb hb2
  go_wp2_with fail
  refine (C2.out w2 B2.out).mono ?_
  rintro e w3 ⟨⟨v, rfl, hu⟩, hb⟩
  obtain ⟨w4, hw4⟩ : ∃ W, w3.alloc (.cells #[.int .i64 v.1, .int .i64 v.2.1, .string v.2.2] 25) = W := ⟨_, rfl⟩
  obtain ⟨w5, hw5⟩ : ∃ W, w4.alloc (.cells #[.int .i64 0, .int .i64 0, .string ⟨#[]⟩] 25) = W := ⟨_, rfl⟩
  have hb4 : Below w3.heap.size w3 w4 := by rw [← hw4]; exact (Below.refl _ _).alloc (Nat.le_refl _) _
  have hb5 : Below w4.heap.size w4 w5 := by rw [← hw5]; exact (Below.refl _ _).alloc (Nat.le_refl _) _
  have b25 : Below w2.heap.size w2 w5 := (hb.trans (hb4.mono hb.size)).trans (hb5.mono (hb.trans (hb4.mono hb.size)).size)
  have B5 : Hid (Below w.heap.size w w5) := B2.out.trans (b25.mono B2.out.size)
  have GU : Hid (Box w5 w1.heap.size 25 #[.int .i64 u.1, .int .i64 u.2.1, .string u.2.2]) := G2.out.belowS b25
  have GV : Hid (Box w5 w3.heap.size 25 #[.int .i64 v.1, .int .i64 v.2.1, .string v.2.2]) := (show Box w4 w3.heap.size 25 #[.int .i64 v.1, .int .i64 v.2.1, .string v.2.2] by rw [← hw4]; exact Box.new _ _ _).belowS hb5
  have GZ : Hid (Box w5 w4.heap.size 25 #[.int .i64 0, .int .i64 0, .string ⟨#[]⟩]) := by unfold Hid; rw [← hw5]; exact Box.new _ _ _
  have SV : Hid (v.2.2.size ≤ maxLen) := okV_val hu
  clear hu hb hb4 hb5 b25 G2 B2 C1 C2 hw2
  have H5 : Hid (w4.alloc (.cells #[.int .i64 0, .int .i64 0, .string ⟨#[]⟩] 25) = w5) := hw5
  clear hw5
  go_wp2
  rw [H5.out]
  clear hw4 H5
  go_loopw [8] (fun i wr => ∃ j : Nat, 6 ≤ j ∧ j ≤ 14 ∧ i = .int .i64 j ∧ Hid (Below w5.heap.size w5 wr)) (fun i _ => 14 - (intOf i).toNat)
  case atStart => exact ⟨6, by omega, by omega, rfl, Below.refl _ _⟩
  case round =>
    obtain ⟨j, hj6, hj14, rfl, BR⟩ := hrel
    by_cases hlt : j ≤ 13
    · rcases (show j = 6 ∨ j = 7 ∨ j = 8 ∨ j = 9 ∨ j = 10 ∨ j = 11 ∨ j = 12 ∨ j = 13 by omega) with rfl | rfl | rfl | rfl | rfl | rfl | rfl | rfl
      · clear hj6 hj14 hlt
        as_aux_lemma =>
          obtain ⟨r1, h1⟩ : ∃ r, r = binA 6 u.1 u.2.1 u.2.2 v.1 v.2.1 v.2.2 := ⟨_, rfl⟩
          obtain ⟨r3, h3⟩ : ∃ r, r = binA 6 0 0 ⟨#[]⟩ v.1 v.2.1 v.2.2 := ⟨_, rfl⟩
          have C1 : Hid (∀ W, Calls Try.prog 15 #[.int .i64 6, .agg #[.int .i64 u.1, .int .i64 u.2.1, .string u.2.2], .agg #[.int .i64 v.1, .int .i64 v.2.1, .string v.2.2]] W fun e w' => e = .returned (.tuple #[.agg #[.int .i64 r1.k, .int .i64 r1.n, .string ⟨#[]⟩], .int .i64 r1.c]) ∧ Below W.heap.size W w') := fun W => by rw [h1]; exact c_implBV 6 u.1 u.2.1 u.2.2 v.1 v.2.1 v.2.2 W (SU.out) (SV.out)
          have C2 : Hid (∀ W, Calls Try.prog 13 #[.int .i64 6, .agg #[.int .i64 u.1, .int .i64 u.2.1, .string u.2.2], .agg #[.int .i64 v.1, .int .i64 v.2.1, .string v.2.2]] W fun e w' => e = .returned (.tuple #[.agg #[.int .i64 r1.k, .int .i64 r1.n, .string ⟨#[]⟩], .int .i64 r1.c]) ∧ Below W.heap.size W w') := fun W => by rw [h1]; exact c_specBV 6 u.1 u.2.1 u.2.2 v.1 v.2.1 v.2.2 W (SU.out) (SV.out)
          have C3 : Hid (∀ W, Calls Try.prog 15 #[.int .i64 6, .agg #[.int .i64 0, .int .i64 0, .string ⟨#[]⟩], .agg #[.int .i64 v.1, .int .i64 v.2.1, .string v.2.2]] W fun e w' => e = .returned (.tuple #[.agg #[.int .i64 r3.k, .int .i64 r3.n, .string ⟨#[]⟩], .int .i64 r3.c]) ∧ Below W.heap.size W w') := fun W => by rw [h3]; exact c_implBV 6 0 0 ⟨#[]⟩ v.1 v.2.1 v.2.2 W (Nat.zero_le _) (SV.out)
          have C4 : Hid (∀ W, Calls Try.prog 15 #[.int .i64 6, .agg #[.int .i64 v.1, .int .i64 v.2.1, .string v.2.2], .agg #[.int .i64 u.1, .int .i64 u.2.1, .string u.2.2]] W fun e w' => e = .returned (.tuple #[.agg #[.int .i64 r1.k, .int .i64 r1.n, .string ⟨#[]⟩], .int .i64 r1.c]) ∧ Below W.heap.size W w') := fun W => by rw [h1, binA_comm 6 u.1 u.2.1 u.2.2 v.1 v.2.1 v.2.2 (by decide)]; exact c_implBV 6 v.1 v.2.1 v.2.2 u.1 u.2.1 u.2.2 W (SV.out) (SU.out)
          have CV : Hid (∀ W, Calls Try.prog 18 #[.agg #[.int .i64 r1.k, .int .i64 r1.n, .string ⟨#[]⟩]] W fun e w' => e = .returned (.bool true) ∧ Below W.heap.size W w') := fun W => by have C := c_implOK r1.k r1.n ⟨#[]⟩ W (Nat.zero_le _); rw [show valB r1.k r1.n ⟨#[]⟩ = true by rw [h1]; exact binA_ok _ _ _ _ _ _ _] at C; exact C
          have F3 : Hid (r3.c = 0 → r3 = ⟨0, 0, 0⟩) := fun hc => by rw [h3] at hc ⊢; exact binA_none 6 v.1 v.2.1 v.2.2 (by decide) hc
          clear h1 h3
          have nc : (r1.c != r1.c) = false := by simp
          have nk : (r1.k == r1.k) = true := by simp
          have nn : (r1.n == r1.n) = true := by simp
          have Bwr : Hid (Below w5.heap.size w5 wr) := BR
          obtain ⟨q0, q1, q2⟩ := box3 (GU.out.belowS Bwr.out)
          have ql := (GU.out.belowS Bwr.out).lt
          obtain ⟨p0, p1, p2⟩ := box3 (GV.out.belowS Bwr.out)
          have pl := (GV.out.belowS Bwr.out).lt
          go_wp2_with fail
          refine (C1.out wr).mono ?_
          rintro e x1a ⟨rfl, hb⟩
          have Bx1a : Hid (Below w5.heap.size w5 x1a) := Bwr.out.trans (hb.mono Bwr.out.size)
          clear hb
          clear q0 q1 q2 ql p0 p1 p2 pl
          obtain ⟨q0, q1, q2⟩ := box3 (GU.out.belowS Bx1a.out)
          have ql := (GU.out.belowS Bx1a.out).lt
          obtain ⟨p0, p1, p2⟩ := box3 (GV.out.belowS Bx1a.out)
          have pl := (GV.out.belowS Bx1a.out).lt
          go_wp2_with fail
          refine (C2.out (x1a.alloc (.cells #[.int .i64 r1.k, .int .i64 r1.n, .string ⟨#[]⟩] 25))).mono ?_
          rintro e x2a ⟨rfl, hb⟩
          have Bx2a : Hid (Below w5.heap.size w5 x2a) := (Bx1a.out.alloc Bx1a.out.size (.cells #[.int .i64 r1.k, .int .i64 r1.n, .string ⟨#[]⟩] 25)).trans (hb.mono (Bx1a.out.alloc Bx1a.out.size (.cells #[.int .i64 r1.k, .int .i64 r1.n, .string ⟨#[]⟩] 25)).size)
          have Mx2a : Hid (Box x2a x1a.heap.size 25 #[.int .i64 r1.k, .int .i64 r1.n, .string ⟨#[]⟩]) := (Box.new x1a #[.int .i64 r1.k, .int .i64 r1.n, .string ⟨#[]⟩] 25).belowS hb
          clear hb
          clear q0 q1 q2 ql p0 p1 p2 pl
          obtain ⟨q0, q1, q2⟩ := box3 (Mx2a.out)
          have ql := (Mx2a.out).lt
          go_wp2_with fail
          refine (CV.out (x2a.alloc (.cells #[.int .i64 r1.k, .int .i64 r1.n, .string ⟨#[]⟩] 25))).mono ?_
          rintro e x3a ⟨rfl, hb⟩
          have Bx3a : Hid (Below w5.heap.size w5 x3a) := (Bx2a.out.alloc Bx2a.out.size (.cells #[.int .i64 r1.k, .int .i64 r1.n, .string ⟨#[]⟩] 25)).trans (hb.mono (Bx2a.out.alloc Bx2a.out.size (.cells #[.int .i64 r1.k, .int .i64 r1.n, .string ⟨#[]⟩] 25)).size)
          have Mx3a : Hid (Box x3a x1a.heap.size 25 #[.int .i64 r1.k, .int .i64 r1.n, .string ⟨#[]⟩]) := (Mx2a.out.alloc _).belowS hb
          clear hb
          clear q0 q1 q2 ql
          obtain ⟨q0, q1, q2⟩ := box3 (GZ.out.belowS Bx3a.out)
          have ql := (GZ.out.belowS Bx3a.out).lt
          obtain ⟨p0, p1, p2⟩ := box3 (GV.out.belowS Bx3a.out)
          have pl := (GV.out.belowS Bx3a.out).lt
          go_wp2_with fail
          refine (C3.out x3a).mono ?_
          rintro e x4a ⟨rfl, hb⟩
          have Bx4a : Hid (Below w5.heap.size w5 x4a) := Bx3a.out.trans (hb.mono Bx3a.out.size)
          have Mx4a : Hid (Box x4a x1a.heap.size 25 #[.int .i64 r1.k, .int .i64 r1.n, .string ⟨#[]⟩]) := (Mx3a.out).belowS hb
          clear hb
          clear q0 q1 q2 ql p0 p1 p2 pl
          obtain ⟨q0, q1, q2⟩ := box3 (GZ.out.belowS Bx4a.out)
          have ql := (GZ.out.belowS Bx4a.out).lt
          obtain ⟨m0, m1, m2⟩ := box3 (Mx4a.out)
          have ml := (Mx4a.out).lt
          obtain ⟨p0, p1, p2⟩ := box3 (GV.out.belowS Bx4a.out)
          have pl := (GV.out.belowS Bx4a.out).lt
          obtain ⟨s0, s1, s2⟩ := box3 (GU.out.belowS Bx4a.out)
          have sl := (GU.out.belowS Bx4a.out).lt
          cases c3 : (r3.c == 0)
          · skip
            go_wp2_with fail
            refine (C4.out (x4a.alloc (.cells #[.int .i64 r3.k, .int .i64 r3.n, .string ⟨#[]⟩] 25))).mono ?_
            rintro e x5a ⟨rfl, hb⟩
            have Bx5a : Hid (Below w5.heap.size w5 x5a) := (Bx4a.out.alloc Bx4a.out.size (.cells #[.int .i64 r3.k, .int .i64 r3.n, .string ⟨#[]⟩] 25)).trans (hb.mono (Bx4a.out.alloc Bx4a.out.size (.cells #[.int .i64 r3.k, .int .i64 r3.n, .string ⟨#[]⟩] 25)).size)
            have Mx5a : Hid (Box x5a x1a.heap.size 25 #[.int .i64 r1.k, .int .i64 r1.n, .string ⟨#[]⟩]) := (Mx4a.out.alloc _).belowS hb
            clear hb q0 q1 q2 ql p0 p1 p2 pl m0 m1 m2 ml s0 s1 s2 sl
            obtain ⟨q0, q1, q2⟩ := box3 Mx5a.out
            have ql := Mx5a.out.lt
            go_wp2
            go_roundw
            case rel => exact ⟨7, by omega, by omega, rfl, Bx5a.out.alloc Bx5a.out.size _⟩
            case measure => simp [intOf]
          · obtain rfl := F3.out (by simpa using c3)
            go_wp2_with fail
            refine (C4.out (x4a.alloc (.cells #[.int .i64 0, .int .i64 0, .string ⟨#[]⟩] 25))).mono ?_
            rintro e x5a ⟨rfl, hb⟩
            have Bx5a : Hid (Below w5.heap.size w5 x5a) := (Bx4a.out.alloc Bx4a.out.size (.cells #[.int .i64 0, .int .i64 0, .string ⟨#[]⟩] 25)).trans (hb.mono (Bx4a.out.alloc Bx4a.out.size (.cells #[.int .i64 0, .int .i64 0, .string ⟨#[]⟩] 25)).size)
            have Mx5a : Hid (Box x5a x1a.heap.size 25 #[.int .i64 r1.k, .int .i64 r1.n, .string ⟨#[]⟩]) := (Mx4a.out.alloc _).belowS hb
            clear hb q0 q1 q2 ql p0 p1 p2 pl m0 m1 m2 ml s0 s1 s2 sl
            obtain ⟨q0, q1, q2⟩ := box3 Mx5a.out
            have ql := Mx5a.out.lt
            go_wp2
            go_roundw
            case rel => exact ⟨7, by omega, by omega, rfl, Bx5a.out.alloc Bx5a.out.size _⟩
            case measure => simp [intOf]
      · clear hj6 hj14 hlt
        as_aux_lemma =>
          obtain ⟨r1, h1⟩ : ∃ r, r = binA 7 u.1 u.2.1 u.2.2 v.1 v.2.1 v.2.2 := ⟨_, rfl⟩
          obtain ⟨r3, h3⟩ : ∃ r, r = binA 7 0 0 ⟨#[]⟩ v.1 v.2.1 v.2.2 := ⟨_, rfl⟩
          have C1 : Hid (∀ W, Calls Try.prog 15 #[.int .i64 7, .agg #[.int .i64 u.1, .int .i64 u.2.1, .string u.2.2], .agg #[.int .i64 v.1, .int .i64 v.2.1, .string v.2.2]] W fun e w' => e = .returned (.tuple #[.agg #[.int .i64 r1.k, .int .i64 r1.n, .string ⟨#[]⟩], .int .i64 r1.c]) ∧ Below W.heap.size W w') := fun W => by rw [h1]; exact c_implBV 7 u.1 u.2.1 u.2.2 v.1 v.2.1 v.2.2 W (SU.out) (SV.out)
          have C2 : Hid (∀ W, Calls Try.prog 13 #[.int .i64 7, .agg #[.int .i64 u.1, .int .i64 u.2.1, .string u.2.2], .agg #[.int .i64 v.1, .int .i64 v.2.1, .string v.2.2]] W fun e w' => e = .returned (.tuple #[.agg #[.int .i64 r1.k, .int .i64 r1.n, .string ⟨#[]⟩], .int .i64 r1.c]) ∧ Below W.heap.size W w') := fun W => by rw [h1]; exact c_specBV 7 u.1 u.2.1 u.2.2 v.1 v.2.1 v.2.2 W (SU.out) (SV.out)
          have C3 : Hid (∀ W, Calls Try.prog 15 #[.int .i64 7, .agg #[.int .i64 0, .int .i64 0, .string ⟨#[]⟩], .agg #[.int .i64 v.1, .int .i64 v.2.1, .string v.2.2]] W fun e w' => e = .returned (.tuple #[.agg #[.int .i64 r3.k, .int .i64 r3.n, .string ⟨#[]⟩], .int .i64 r3.c]) ∧ Below W.heap.size W w') := fun W => by rw [h3]; exact c_implBV 7 0 0 ⟨#[]⟩ v.1 v.2.1 v.2.2 W (Nat.zero_le _) (SV.out)
          have CV : Hid (∀ W, Calls Try.prog 18 #[.agg #[.int .i64 r1.k, .int .i64 r1.n, .string ⟨#[]⟩]] W fun e w' => e = .returned (.bool true) ∧ Below W.heap.size W w') := fun W => by have C := c_implOK r1.k r1.n ⟨#[]⟩ W (Nat.zero_le _); rw [show valB r1.k r1.n ⟨#[]⟩ = true by rw [h1]; exact binA_ok _ _ _ _ _ _ _] at C; exact C
          have F3 : Hid (r3.c = 0 → r3 = ⟨0, 0, 0⟩) := fun hc => by rw [h3] at hc ⊢; exact binA_none 7 v.1 v.2.1 v.2.2 (by decide) hc
          clear h1 h3
          have nc : (r1.c != r1.c) = false := by simp
          have nk : (r1.k == r1.k) = true := by simp
          have nn : (r1.n == r1.n) = true := by simp
          have Bwr : Hid (Below w5.heap.size w5 wr) := BR
          obtain ⟨q0, q1, q2⟩ := box3 (GU.out.belowS Bwr.out)
          have ql := (GU.out.belowS Bwr.out).lt
          obtain ⟨p0, p1, p2⟩ := box3 (GV.out.belowS Bwr.out)
          have pl := (GV.out.belowS Bwr.out).lt
          go_wp2_with fail
          refine (C1.out wr).mono ?_
          rintro e x1a ⟨rfl, hb⟩
          have Bx1a : Hid (Below w5.heap.size w5 x1a) := Bwr.out.trans (hb.mono Bwr.out.size)
          clear hb
          clear q0 q1 q2 ql p0 p1 p2 pl
          obtain ⟨q0, q1, q2⟩ := box3 (GU.out.belowS Bx1a.out)
          have ql := (GU.out.belowS Bx1a.out).lt
          obtain ⟨p0, p1, p2⟩ := box3 (GV.out.belowS Bx1a.out)
          have pl := (GV.out.belowS Bx1a.out).lt
          go_wp2_with fail
          refine (C2.out (x1a.alloc (.cells #[.int .i64 r1.k, .int .i64 r1.n, .string ⟨#[]⟩] 25))).mono ?_
          rintro e x2a ⟨rfl, hb⟩
          have Bx2a : Hid (Below w5.heap.size w5 x2a) := (Bx1a.out.alloc Bx1a.out.size (.cells #[.int .i64 r1.k, .int .i64 r1.n, .string ⟨#[]⟩] 25)).trans (hb.mono (Bx1a.out.alloc Bx1a.out.size (.cells #[.int .i64 r1.k, .int .i64 r1.n, .string ⟨#[]⟩] 25)).size)
          have Mx2a : Hid (Box x2a x1a.heap.size 25 #[.int .i64 r1.k, .int .i64 r1.n, .string ⟨#[]⟩]) := (Box.new x1a #[.int .i64 r1.k, .int .i64 r1.n, .string ⟨#[]⟩] 25).belowS hb
          clear hb
          clear q0 q1 q2 ql p0 p1 p2 pl
          obtain ⟨q0, q1, q2⟩ := box3 (Mx2a.out)
          have ql := (Mx2a.out).lt
          go_wp2_with fail
          refine (CV.out (x2a.alloc (.cells #[.int .i64 r1.k, .int .i64 r1.n, .string ⟨#[]⟩] 25))).mono ?_
          rintro e x3a ⟨rfl, hb⟩
          have Bx3a : Hid (Below w5.heap.size w5 x3a) := (Bx2a.out.alloc Bx2a.out.size (.cells #[.int .i64 r1.k, .int .i64 r1.n, .string ⟨#[]⟩] 25)).trans (hb.mono (Bx2a.out.alloc Bx2a.out.size (.cells #[.int .i64 r1.k, .int .i64 r1.n, .string ⟨#[]⟩] 25)).size)
          have Mx3a : Hid (Box x3a x1a.heap.size 25 #[.int .i64 r1.k, .int .i64 r1.n, .string ⟨#[]⟩]) := (Mx2a.out.alloc _).belowS hb
          clear hb
          clear q0 q1 q2 ql
          obtain ⟨q0, q1, q2⟩ := box3 (GZ.out.belowS Bx3a.out)
          have ql := (GZ.out.belowS Bx3a.out).lt
          obtain ⟨p0, p1, p2⟩ := box3 (GV.out.belowS Bx3a.out)
          have pl := (GV.out.belowS Bx3a.out).lt
          go_wp2_with fail
          refine (C3.out x3a).mono ?_
          rintro e x4a ⟨rfl, hb⟩
          have Bx4a : Hid (Below w5.heap.size w5 x4a) := Bx3a.out.trans (hb.mono Bx3a.out.size)
          have Mx4a : Hid (Box x4a x1a.heap.size 25 #[.int .i64 r1.k, .int .i64 r1.n, .string ⟨#[]⟩]) := (Mx3a.out).belowS hb
          clear hb
          clear q0 q1 q2 ql p0 p1 p2 pl
          obtain ⟨q0, q1, q2⟩ := box3 (GZ.out.belowS Bx4a.out)
          have ql := (GZ.out.belowS Bx4a.out).lt
          obtain ⟨m0, m1, m2⟩ := box3 (Mx4a.out)
          have ml := (Mx4a.out).lt
          obtain ⟨p0, p1, p2⟩ := box3 (GV.out.belowS Bx4a.out)
          have pl := (GV.out.belowS Bx4a.out).lt
          obtain ⟨s0, s1, s2⟩ := box3 (GU.out.belowS Bx4a.out)
          have sl := (GU.out.belowS Bx4a.out).lt
          cases c3 : (r3.c == 0)
          · skip
            clear m0 m1 m2 ml p0 p1 p2 pl s0 s1 s2 sl
            go_wp2
            go_roundw
            case rel => exact ⟨8, by omega, by omega, rfl, Bx4a.out.alloc Bx4a.out.size _⟩
            case measure => simp [intOf]
          · obtain rfl := F3.out (by simpa using c3)
            clear m0 m1 m2 ml p0 p1 p2 pl s0 s1 s2 sl
            go_wp2
            go_roundw
            case rel => exact ⟨8, by omega, by omega, rfl, Bx4a.out.alloc Bx4a.out.size _⟩
            case measure => simp [intOf]
      · clear hj6 hj14 hlt
        as_aux_lemma =>
          obtain ⟨r1, h1⟩ : ∃ r, r = binA 8 u.1 u.2.1 u.2.2 v.1 v.2.1 v.2.2 := ⟨_, rfl⟩
          obtain ⟨r3, h3⟩ : ∃ r, r = binA 8 0 0 ⟨#[]⟩ v.1 v.2.1 v.2.2 := ⟨_, rfl⟩
          have C1 : Hid (∀ W, Calls Try.prog 15 #[.int .i64 8, .agg #[.int .i64 u.1, .int .i64 u.2.1, .string u.2.2], .agg #[.int .i64 v.1, .int .i64 v.2.1, .string v.2.2]] W fun e w' => e = .returned (.tuple #[.agg #[.int .i64 r1.k, .int .i64 r1.n, .string ⟨#[]⟩], .int .i64 r1.c]) ∧ Below W.heap.size W w') := fun W => by rw [h1]; exact c_implBV 8 u.1 u.2.1 u.2.2 v.1 v.2.1 v.2.2 W (SU.out) (SV.out)
          have C2 : Hid (∀ W, Calls Try.prog 13 #[.int .i64 8, .agg #[.int .i64 u.1, .int .i64 u.2.1, .string u.2.2], .agg #[.int .i64 v.1, .int .i64 v.2.1, .string v.2.2]] W fun e w' => e = .returned (.tuple #[.agg #[.int .i64 r1.k, .int .i64 r1.n, .string ⟨#[]⟩], .int .i64 r1.c]) ∧ Below W.heap.size W w') := fun W => by rw [h1]; exact c_specBV 8 u.1 u.2.1 u.2.2 v.1 v.2.1 v.2.2 W (SU.out) (SV.out)
          have C3 : Hid (∀ W, Calls Try.prog 15 #[.int .i64 8, .agg #[.int .i64 0, .int .i64 0, .string ⟨#[]⟩], .agg #[.int .i64 v.1, .int .i64 v.2.1, .string v.2.2]] W fun e w' => e = .returned (.tuple #[.agg #[.int .i64 r3.k, .int .i64 r3.n, .string ⟨#[]⟩], .int .i64 r3.c]) ∧ Below W.heap.size W w') := fun W => by rw [h3]; exact c_implBV 8 0 0 ⟨#[]⟩ v.1 v.2.1 v.2.2 W (Nat.zero_le _) (SV.out)
          have C4 : Hid (∀ W, Calls Try.prog 15 #[.int .i64 8, .agg #[.int .i64 v.1, .int .i64 v.2.1, .string v.2.2], .agg #[.int .i64 u.1, .int .i64 u.2.1, .string u.2.2]] W fun e w' => e = .returned (.tuple #[.agg #[.int .i64 r1.k, .int .i64 r1.n, .string ⟨#[]⟩], .int .i64 r1.c]) ∧ Below W.heap.size W w') := fun W => by rw [h1, binA_comm 8 u.1 u.2.1 u.2.2 v.1 v.2.1 v.2.2 (by decide)]; exact c_implBV 8 v.1 v.2.1 v.2.2 u.1 u.2.1 u.2.2 W (SV.out) (SU.out)
          have CV : Hid (∀ W, Calls Try.prog 18 #[.agg #[.int .i64 r1.k, .int .i64 r1.n, .string ⟨#[]⟩]] W fun e w' => e = .returned (.bool true) ∧ Below W.heap.size W w') := fun W => by have C := c_implOK r1.k r1.n ⟨#[]⟩ W (Nat.zero_le _); rw [show valB r1.k r1.n ⟨#[]⟩ = true by rw [h1]; exact binA_ok _ _ _ _ _ _ _] at C; exact C
          have F3 : Hid (r3.c = 0 → r3 = ⟨0, 0, 0⟩) := fun hc => by rw [h3] at hc ⊢; exact binA_none 8 v.1 v.2.1 v.2.2 (by decide) hc
          clear h1 h3
          have nc : (r1.c != r1.c) = false := by simp
          have nk : (r1.k == r1.k) = true := by simp
          have nn : (r1.n == r1.n) = true := by simp
          have Bwr : Hid (Below w5.heap.size w5 wr) := BR
          obtain ⟨q0, q1, q2⟩ := box3 (GU.out.belowS Bwr.out)
          have ql := (GU.out.belowS Bwr.out).lt
          obtain ⟨p0, p1, p2⟩ := box3 (GV.out.belowS Bwr.out)
          have pl := (GV.out.belowS Bwr.out).lt
          go_wp2_with fail
          refine (C1.out wr).mono ?_
          rintro e x1a ⟨rfl, hb⟩
          have Bx1a : Hid (Below w5.heap.size w5 x1a) := Bwr.out.trans (hb.mono Bwr.out.size)
          clear hb
          clear q0 q1 q2 ql p0 p1 p2 pl
          obtain ⟨q0, q1, q2⟩ := box3 (GU.out.belowS Bx1a.out)
          have ql := (GU.out.belowS Bx1a.out).lt
          obtain ⟨p0, p1, p2⟩ := box3 (GV.out.belowS Bx1a.out)
          have pl := (GV.out.belowS Bx1a.out).lt
          go_wp2_with fail
          refine (C2.out (x1a.alloc (.cells #[.int .i64 r1.k, .int .i64 r1.n, .string ⟨#[]⟩] 25))).mono ?_
          rintro e x2a ⟨rfl, hb⟩
          have Bx2a : Hid (Below w5.heap.size w5 x2a) := (Bx1a.out.alloc Bx1a.out.size (.cells #[.int .i64 r1.k, .int .i64 r1.n, .string ⟨#[]⟩] 25)).trans (hb.mono (Bx1a.out.alloc Bx1a.out.size (.cells #[.int .i64 r1.k, .int .i64 r1.n, .string ⟨#[]⟩] 25)).size)
          have Mx2a : Hid (Box x2a x1a.heap.size 25 #[.int .i64 r1.k, .int .i64 r1.n, .string ⟨#[]⟩]) := (Box.new x1a #[.int .i64 r1.k, .int .i64 r1.n, .string ⟨#[]⟩] 25).belowS hb
          clear hb
          clear q0 q1 q2 ql p0 p1 p2 pl
          obtain ⟨q0, q1, q2⟩ := box3 (Mx2a.out)
          have ql := (Mx2a.out).lt
          go_wp2_with fail
          refine (CV.out (x2a.alloc (.cells #[.int .i64 r1.k, .int .i64 r1.n, .string ⟨#[]⟩] 25))).mono ?_
          rintro e x3a ⟨rfl, hb⟩
          have Bx3a : Hid (Below w5.heap.size w5 x3a) := (Bx2a.out.alloc Bx2a.out.size (.cells #[.int .i64 r1.k, .int .i64 r1.n, .string ⟨#[]⟩] 25)).trans (hb.mono (Bx2a.out.alloc Bx2a.out.size (.cells #[.int .i64 r1.k, .int .i64 r1.n, .string ⟨#[]⟩] 25)).size)
          have Mx3a : Hid (Box x3a x1a.heap.size 25 #[.int .i64 r1.k, .int .i64 r1.n, .string ⟨#[]⟩]) := (Mx2a.out.alloc _).belowS hb
          clear hb
          clear q0 q1 q2 ql
          obtain ⟨q0, q1, q2⟩ := box3 (GZ.out.belowS Bx3a.out)
          have ql := (GZ.out.belowS Bx3a.out).lt
          obtain ⟨p0, p1, p2⟩ := box3 (GV.out.belowS Bx3a.out)
          have pl := (GV.out.belowS Bx3a.out).lt
          go_wp2_with fail
          refine (C3.out x3a).mono ?_
          rintro e x4a ⟨rfl, hb⟩
          have Bx4a : Hid (Below w5.heap.size w5 x4a) := Bx3a.out.trans (hb.mono Bx3a.out.size)
          have Mx4a : Hid (Box x4a x1a.heap.size 25 #[.int .i64 r1.k, .int .i64 r1.n, .string ⟨#[]⟩]) := (Mx3a.out).belowS hb
          clear hb
          clear q0 q1 q2 ql p0 p1 p2 pl
          obtain ⟨q0, q1, q2⟩ := box3 (GZ.out.belowS Bx4a.out)
          have ql := (GZ.out.belowS Bx4a.out).lt
          obtain ⟨m0, m1, m2⟩ := box3 (Mx4a.out)
          have ml := (Mx4a.out).lt
          obtain ⟨p0, p1, p2⟩ := box3 (GV.out.belowS Bx4a.out)
          have pl := (GV.out.belowS Bx4a.out).lt
          obtain ⟨s0, s1, s2⟩ := box3 (GU.out.belowS Bx4a.out)
          have sl := (GU.out.belowS Bx4a.out).lt
          cases c3 : (r3.c == 0)
          · skip
            go_wp2_with fail
            refine (C4.out (x4a.alloc (.cells #[.int .i64 r3.k, .int .i64 r3.n, .string ⟨#[]⟩] 25))).mono ?_
            rintro e x5a ⟨rfl, hb⟩
            have Bx5a : Hid (Below w5.heap.size w5 x5a) := (Bx4a.out.alloc Bx4a.out.size (.cells #[.int .i64 r3.k, .int .i64 r3.n, .string ⟨#[]⟩] 25)).trans (hb.mono (Bx4a.out.alloc Bx4a.out.size (.cells #[.int .i64 r3.k, .int .i64 r3.n, .string ⟨#[]⟩] 25)).size)
            have Mx5a : Hid (Box x5a x1a.heap.size 25 #[.int .i64 r1.k, .int .i64 r1.n, .string ⟨#[]⟩]) := (Mx4a.out.alloc _).belowS hb
            clear hb q0 q1 q2 ql p0 p1 p2 pl m0 m1 m2 ml s0 s1 s2 sl
            obtain ⟨q0, q1, q2⟩ := box3 Mx5a.out
            have ql := Mx5a.out.lt
            go_wp2
            go_roundw
            case rel => exact ⟨9, by omega, by omega, rfl, Bx5a.out.alloc Bx5a.out.size _⟩
            case measure => simp [intOf]
          · obtain rfl := F3.out (by simpa using c3)
            go_wp2_with fail
            refine (C4.out (x4a.alloc (.cells #[.int .i64 0, .int .i64 0, .string ⟨#[]⟩] 25))).mono ?_
            rintro e x5a ⟨rfl, hb⟩
            have Bx5a : Hid (Below w5.heap.size w5 x5a) := (Bx4a.out.alloc Bx4a.out.size (.cells #[.int .i64 0, .int .i64 0, .string ⟨#[]⟩] 25)).trans (hb.mono (Bx4a.out.alloc Bx4a.out.size (.cells #[.int .i64 0, .int .i64 0, .string ⟨#[]⟩] 25)).size)
            have Mx5a : Hid (Box x5a x1a.heap.size 25 #[.int .i64 r1.k, .int .i64 r1.n, .string ⟨#[]⟩]) := (Mx4a.out.alloc _).belowS hb
            clear hb q0 q1 q2 ql p0 p1 p2 pl m0 m1 m2 ml s0 s1 s2 sl
            obtain ⟨q0, q1, q2⟩ := box3 Mx5a.out
            have ql := Mx5a.out.lt
            go_wp2
            go_roundw
            case rel => exact ⟨9, by omega, by omega, rfl, Bx5a.out.alloc Bx5a.out.size _⟩
            case measure => simp [intOf]
      · clear hj6 hj14 hlt
        as_aux_lemma =>
          obtain ⟨r1, h1⟩ : ∃ r, r = binA 9 u.1 u.2.1 u.2.2 v.1 v.2.1 v.2.2 := ⟨_, rfl⟩
          obtain ⟨r3, h3⟩ : ∃ r, r = binA 9 0 0 ⟨#[]⟩ v.1 v.2.1 v.2.2 := ⟨_, rfl⟩
          have C1 : Hid (∀ W, Calls Try.prog 15 #[.int .i64 9, .agg #[.int .i64 u.1, .int .i64 u.2.1, .string u.2.2], .agg #[.int .i64 v.1, .int .i64 v.2.1, .string v.2.2]] W fun e w' => e = .returned (.tuple #[.agg #[.int .i64 r1.k, .int .i64 r1.n, .string ⟨#[]⟩], .int .i64 r1.c]) ∧ Below W.heap.size W w') := fun W => by rw [h1]; exact c_implBV 9 u.1 u.2.1 u.2.2 v.1 v.2.1 v.2.2 W (SU.out) (SV.out)
          have C2 : Hid (∀ W, Calls Try.prog 13 #[.int .i64 9, .agg #[.int .i64 u.1, .int .i64 u.2.1, .string u.2.2], .agg #[.int .i64 v.1, .int .i64 v.2.1, .string v.2.2]] W fun e w' => e = .returned (.tuple #[.agg #[.int .i64 r1.k, .int .i64 r1.n, .string ⟨#[]⟩], .int .i64 r1.c]) ∧ Below W.heap.size W w') := fun W => by rw [h1]; exact c_specBV 9 u.1 u.2.1 u.2.2 v.1 v.2.1 v.2.2 W (SU.out) (SV.out)
          have C3 : Hid (∀ W, Calls Try.prog 15 #[.int .i64 9, .agg #[.int .i64 0, .int .i64 0, .string ⟨#[]⟩], .agg #[.int .i64 v.1, .int .i64 v.2.1, .string v.2.2]] W fun e w' => e = .returned (.tuple #[.agg #[.int .i64 r3.k, .int .i64 r3.n, .string ⟨#[]⟩], .int .i64 r3.c]) ∧ Below W.heap.size W w') := fun W => by rw [h3]; exact c_implBV 9 0 0 ⟨#[]⟩ v.1 v.2.1 v.2.2 W (Nat.zero_le _) (SV.out)
          have CV : Hid (∀ W, Calls Try.prog 18 #[.agg #[.int .i64 r1.k, .int .i64 r1.n, .string ⟨#[]⟩]] W fun e w' => e = .returned (.bool true) ∧ Below W.heap.size W w') := fun W => by have C := c_implOK r1.k r1.n ⟨#[]⟩ W (Nat.zero_le _); rw [show valB r1.k r1.n ⟨#[]⟩ = true by rw [h1]; exact binA_ok _ _ _ _ _ _ _] at C; exact C
          have F3 : Hid (r3.c = 0 → r3 = ⟨0, 0, 0⟩) := fun hc => by rw [h3] at hc ⊢; exact binA_none 9 v.1 v.2.1 v.2.2 (by decide) hc
          clear h1 h3
          have nc : (r1.c != r1.c) = false := by simp
          have nk : (r1.k == r1.k) = true := by simp
          have nn : (r1.n == r1.n) = true := by simp
          have Bwr : Hid (Below w5.heap.size w5 wr) := BR
          obtain ⟨q0, q1, q2⟩ := box3 (GU.out.belowS Bwr.out)
          have ql := (GU.out.belowS Bwr.out).lt
          obtain ⟨p0, p1, p2⟩ := box3 (GV.out.belowS Bwr.out)
          have pl := (GV.out.belowS Bwr.out).lt
          go_wp2_with fail
          refine (C1.out wr).mono ?_
          rintro e x1a ⟨rfl, hb⟩
          have Bx1a : Hid (Below w5.heap.size w5 x1a) := Bwr.out.trans (hb.mono Bwr.out.size)
          clear hb
          clear q0 q1 q2 ql p0 p1 p2 pl
          obtain ⟨q0, q1, q2⟩ := box3 (GU.out.belowS Bx1a.out)
          have ql := (GU.out.belowS Bx1a.out).lt
          obtain ⟨p0, p1, p2⟩ := box3 (GV.out.belowS Bx1a.out)
          have pl := (GV.out.belowS Bx1a.out).lt
          go_wp2_with fail
          refine (C2.out (x1a.alloc (.cells #[.int .i64 r1.k, .int .i64 r1.n, .string ⟨#[]⟩] 25))).mono ?_
          rintro e x2a ⟨rfl, hb⟩
          have Bx2a : Hid (Below w5.heap.size w5 x2a) := (Bx1a.out.alloc Bx1a.out.size (.cells #[.int .i64 r1.k, .int .i64 r1.n, .string ⟨#[]⟩] 25)).trans (hb.mono (Bx1a.out.alloc Bx1a.out.size (.cells #[.int .i64 r1.k, .int .i64 r1.n, .string ⟨#[]⟩] 25)).size)
          have Mx2a : Hid (Box x2a x1a.heap.size 25 #[.int .i64 r1.k, .int .i64 r1.n, .string ⟨#[]⟩]) := (Box.new x1a #[.int .i64 r1.k, .int .i64 r1.n, .string ⟨#[]⟩] 25).belowS hb
          clear hb
          clear q0 q1 q2 ql p0 p1 p2 pl
          obtain ⟨q0, q1, q2⟩ := box3 (Mx2a.out)
          have ql := (Mx2a.out).lt
          go_wp2_with fail
          refine (CV.out (x2a.alloc (.cells #[.int .i64 r1.k, .int .i64 r1.n, .string ⟨#[]⟩] 25))).mono ?_
          rintro e x3a ⟨rfl, hb⟩
          have Bx3a : Hid (Below w5.heap.size w5 x3a) := (Bx2a.out.alloc Bx2a.out.size (.cells #[.int .i64 r1.k, .int .i64 r1.n, .string ⟨#[]⟩] 25)).trans (hb.mono (Bx2a.out.alloc Bx2a.out.size (.cells #[.int .i64 r1.k, .int .i64 r1.n, .string ⟨#[]⟩] 25)).size)
          have Mx3a : Hid (Box x3a x1a.heap.size 25 #[.int .i64 r1.k, .int .i64 r1.n, .string ⟨#[]⟩]) := (Mx2a.out.alloc _).belowS hb
          clear hb
          clear q0 q1 q2 ql
          obtain ⟨q0, q1, q2⟩ := box3 (GZ.out.belowS Bx3a.out)
          have ql := (GZ.out.belowS Bx3a.out).lt
          obtain ⟨p0, p1, p2⟩ := box3 (GV.out.belowS Bx3a.out)
          have pl := (GV.out.belowS Bx3a.out).lt
          go_wp2_with fail
          refine (C3.out x3a).mono ?_
          rintro e x4a ⟨rfl, hb⟩
          have Bx4a : Hid (Below w5.heap.size w5 x4a) := Bx3a.out.trans (hb.mono Bx3a.out.size)
          have Mx4a : Hid (Box x4a x1a.heap.size 25 #[.int .i64 r1.k, .int .i64 r1.n, .string ⟨#[]⟩]) := (Mx3a.out).belowS hb
          clear hb
          clear q0 q1 q2 ql p0 p1 p2 pl
          obtain ⟨q0, q1, q2⟩ := box3 (GZ.out.belowS Bx4a.out)
          have ql := (GZ.out.belowS Bx4a.out).lt
          obtain ⟨m0, m1, m2⟩ := box3 (Mx4a.out)
          have ml := (Mx4a.out).lt
          obtain ⟨p0, p1, p2⟩ := box3 (GV.out.belowS Bx4a.out)
          have pl := (GV.out.belowS Bx4a.out).lt
          obtain ⟨s0, s1, s2⟩ := box3 (GU.out.belowS Bx4a.out)
          have sl := (GU.out.belowS Bx4a.out).lt
          cases c3 : (r3.c == 0)
          · skip
            clear m0 m1 m2 ml p0 p1 p2 pl s0 s1 s2 sl
            go_wp2
            go_roundw
            case rel => exact ⟨10, by omega, by omega, rfl, Bx4a.out.alloc Bx4a.out.size _⟩
            case measure => simp [intOf]
          · obtain rfl := F3.out (by simpa using c3)
            clear m0 m1 m2 ml p0 p1 p2 pl s0 s1 s2 sl
            go_wp2
            go_roundw
            case rel => exact ⟨10, by omega, by omega, rfl, Bx4a.out.alloc Bx4a.out.size _⟩
            case measure => simp [intOf]
      · clear hj6 hj14 hlt
        as_aux_lemma =>
          obtain ⟨r1, h1⟩ : ∃ r, r = binA 10 u.1 u.2.1 u.2.2 v.1 v.2.1 v.2.2 := ⟨_, rfl⟩
          obtain ⟨r3, h3⟩ : ∃ r, r = binA 10 0 0 ⟨#[]⟩ v.1 v.2.1 v.2.2 := ⟨_, rfl⟩
          have C1 : Hid (∀ W, Calls Try.prog 15 #[.int .i64 10, .agg #[.int .i64 u.1, .int .i64 u.2.1, .string u.2.2], .agg #[.int .i64 v.1, .int .i64 v.2.1, .string v.2.2]] W fun e w' => e = .returned (.tuple #[.agg #[.int .i64 r1.k, .int .i64 r1.n, .string ⟨#[]⟩], .int .i64 r1.c]) ∧ Below W.heap.size W w') := fun W => by rw [h1]; exact c_implBV 10 u.1 u.2.1 u.2.2 v.1 v.2.1 v.2.2 W (SU.out) (SV.out)
          have C2 : Hid (∀ W, Calls Try.prog 13 #[.int .i64 10, .agg #[.int .i64 u.1, .int .i64 u.2.1, .string u.2.2], .agg #[.int .i64 v.1, .int .i64 v.2.1, .string v.2.2]] W fun e w' => e = .returned (.tuple #[.agg #[.int .i64 r1.k, .int .i64 r1.n, .string ⟨#[]⟩], .int .i64 r1.c]) ∧ Below W.heap.size W w') := fun W => by rw [h1]; exact c_specBV 10 u.1 u.2.1 u.2.2 v.1 v.2.1 v.2.2 W (SU.out) (SV.out)
          have C3 : Hid (∀ W, Calls Try.prog 15 #[.int .i64 10, .agg #[.int .i64 0, .int .i64 0, .string ⟨#[]⟩], .agg #[.int .i64 v.1, .int .i64 v.2.1, .string v.2.2]] W fun e w' => e = .returned (.tuple #[.agg #[.int .i64 r3.k, .int .i64 r3.n, .string ⟨#[]⟩], .int .i64 r3.c]) ∧ Below W.heap.size W w') := fun W => by rw [h3]; exact c_implBV 10 0 0 ⟨#[]⟩ v.1 v.2.1 v.2.2 W (Nat.zero_le _) (SV.out)
          have C4 : Hid (∀ W, Calls Try.prog 15 #[.int .i64 10, .agg #[.int .i64 v.1, .int .i64 v.2.1, .string v.2.2], .agg #[.int .i64 u.1, .int .i64 u.2.1, .string u.2.2]] W fun e w' => e = .returned (.tuple #[.agg #[.int .i64 r1.k, .int .i64 r1.n, .string ⟨#[]⟩], .int .i64 r1.c]) ∧ Below W.heap.size W w') := fun W => by rw [h1, binA_comm 10 u.1 u.2.1 u.2.2 v.1 v.2.1 v.2.2 (by decide)]; exact c_implBV 10 v.1 v.2.1 v.2.2 u.1 u.2.1 u.2.2 W (SV.out) (SU.out)
          have CV : Hid (∀ W, Calls Try.prog 18 #[.agg #[.int .i64 r1.k, .int .i64 r1.n, .string ⟨#[]⟩]] W fun e w' => e = .returned (.bool true) ∧ Below W.heap.size W w') := fun W => by have C := c_implOK r1.k r1.n ⟨#[]⟩ W (Nat.zero_le _); rw [show valB r1.k r1.n ⟨#[]⟩ = true by rw [h1]; exact binA_ok _ _ _ _ _ _ _] at C; exact C
          have F3 : Hid (r3.c = 0 → r3 = ⟨0, 0, 0⟩) := fun hc => by rw [h3] at hc ⊢; exact binA_none 10 v.1 v.2.1 v.2.2 (by decide) hc
          clear h1 h3
          have nc : (r1.c != r1.c) = false := by simp
          have nk : (r1.k == r1.k) = true := by simp
          have nn : (r1.n == r1.n) = true := by simp
          have Bwr : Hid (Below w5.heap.size w5 wr) := BR
          obtain ⟨q0, q1, q2⟩ := box3 (GU.out.belowS Bwr.out)
          have ql := (GU.out.belowS Bwr.out).lt
          obtain ⟨p0, p1, p2⟩ := box3 (GV.out.belowS Bwr.out)
          have pl := (GV.out.belowS Bwr.out).lt
          go_wp2_with fail
          refine (C1.out wr).mono ?_
          rintro e x1a ⟨rfl, hb⟩
          have Bx1a : Hid (Below w5.heap.size w5 x1a) := Bwr.out.trans (hb.mono Bwr.out.size)
          clear hb
          clear q0 q1 q2 ql p0 p1 p2 pl
          obtain ⟨q0, q1, q2⟩ := box3 (GU.out.belowS Bx1a.out)
          have ql := (GU.out.belowS Bx1a.out).lt
          obtain ⟨p0, p1, p2⟩ := box3 (GV.out.belowS Bx1a.out)
          have pl := (GV.out.belowS Bx1a.out).lt
          go_wp2_with fail
          refine (C2.out (x1a.alloc (.cells #[.int .i64 r1.k, .int .i64 r1.n, .string ⟨#[]⟩] 25))).mono ?_
          rintro e x2a ⟨rfl, hb⟩
          have Bx2a : Hid (Below w5.heap.size w5 x2a) := (Bx1a.out.alloc Bx1a.out.size (.cells #[.int .i64 r1.k, .int .i64 r1.n, .string ⟨#[]⟩] 25)).trans (hb.mono (Bx1a.out.alloc Bx1a.out.size (.cells #[.int .i64 r1.k, .int .i64 r1.n, .string ⟨#[]⟩] 25)).size)
          have Mx2a : Hid (Box x2a x1a.heap.size 25 #[.int .i64 r1.k, .int .i64 r1.n, .string ⟨#[]⟩]) := (Box.new x1a #[.int .i64 r1.k, .int .i64 r1.n, .string ⟨#[]⟩] 25).belowS hb
          clear hb
          clear q0 q1 q2 ql p0 p1 p2 pl
          obtain ⟨q0, q1, q2⟩ := box3 (Mx2a.out)
          have ql := (Mx2a.out).lt
          go_wp2_with fail
          refine (CV.out (x2a.alloc (.cells #[.int .i64 r1.k, .int .i64 r1.n, .string ⟨#[]⟩] 25))).mono ?_
          rintro e x3a ⟨rfl, hb⟩
          have Bx3a : Hid (Below w5.heap.size w5 x3a) := (Bx2a.out.alloc Bx2a.out.size (.cells #[.int .i64 r1.k, .int .i64 r1.n, .string ⟨#[]⟩] 25)).trans (hb.mono (Bx2a.out.alloc Bx2a.out.size (.cells #[.int .i64 r1.k, .int .i64 r1.n, .string ⟨#[]⟩] 25)).size)
          have Mx3a : Hid (Box x3a x1a.heap.size 25 #[.int .i64 r1.k, .int .i64 r1.n, .string ⟨#[]⟩]) := (Mx2a.out.alloc _).belowS hb
          clear hb
          clear q0 q1 q2 ql
          obtain ⟨q0, q1, q2⟩ := box3 (GZ.out.belowS Bx3a.out)
          have ql := (GZ.out.belowS Bx3a.out).lt
          obtain ⟨p0, p1, p2⟩ := box3 (GV.out.belowS Bx3a.out)
          have pl := (GV.out.belowS Bx3a.out).lt
          go_wp2_with fail
          refine (C3.out x3a).mono ?_
          rintro e x4a ⟨rfl, hb⟩
          have Bx4a : Hid (Below w5.heap.size w5 x4a) := Bx3a.out.trans (hb.mono Bx3a.out.size)
          have Mx4a : Hid (Box x4a x1a.heap.size 25 #[.int .i64 r1.k, .int .i64 r1.n, .string ⟨#[]⟩]) := (Mx3a.out).belowS hb
          clear hb
          clear q0 q1 q2 ql p0 p1 p2 pl
          obtain ⟨q0, q1, q2⟩ := box3 (GZ.out.belowS Bx4a.out)
          have ql := (GZ.out.belowS Bx4a.out).lt
          obtain ⟨m0, m1, m2⟩ := box3 (Mx4a.out)
          have ml := (Mx4a.out).lt
          obtain ⟨p0, p1, p2⟩ := box3 (GV.out.belowS Bx4a.out)
          have pl := (GV.out.belowS Bx4a.out).lt
          obtain ⟨s0, s1, s2⟩ := box3 (GU.out.belowS Bx4a.out)
          have sl := (GU.out.belowS Bx4a.out).lt
          cases c3 : (r3.c == 0)
          · skip
            go_wp2_with fail
            refine (C4.out (x4a.alloc (.cells #[.int .i64 r3.k, .int .i64 r3.n, .string ⟨#[]⟩] 25))).mono ?_
            rintro e x5a ⟨rfl, hb⟩
            have Bx5a : Hid (Below w5.heap.size w5 x5a) := (Bx4a.out.alloc Bx4a.out.size (.cells #[.int .i64 r3.k, .int .i64 r3.n, .string ⟨#[]⟩] 25)).trans (hb.mono (Bx4a.out.alloc Bx4a.out.size (.cells #[.int .i64 r3.k, .int .i64 r3.n, .string ⟨#[]⟩] 25)).size)
            have Mx5a : Hid (Box x5a x1a.heap.size 25 #[.int .i64 r1.k, .int .i64 r1.n, .string ⟨#[]⟩]) := (Mx4a.out.alloc _).belowS hb
            clear hb q0 q1 q2 ql p0 p1 p2 pl m0 m1 m2 ml s0 s1 s2 sl
            obtain ⟨q0, q1, q2⟩ := box3 Mx5a.out
            have ql := Mx5a.out.lt
            go_wp2
            go_roundw
            case rel => exact ⟨11, by omega, by omega, rfl, Bx5a.out.alloc Bx5a.out.size _⟩
            case measure => simp [intOf]
          · obtain rfl := F3.out (by simpa using c3)
            go_wp2_with fail
            refine (C4.out (x4a.alloc (.cells #[.int .i64 0, .int .i64 0, .string ⟨#[]⟩] 25))).mono ?_
            rintro e x5a ⟨rfl, hb⟩
            have Bx5a : Hid (Below w5.heap.size w5 x5a) := (Bx4a.out.alloc Bx4a.out.size (.cells #[.int .i64 0, .int .i64 0, .string ⟨#[]⟩] 25)).trans (hb.mono (Bx4a.out.alloc Bx4a.out.size (.cells #[.int .i64 0, .int .i64 0, .string ⟨#[]⟩] 25)).size)
            have Mx5a : Hid (Box x5a x1a.heap.size 25 #[.int .i64 r1.k, .int .i64 r1.n, .string ⟨#[]⟩]) := (Mx4a.out.alloc _).belowS hb
            clear hb q0 q1 q2 ql p0 p1 p2 pl m0 m1 m2 ml s0 s1 s2 sl
            obtain ⟨q0, q1, q2⟩ := box3 Mx5a.out
            have ql := Mx5a.out.lt
            go_wp2
            go_roundw
            case rel => exact ⟨11, by omega, by omega, rfl, Bx5a.out.alloc Bx5a.out.size _⟩
            case measure => simp [intOf]
      · clear hj6 hj14 hlt
        as_aux_lemma =>
          obtain ⟨r1, h1⟩ : ∃ r, r = binA 11 u.1 u.2.1 u.2.2 v.1 v.2.1 v.2.2 := ⟨_, rfl⟩
          obtain ⟨r3, h3⟩ : ∃ r, r = binA 11 0 0 ⟨#[]⟩ v.1 v.2.1 v.2.2 := ⟨_, rfl⟩
          have C1 : Hid (∀ W, Calls Try.prog 15 #[.int .i64 11, .agg #[.int .i64 u.1, .int .i64 u.2.1, .string u.2.2], .agg #[.int .i64 v.1, .int .i64 v.2.1, .string v.2.2]] W fun e w' => e = .returned (.tuple #[.agg #[.int .i64 r1.k, .int .i64 r1.n, .string ⟨#[]⟩], .int .i64 r1.c]) ∧ Below W.heap.size W w') := fun W => by rw [h1]; exact c_implBV 11 u.1 u.2.1 u.2.2 v.1 v.2.1 v.2.2 W (SU.out) (SV.out)
          have C2 : Hid (∀ W, Calls Try.prog 13 #[.int .i64 11, .agg #[.int .i64 u.1, .int .i64 u.2.1, .string u.2.2], .agg #[.int .i64 v.1, .int .i64 v.2.1, .string v.2.2]] W fun e w' => e = .returned (.tuple #[.agg #[.int .i64 r1.k, .int .i64 r1.n, .string ⟨#[]⟩], .int .i64 r1.c]) ∧ Below W.heap.size W w') := fun W => by rw [h1]; exact c_specBV 11 u.1 u.2.1 u.2.2 v.1 v.2.1 v.2.2 W (SU.out) (SV.out)
          have C3 : Hid (∀ W, Calls Try.prog 15 #[.int .i64 11, .agg #[.int .i64 0, .int .i64 0, .string ⟨#[]⟩], .agg #[.int .i64 v.1, .int .i64 v.2.1, .string v.2.2]] W fun e w' => e = .returned (.tuple #[.agg #[.int .i64 r3.k, .int .i64 r3.n, .string ⟨#[]⟩], .int .i64 r3.c]) ∧ Below W.heap.size W w') := fun W => by rw [h3]; exact c_implBV 11 0 0 ⟨#[]⟩ v.1 v.2.1 v.2.2 W (Nat.zero_le _) (SV.out)
          have CV : Hid (∀ W, Calls Try.prog 18 #[.agg #[.int .i64 r1.k, .int .i64 r1.n, .string ⟨#[]⟩]] W fun e w' => e = .returned (.bool true) ∧ Below W.heap.size W w') := fun W => by have C := c_implOK r1.k r1.n ⟨#[]⟩ W (Nat.zero_le _); rw [show valB r1.k r1.n ⟨#[]⟩ = true by rw [h1]; exact binA_ok _ _ _ _ _ _ _] at C; exact C
          have F3 : Hid (r3.c = 0 → r3 = ⟨0, 0, 0⟩) := fun hc => by rw [h3] at hc ⊢; exact binA_none 11 v.1 v.2.1 v.2.2 (by decide) hc
          clear h1 h3
          have nc : (r1.c != r1.c) = false := by simp
          have nk : (r1.k == r1.k) = true := by simp
          have nn : (r1.n == r1.n) = true := by simp
          have Bwr : Hid (Below w5.heap.size w5 wr) := BR
          obtain ⟨q0, q1, q2⟩ := box3 (GU.out.belowS Bwr.out)
          have ql := (GU.out.belowS Bwr.out).lt
          obtain ⟨p0, p1, p2⟩ := box3 (GV.out.belowS Bwr.out)
          have pl := (GV.out.belowS Bwr.out).lt
          go_wp2_with fail
          refine (C1.out wr).mono ?_
          rintro e x1a ⟨rfl, hb⟩
          have Bx1a : Hid (Below w5.heap.size w5 x1a) := Bwr.out.trans (hb.mono Bwr.out.size)
          clear hb
          clear q0 q1 q2 ql p0 p1 p2 pl
          obtain ⟨q0, q1, q2⟩ := box3 (GU.out.belowS Bx1a.out)
          have ql := (GU.out.belowS Bx1a.out).lt
          obtain ⟨p0, p1, p2⟩ := box3 (GV.out.belowS Bx1a.out)
          have pl := (GV.out.belowS Bx1a.out).lt
          go_wp2_with fail
          refine (C2.out (x1a.alloc (.cells #[.int .i64 r1.k, .int .i64 r1.n, .string ⟨#[]⟩] 25))).mono ?_
          rintro e x2a ⟨rfl, hb⟩
          have Bx2a : Hid (Below w5.heap.size w5 x2a) := (Bx1a.out.alloc Bx1a.out.size (.cells #[.int .i64 r1.k, .int .i64 r1.n, .string ⟨#[]⟩] 25)).trans (hb.mono (Bx1a.out.alloc Bx1a.out.size (.cells #[.int .i64 r1.k, .int .i64 r1.n, .string ⟨#[]⟩] 25)).size)
          have Mx2a : Hid (Box x2a x1a.heap.size 25 #[.int .i64 r1.k, .int .i64 r1.n, .string ⟨#[]⟩]) := (Box.new x1a #[.int .i64 r1.k, .int .i64 r1.n, .string ⟨#[]⟩] 25).belowS hb
          clear hb
          clear q0 q1 q2 ql p0 p1 p2 pl
          obtain ⟨q0, q1, q2⟩ := box3 (Mx2a.out)
          have ql := (Mx2a.out).lt
          go_wp2_with fail
          refine (CV.out (x2a.alloc (.cells #[.int .i64 r1.k, .int .i64 r1.n, .string ⟨#[]⟩] 25))).mono ?_
          rintro e x3a ⟨rfl, hb⟩
          have Bx3a : Hid (Below w5.heap.size w5 x3a) := (Bx2a.out.alloc Bx2a.out.size (.cells #[.int .i64 r1.k, .int .i64 r1.n, .string ⟨#[]⟩] 25)).trans (hb.mono (Bx2a.out.alloc Bx2a.out.size (.cells #[.int .i64 r1.k, .int .i64 r1.n, .string ⟨#[]⟩] 25)).size)
          have Mx3a : Hid (Box x3a x1a.heap.size 25 #[.int .i64 r1.k, .int .i64 r1.n, .string ⟨#[]⟩]) := (Mx2a.out.alloc _).belowS hb
          clear hb
          clear q0 q1 q2 ql
          obtain ⟨q0, q1, q2⟩ := box3 (GZ.out.belowS Bx3a.out)
          have ql := (GZ.out.belowS Bx3a.out).lt
          obtain ⟨p0, p1, p2⟩ := box3 (GV.out.belowS Bx3a.out)
          have pl := (GV.out.belowS Bx3a.out).lt
          go_wp2_with fail
          refine (C3.out x3a).mono ?_
          rintro e x4a ⟨rfl, hb⟩
          have Bx4a : Hid (Below w5.heap.size w5 x4a) := Bx3a.out.trans (hb.mono Bx3a.out.size)
          have Mx4a : Hid (Box x4a x1a.heap.size 25 #[.int .i64 r1.k, .int .i64 r1.n, .string ⟨#[]⟩]) := (Mx3a.out).belowS hb
          clear hb
          clear q0 q1 q2 ql p0 p1 p2 pl
          obtain ⟨q0, q1, q2⟩ := box3 (GZ.out.belowS Bx4a.out)
          have ql := (GZ.out.belowS Bx4a.out).lt
          obtain ⟨m0, m1, m2⟩ := box3 (Mx4a.out)
          have ml := (Mx4a.out).lt
          obtain ⟨p0, p1, p2⟩ := box3 (GV.out.belowS Bx4a.out)
          have pl := (GV.out.belowS Bx4a.out).lt
          obtain ⟨s0, s1, s2⟩ := box3 (GU.out.belowS Bx4a.out)
          have sl := (GU.out.belowS Bx4a.out).lt
          cases c3 : (r3.c == 0)
          · skip
            clear m0 m1 m2 ml p0 p1 p2 pl s0 s1 s2 sl
            go_wp2
            go_roundw
            case rel => exact ⟨12, by omega, by omega, rfl, Bx4a.out.alloc Bx4a.out.size _⟩
            case measure => simp [intOf]
          · obtain rfl := F3.out (by simpa using c3)
            clear m0 m1 m2 ml p0 p1 p2 pl s0 s1 s2 sl
            go_wp2
            go_roundw
            case rel => exact ⟨12, by omega, by omega, rfl, Bx4a.out.alloc Bx4a.out.size _⟩
            case measure => simp [intOf]
      · clear hj6 hj14 hlt
        as_aux_lemma =>
          obtain ⟨r1, h1⟩ : ∃ r, r = binA 12 u.1 u.2.1 u.2.2 v.1 v.2.1 v.2.2 := ⟨_, rfl⟩
          obtain ⟨r3, h3⟩ : ∃ r, r = binA 12 0 0 ⟨#[]⟩ v.1 v.2.1 v.2.2 := ⟨_, rfl⟩
          have C1 : Hid (∀ W, Calls Try.prog 15 #[.int .i64 12, .agg #[.int .i64 u.1, .int .i64 u.2.1, .string u.2.2], .agg #[.int .i64 v.1, .int .i64 v.2.1, .string v.2.2]] W fun e w' => e = .returned (.tuple #[.agg #[.int .i64 r1.k, .int .i64 r1.n, .string ⟨#[]⟩], .int .i64 r1.c]) ∧ Below W.heap.size W w') := fun W => by rw [h1]; exact c_implBV 12 u.1 u.2.1 u.2.2 v.1 v.2.1 v.2.2 W (SU.out) (SV.out)
          have C2 : Hid (∀ W, Calls Try.prog 13 #[.int .i64 12, .agg #[.int .i64 u.1, .int .i64 u.2.1, .string u.2.2], .agg #[.int .i64 v.1, .int .i64 v.2.1, .string v.2.2]] W fun e w' => e = .returned (.tuple #[.agg #[.int .i64 r1.k, .int .i64 r1.n, .string ⟨#[]⟩], .int .i64 r1.c]) ∧ Below W.heap.size W w') := fun W => by rw [h1]; exact c_specBV 12 u.1 u.2.1 u.2.2 v.1 v.2.1 v.2.2 W (SU.out) (SV.out)
          have C3 : Hid (∀ W, Calls Try.prog 15 #[.int .i64 12, .agg #[.int .i64 0, .int .i64 0, .string ⟨#[]⟩], .agg #[.int .i64 v.1, .int .i64 v.2.1, .string v.2.2]] W fun e w' => e = .returned (.tuple #[.agg #[.int .i64 r3.k, .int .i64 r3.n, .string ⟨#[]⟩], .int .i64 r3.c]) ∧ Below W.heap.size W w') := fun W => by rw [h3]; exact c_implBV 12 0 0 ⟨#[]⟩ v.1 v.2.1 v.2.2 W (Nat.zero_le _) (SV.out)
          have C4 : Hid (∀ W, Calls Try.prog 15 #[.int .i64 12, .agg #[.int .i64 v.1, .int .i64 v.2.1, .string v.2.2], .agg #[.int .i64 u.1, .int .i64 u.2.1, .string u.2.2]] W fun e w' => e = .returned (.tuple #[.agg #[.int .i64 r1.k, .int .i64 r1.n, .string ⟨#[]⟩], .int .i64 r1.c]) ∧ Below W.heap.size W w') := fun W => by rw [h1, binA_comm 12 u.1 u.2.1 u.2.2 v.1 v.2.1 v.2.2 (by decide)]; exact c_implBV 12 v.1 v.2.1 v.2.2 u.1 u.2.1 u.2.2 W (SV.out) (SU.out)
          have CV : Hid (∀ W, Calls Try.prog 18 #[.agg #[.int .i64 r1.k, .int .i64 r1.n, .string ⟨#[]⟩]] W fun e w' => e = .returned (.bool true) ∧ Below W.heap.size W w') := fun W => by have C := c_implOK r1.k r1.n ⟨#[]⟩ W (Nat.zero_le _); rw [show valB r1.k r1.n ⟨#[]⟩ = true by rw [h1]; exact binA_ok _ _ _ _ _ _ _] at C; exact C
          clear h1 h3
          have nc : (r1.c != r1.c) = false := by simp
          have nk : (r1.k == r1.k) = true := by simp
          have nn : (r1.n == r1.n) = true := by simp
          have Bwr : Hid (Below w5.heap.size w5 wr) := BR
          obtain ⟨q0, q1, q2⟩ := box3 (GU.out.belowS Bwr.out)
          have ql := (GU.out.belowS Bwr.out).lt
          obtain ⟨p0, p1, p2⟩ := box3 (GV.out.belowS Bwr.out)
          have pl := (GV.out.belowS Bwr.out).lt
          go_wp2_with fail
          refine (C1.out wr).mono ?_
          rintro e x1a ⟨rfl, hb⟩
          have Bx1a : Hid (Below w5.heap.size w5 x1a) := Bwr.out.trans (hb.mono Bwr.out.size)
          clear hb
          clear q0 q1 q2 ql p0 p1 p2 pl
          obtain ⟨q0, q1, q2⟩ := box3 (GU.out.belowS Bx1a.out)
          have ql := (GU.out.belowS Bx1a.out).lt
          obtain ⟨p0, p1, p2⟩ := box3 (GV.out.belowS Bx1a.out)
          have pl := (GV.out.belowS Bx1a.out).lt
          go_wp2_with fail
          refine (C2.out (x1a.alloc (.cells #[.int .i64 r1.k, .int .i64 r1.n, .string ⟨#[]⟩] 25))).mono ?_
          rintro e x2a ⟨rfl, hb⟩
          have Bx2a : Hid (Below w5.heap.size w5 x2a) := (Bx1a.out.alloc Bx1a.out.size (.cells #[.int .i64 r1.k, .int .i64 r1.n, .string ⟨#[]⟩] 25)).trans (hb.mono (Bx1a.out.alloc Bx1a.out.size (.cells #[.int .i64 r1.k, .int .i64 r1.n, .string ⟨#[]⟩] 25)).size)
          have Mx2a : Hid (Box x2a x1a.heap.size 25 #[.int .i64 r1.k, .int .i64 r1.n, .string ⟨#[]⟩]) := (Box.new x1a #[.int .i64 r1.k, .int .i64 r1.n, .string ⟨#[]⟩] 25).belowS hb
          clear hb
          clear q0 q1 q2 ql p0 p1 p2 pl
          obtain ⟨q0, q1, q2⟩ := box3 (Mx2a.out)
          have ql := (Mx2a.out).lt
          go_wp2_with fail
          refine (CV.out (x2a.alloc (.cells #[.int .i64 r1.k, .int .i64 r1.n, .string ⟨#[]⟩] 25))).mono ?_
          rintro e x3a ⟨rfl, hb⟩
          have Bx3a : Hid (Below w5.heap.size w5 x3a) := (Bx2a.out.alloc Bx2a.out.size (.cells #[.int .i64 r1.k, .int .i64 r1.n, .string ⟨#[]⟩] 25)).trans (hb.mono (Bx2a.out.alloc Bx2a.out.size (.cells #[.int .i64 r1.k, .int .i64 r1.n, .string ⟨#[]⟩] 25)).size)
          have Mx3a : Hid (Box x3a x1a.heap.size 25 #[.int .i64 r1.k, .int .i64 r1.n, .string ⟨#[]⟩]) := (Mx2a.out.alloc _).belowS hb
          clear hb
          clear q0 q1 q2 ql
          obtain ⟨q0, q1, q2⟩ := box3 (GZ.out.belowS Bx3a.out)
          have ql := (GZ.out.belowS Bx3a.out).lt
          obtain ⟨p0, p1, p2⟩ := box3 (GV.out.belowS Bx3a.out)
          have pl := (GV.out.belowS Bx3a.out).lt
          go_wp2_with fail
          refine (C3.out x3a).mono ?_
          rintro e x4a ⟨rfl, hb⟩
          have Bx4a : Hid (Below w5.heap.size w5 x4a) := Bx3a.out.trans (hb.mono Bx3a.out.size)
          have Mx4a : Hid (Box x4a x1a.heap.size 25 #[.int .i64 r1.k, .int .i64 r1.n, .string ⟨#[]⟩]) := (Mx3a.out).belowS hb
          clear hb
          clear q0 q1 q2 ql p0 p1 p2 pl
          obtain ⟨q0, q1, q2⟩ := box3 (GZ.out.belowS Bx4a.out)
          have ql := (GZ.out.belowS Bx4a.out).lt
          obtain ⟨m0, m1, m2⟩ := box3 (Mx4a.out)
          have ml := (Mx4a.out).lt
          obtain ⟨p0, p1, p2⟩ := box3 (GV.out.belowS Bx4a.out)
          have pl := (GV.out.belowS Bx4a.out).lt
          obtain ⟨s0, s1, s2⟩ := box3 (GU.out.belowS Bx4a.out)
          have sl := (GU.out.belowS Bx4a.out).lt
          go_wp2_with fail
          refine (C4.out (x4a.alloc (.cells #[.int .i64 r3.k, .int .i64 r3.n, .string ⟨#[]⟩] 25))).mono ?_
          rintro e x5a ⟨rfl, hb⟩
          have Bx5a : Hid (Below w5.heap.size w5 x5a) := (Bx4a.out.alloc Bx4a.out.size (.cells #[.int .i64 r3.k, .int .i64 r3.n, .string ⟨#[]⟩] 25)).trans (hb.mono (Bx4a.out.alloc Bx4a.out.size (.cells #[.int .i64 r3.k, .int .i64 r3.n, .string ⟨#[]⟩] 25)).size)
          have Mx5a : Hid (Box x5a x1a.heap.size 25 #[.int .i64 r1.k, .int .i64 r1.n, .string ⟨#[]⟩]) := (Mx4a.out.alloc _).belowS hb
          clear hb q0 q1 q2 ql p0 p1 p2 pl m0 m1 m2 ml s0 s1 s2 sl
          obtain ⟨q0, q1, q2⟩ := box3 Mx5a.out
          have ql := Mx5a.out.lt
          go_wp2
          go_roundw
          case rel => exact ⟨13, by omega, by omega, rfl, Bx5a.out.alloc Bx5a.out.size _⟩
          case measure => simp [intOf]
      · clear hj6 hj14 hlt
        as_aux_lemma =>
          obtain ⟨r1, h1⟩ : ∃ r, r = binA 13 u.1 u.2.1 u.2.2 v.1 v.2.1 v.2.2 := ⟨_, rfl⟩
          obtain ⟨r3, h3⟩ : ∃ r, r = binA 13 0 0 ⟨#[]⟩ v.1 v.2.1 v.2.2 := ⟨_, rfl⟩
          have C1 : Hid (∀ W, Calls Try.prog 15 #[.int .i64 13, .agg #[.int .i64 u.1, .int .i64 u.2.1, .string u.2.2], .agg #[.int .i64 v.1, .int .i64 v.2.1, .string v.2.2]] W fun e w' => e = .returned (.tuple #[.agg #[.int .i64 r1.k, .int .i64 r1.n, .string ⟨#[]⟩], .int .i64 r1.c]) ∧ Below W.heap.size W w') := fun W => by rw [h1]; exact c_implBV 13 u.1 u.2.1 u.2.2 v.1 v.2.1 v.2.2 W (SU.out) (SV.out)
          have C2 : Hid (∀ W, Calls Try.prog 13 #[.int .i64 13, .agg #[.int .i64 u.1, .int .i64 u.2.1, .string u.2.2], .agg #[.int .i64 v.1, .int .i64 v.2.1, .string v.2.2]] W fun e w' => e = .returned (.tuple #[.agg #[.int .i64 r1.k, .int .i64 r1.n, .string ⟨#[]⟩], .int .i64 r1.c]) ∧ Below W.heap.size W w') := fun W => by rw [h1]; exact c_specBV 13 u.1 u.2.1 u.2.2 v.1 v.2.1 v.2.2 W (SU.out) (SV.out)
          have C3 : Hid (∀ W, Calls Try.prog 15 #[.int .i64 13, .agg #[.int .i64 0, .int .i64 0, .string ⟨#[]⟩], .agg #[.int .i64 v.1, .int .i64 v.2.1, .string v.2.2]] W fun e w' => e = .returned (.tuple #[.agg #[.int .i64 r3.k, .int .i64 r3.n, .string ⟨#[]⟩], .int .i64 r3.c]) ∧ Below W.heap.size W w') := fun W => by rw [h3]; exact c_implBV 13 0 0 ⟨#[]⟩ v.1 v.2.1 v.2.2 W (Nat.zero_le _) (SV.out)
          have C4 : Hid (∀ W, Calls Try.prog 15 #[.int .i64 13, .agg #[.int .i64 v.1, .int .i64 v.2.1, .string v.2.2], .agg #[.int .i64 u.1, .int .i64 u.2.1, .string u.2.2]] W fun e w' => e = .returned (.tuple #[.agg #[.int .i64 r1.k, .int .i64 r1.n, .string ⟨#[]⟩], .int .i64 r1.c]) ∧ Below W.heap.size W w') := fun W => by rw [h1, binA_comm 13 u.1 u.2.1 u.2.2 v.1 v.2.1 v.2.2 (by decide)]; exact c_implBV 13 v.1 v.2.1 v.2.2 u.1 u.2.1 u.2.2 W (SV.out) (SU.out)
          have CV : Hid (∀ W, Calls Try.prog 18 #[.agg #[.int .i64 r1.k, .int .i64 r1.n, .string ⟨#[]⟩]] W fun e w' => e = .returned (.bool true) ∧ Below W.heap.size W w') := fun W => by have C := c_implOK r1.k r1.n ⟨#[]⟩ W (Nat.zero_le _); rw [show valB r1.k r1.n ⟨#[]⟩ = true by rw [h1]; exact binA_ok _ _ _ _ _ _ _] at C; exact C
          clear h1 h3
          have nc : (r1.c != r1.c) = false := by simp
          have nk : (r1.k == r1.k) = true := by simp
          have nn : (r1.n == r1.n) = true := by simp
          have Bwr : Hid (Below w5.heap.size w5 wr) := BR
          obtain ⟨q0, q1, q2⟩ := box3 (GU.out.belowS Bwr.out)
          have ql := (GU.out.belowS Bwr.out).lt
          obtain ⟨p0, p1, p2⟩ := box3 (GV.out.belowS Bwr.out)
          have pl := (GV.out.belowS Bwr.out).lt
          go_wp2_with fail
          refine (C1.out wr).mono ?_
          rintro e x1a ⟨rfl, hb⟩
          have Bx1a : Hid (Below w5.heap.size w5 x1a) := Bwr.out.trans (hb.mono Bwr.out.size)
          clear hb
          clear q0 q1 q2 ql p0 p1 p2 pl
          obtain ⟨q0, q1, q2⟩ := box3 (GU.out.belowS Bx1a.out)
          have ql := (GU.out.belowS Bx1a.out).lt
          obtain ⟨p0, p1, p2⟩ := box3 (GV.out.belowS Bx1a.out)
          have pl := (GV.out.belowS Bx1a.out).lt
          go_wp2_with fail
          refine (C2.out (x1a.alloc (.cells #[.int .i64 r1.k, .int .i64 r1.n, .string ⟨#[]⟩] 25))).mono ?_
          rintro e x2a ⟨rfl, hb⟩
          have Bx2a : Hid (Below w5.heap.size w5 x2a) := (Bx1a.out.alloc Bx1a.out.size (.cells #[.int .i64 r1.k, .int .i64 r1.n, .string ⟨#[]⟩] 25)).trans (hb.mono (Bx1a.out.alloc Bx1a.out.size (.cells #[.int .i64 r1.k, .int .i64 r1.n, .string ⟨#[]⟩] 25)).size)
          have Mx2a : Hid (Box x2a x1a.heap.size 25 #[.int .i64 r1.k, .int .i64 r1.n, .string ⟨#[]⟩]) := (Box.new x1a #[.int .i64 r1.k, .int .i64 r1.n, .string ⟨#[]⟩] 25).belowS hb
          clear hb
          clear q0 q1 q2 ql p0 p1 p2 pl
          obtain ⟨q0, q1, q2⟩ := box3 (Mx2a.out)
          have ql := (Mx2a.out).lt
          go_wp2_with fail
          refine (CV.out (x2a.alloc (.cells #[.int .i64 r1.k, .int .i64 r1.n, .string ⟨#[]⟩] 25))).mono ?_
          rintro e x3a ⟨rfl, hb⟩
          have Bx3a : Hid (Below w5.heap.size w5 x3a) := (Bx2a.out.alloc Bx2a.out.size (.cells #[.int .i64 r1.k, .int .i64 r1.n, .string ⟨#[]⟩] 25)).trans (hb.mono (Bx2a.out.alloc Bx2a.out.size (.cells #[.int .i64 r1.k, .int .i64 r1.n, .string ⟨#[]⟩] 25)).size)
          have Mx3a : Hid (Box x3a x1a.heap.size 25 #[.int .i64 r1.k, .int .i64 r1.n, .string ⟨#[]⟩]) := (Mx2a.out.alloc _).belowS hb
          clear hb
          clear q0 q1 q2 ql
          obtain ⟨q0, q1, q2⟩ := box3 (GZ.out.belowS Bx3a.out)
          have ql := (GZ.out.belowS Bx3a.out).lt
          obtain ⟨p0, p1, p2⟩ := box3 (GV.out.belowS Bx3a.out)
          have pl := (GV.out.belowS Bx3a.out).lt
          go_wp2_with fail
          refine (C3.out x3a).mono ?_
          rintro e x4a ⟨rfl, hb⟩
          have Bx4a : Hid (Below w5.heap.size w5 x4a) := Bx3a.out.trans (hb.mono Bx3a.out.size)
          have Mx4a : Hid (Box x4a x1a.heap.size 25 #[.int .i64 r1.k, .int .i64 r1.n, .string ⟨#[]⟩]) := (Mx3a.out).belowS hb
          clear hb
          clear q0 q1 q2 ql p0 p1 p2 pl
          obtain ⟨q0, q1, q2⟩ := box3 (GZ.out.belowS Bx4a.out)
          have ql := (GZ.out.belowS Bx4a.out).lt
          obtain ⟨m0, m1, m2⟩ := box3 (Mx4a.out)
          have ml := (Mx4a.out).lt
          obtain ⟨p0, p1, p2⟩ := box3 (GV.out.belowS Bx4a.out)
          have pl := (GV.out.belowS Bx4a.out).lt
          obtain ⟨s0, s1, s2⟩ := box3 (GU.out.belowS Bx4a.out)
          have sl := (GU.out.belowS Bx4a.out).lt
          go_wp2_with fail
          refine (C4.out (x4a.alloc (.cells #[.int .i64 r3.k, .int .i64 r3.n, .string ⟨#[]⟩] 25))).mono ?_
          rintro e x5a ⟨rfl, hb⟩
          have Bx5a : Hid (Below w5.heap.size w5 x5a) := (Bx4a.out.alloc Bx4a.out.size (.cells #[.int .i64 r3.k, .int .i64 r3.n, .string ⟨#[]⟩] 25)).trans (hb.mono (Bx4a.out.alloc Bx4a.out.size (.cells #[.int .i64 r3.k, .int .i64 r3.n, .string ⟨#[]⟩] 25)).size)
          have Mx5a : Hid (Box x5a x1a.heap.size 25 #[.int .i64 r1.k, .int .i64 r1.n, .string ⟨#[]⟩]) := (Mx4a.out.alloc _).belowS hb
          clear hb q0 q1 q2 ql p0 p1 p2 pl m0 m1 m2 ml s0 s1 s2 sl
          obtain ⟨q0, q1, q2⟩ := box3 Mx5a.out
          have ql := Mx5a.out.lt
          go_wp2
          go_roundw
          case rel => exact ⟨14, by omega, by omega, rfl, Bx5a.out.alloc Bx5a.out.size _⟩
          case measure => simp [intOf]
    · go_wp2
      go_ret
      exact ⟨rfl, B5.out.trans (BR.out.mono B5.out.size)⟩

end Go.Proofs.Ytkfkhfagehcmiaa
