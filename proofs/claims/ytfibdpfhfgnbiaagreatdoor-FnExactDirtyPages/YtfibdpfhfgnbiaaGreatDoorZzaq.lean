/-
  What a right lock is, on both sides.
-/
import Derived.Test.YtfibdpfhfgnbiaaGreatDoorZzao
import Derived.Deep.QuietTactic
namespace Go.Proofs.YtfibdpfhfgnbiaaGreatDoor.L
open Go Go.RowKit
attribute [local go_sem ↓] Go.wp_at_zero Go.wp_at_succ

abbrev B64 := BitVec 64
def uV (b : B64) : Value := .int .u64 (b.toNat : Int)
def bitT (x : Int) : B64 := 1#64 <<< x.toNat
theorem ofInt_toNat (b : B64) : BitVec.ofInt 64 (b.toNat : Int) = b := by rw [BitVec.ofInt_natCast, BitVec.ofNat_toNat, BitVec.setWidth_eq]
theorem wrap_u (b : B64) : IntKind.u64.wrap (b.toNat : Int) = (b.toNat : Int) := by
  have := b.isLt
  simp [IntKind.wrap, IntKind.bits, IntKind.signed]
  omega
def orT (a b : B64) : B64 := a ||| b
def andT (a b : B64) : B64 := a &&& b
def subT (a b : B64) : B64 := a &&& ~~~b
theorem bits_and (a b : B64) : bits .and .u64 (a.toNat : Int) (b.toNat : Int) = ((andT a b).toNat : Int) := by
  show IntKind.u64.wrap ((BitVec.ofInt 64 (a.toNat : Int) &&& BitVec.ofInt 64 (b.toNat : Int)).toNat : Int) = _
  rw [ofInt_toNat, ofInt_toNat, wrap_u]; rfl
theorem bits_or (a b : B64) : bits .or .u64 (a.toNat : Int) (b.toNat : Int) = ((orT a b).toNat : Int) := by
  show IntKind.u64.wrap ((BitVec.ofInt 64 (a.toNat : Int) ||| BitVec.ofInt 64 (b.toNat : Int)).toNat : Int) = _
  rw [ofInt_toNat, ofInt_toNat, wrap_u]; rfl
theorem bits_andNot (a b : B64) : bits .andNot .u64 (a.toNat : Int) (b.toNat : Int) = ((subT a b).toNat : Int) := by
  show IntKind.u64.wrap ((BitVec.ofInt 64 (a.toNat : Int) &&& ~~~(BitVec.ofInt 64 (b.toNat : Int))).toNat : Int) = _
  rw [ofInt_toNat, ofInt_toNat, wrap_u]; rfl
theorem shl_bit : ∀ n : Fin 64, IntKind.u64.wrap (2 ^ n.val) = ((1#64 <<< n.val).toNat : Int) := by decide
theorem bitT_toNat {x : Int} (h0 : 0 ≤ x) (h1 : x < 64) : IntKind.u64.wrap (2 ^ min x.toNat 64) = ((bitT x).toNat : Int) := by
  have hm : min x.toNat 64 = x.toNat := by omega
  rw [hm]
  exact shl_bit ⟨x.toNat, by omega⟩
def inT (b : B64) (x : Int) : Bool := b.getLsbD x.toNat
theorem inT_bit {x : Int} (h0 : 0 ≤ x) (h1 : x < 64) (y : Int) (hy : 0 ≤ y) : inT (bitT x) y = decide (x = y) := by
  unfold inT bitT
  rw [BitVec.getLsbD_shiftLeft, BitVec.getLsbD_one]
  by_cases h : x = y
  · subst h; simp; omega
  · rw [decide_eq_false h]
    by_cases hl : y.toNat < x.toNat
    · simp [hl]
    · have : y.toNat - x.toNat ≠ 0 := by omega
      simp [this]
theorem and_bit {b : B64} {x : Int} (h0 : 0 ≤ x) (h1 : x < 64) : ((((b &&& bitT x).toNat : Nat) : Int) != 0) = inT b x := by
  cases h : inT b x
  · have : b &&& bitT x = 0#64 := by
      apply BitVec.eq_of_getLsbD_eq
      intro i hi
      rw [BitVec.getLsbD_and, BitVec.getLsbD_zero]
      have := inT_bit h0 h1 (i : Int) (by omega)
      unfold inT at this h
      rw [Int.toNat_natCast] at this
      rw [this]
      by_cases hx : x = (i : Int)
      · rw [hx, Int.toNat_natCast] at h; rw [h]; rfl
      · rw [decide_eq_false hx, Bool.and_false]
    rw [this]; rfl
  · rw [bne_iff_ne]
    intro e
    have e2 : b &&& bitT x = 0#64 := BitVec.eq_of_toNat_eq (by simpa using e)
    have := congrArg (fun z => z.getLsbD x.toNat) e2
    simp only [BitVec.getLsbD_and, BitVec.getLsbD_zero] at this
    have hb := inT_bit h0 h1 x h0
    unfold inT at hb h
    rw [h, hb] at this
    simp at this
theorem ne_zero {b : B64} : (((b.toNat : Nat) : Int) != 0) = decide (b ≠ 0#64) := by
  by_cases h : b = 0#64
  · subst h; rfl
  · have : (b.toNat : Int) ≠ 0 := fun e => h (BitVec.eq_of_toNat_eq (by simpa using e))
    rw [decide_eq_true h, bne_iff_ne]; exact this
def fitB (a b : Int) : Bool := if a = 4 ∨ b = 4 then false else if a = 1 ∨ b = 1 then true else decide (a = b)
def FitH (w : World) : Prop := w.cell? ⟨6, 0, none⟩ = some (.int .u8 0) ∧ w.cell? ⟨6, 1, none⟩ = some (.int .u8 14) ∧ w.cell? ⟨6, 2, none⟩ = some (.int .u8 6) ∧ w.cell? ⟨6, 3, none⟩ = some (.int .u8 10) ∧ w.cell? ⟨6, 4, none⟩ = some (.int .u8 0)
theorem FitH.lt {w : World} (h : FitH w) : 6 < w.heap.size := World.block_lt_of_cell? w ⟨6, 0, none⟩ h.1
theorem FitH.belowB {w w' : World} {B : Nat} (h : FitH w) (hb : Below B w w') (hB : 6 < B) : FitH w' :=
  ⟨(hb.cell (p := ⟨6, 0, none⟩) hB).trans h.1, (hb.cell (p := ⟨6, 1, none⟩) hB).trans h.2.1, (hb.cell (p := ⟨6, 2, none⟩) hB).trans h.2.2.1, (hb.cell (p := ⟨6, 3, none⟩) hB).trans h.2.2.2.1, (hb.cell (p := ⟨6, 4, none⟩) hB).trans h.2.2.2.2⟩
theorem FitH.below {w w' : World} (h : FitH w) (hb : Below w.heap.size w w') : FitH w' := h.belowB hb h.lt
set_option maxRecDepth 100000 in
set_option maxHeartbeats 4000000 in
theorem c_setOf (x : Int) (w : World) (h0 : 0 ≤ x) (h1 : x < 64) :
    Calls Tryz.prog 134 #[.int .i64 x] w fun e w' => e = .returned (uV (bitT x)) ∧ w' = w := by
  have E : Hid (IntKind.u64.wrap (2 ^ x.toNat) = ((bitT x).toNat : Int)) := by have := bitT_toNat h0 h1; rwa [show min x.toNat 64 = x.toNat by omega] at this
  go_enter Tryz.func134, Tryz.ntmps134
  go_wp2
  go_ret
  exact ⟨congrArg (fun z => Ending.returned (Value.int .u64 z)) E.out, rfl⟩
set_option maxRecDepth 100000 in
set_option maxHeartbeats 4000000 in
theorem c_has (s : B64) (x : Int) (w : World) (h0 : 0 ≤ x) (h1 : x < 64) :
    Calls Tryz.prog 137 #[.int .u64 (s.toNat : Int), .int .i64 x] w fun e w' => e = .returned (.bool (inT s x)) ∧ w' = w := by
  have E : Hid (((((andT s (bitT x)).toNat : Nat) : Int) != 0) = inT s x) := and_bit h0 h1
  have C := c_setOf x w h0 h1
  have hb := bits_and s (bitT x)
  go_enter Tryz.func137, Tryz.ntmps137
  go_wp2_with fail
  refine C.mono ?_
  rintro e w1 ⟨rfl, rfl⟩
  unfold uV
  go_wp2
  go_ret
  exact ⟨ret_bool E.out, rfl⟩
set_option maxRecDepth 100000 in
set_option maxHeartbeats 4000000 in
theorem c_modesFit (a b : Int) (w : World) (ht : FitH w) (ha : 1 ≤ a ∧ a ≤ 4) (hb : 1 ≤ b ∧ b ≤ 4) :
    Calls Tryz.prog 274 #[.int .i64 a, .int .i64 b] w fun e w' => e = .returned (.bool (fitB a b)) ∧ Below w.heap.size w w' := by
  obtain ⟨t0, t1, t2, t3, t4⟩ := ht
  have ha' : a = 1 ∨ a = 2 ∨ a = 3 ∨ a = 4 := by omega
  have hb' : b = 1 ∨ b = 2 ∨ b = 3 ∨ b = 4 := by omega
  clear ha hb
  rcases ha' with rfl | rfl | rfl | rfl <;> rcases hb' with rfl | rfl | rfl | rfl
  all_goals
    go_enter Tryz.func274, Tryz.ntmps274
    go_wp2_with fail
    go_quiet (fail)
    go_wp2
    go_ret
    exact ⟨rfl, below_drewN (Below.refl _ _) nq⟩
set_option maxRecDepth 100000 in
set_option maxHeartbeats 4000000 in
theorem c_isMode (x : Int) (w : World) : Calls Tryz.prog 273 #[.int .i64 x] w fun e w' => e = .returned (.bool (inB x 1 4)) ∧ w' = w := by
  by_cases h1 : 1 ≤ x
  · by_cases h2 : x ≤ 4
    · go_enter Tryz.func273, Tryz.ntmps273
      go_wp2
      go_ret
      exact ⟨ret_bool (by unfold inB; rw [decide_eq_true ⟨h1, h2⟩]), rfl⟩
    · go_enter Tryz.func273, Tryz.ntmps273
      go_wp2
      go_ret
      exact ⟨ret_bool (by unfold inB; rw [decide_eq_false (fun h => by omega)]), rfl⟩
  · go_enter Tryz.func273, Tryz.ntmps273
    go_wp2
    go_ret
    exact ⟨ret_bool (by unfold inB; rw [decide_eq_false (fun h => by omega)]), rfl⟩
set_option maxRecDepth 100000 in
set_option maxHeartbeats 4000000 in
theorem c_isTx (x : Int) (w : World) : Calls Tryz.prog 215 #[.int .i64 x] w fun e w' => e = .returned (.bool (inB x 1 60)) ∧ w' = w := by
  by_cases h1 : 1 ≤ x
  · by_cases h2 : x ≤ 60
    · go_enter Tryz.func215, Tryz.ntmps215
      go_wp2
      go_ret
      exact ⟨ret_bool (by unfold inB; rw [decide_eq_true ⟨h1, h2⟩]), rfl⟩
    · go_enter Tryz.func215, Tryz.ntmps215
      go_wp2
      go_ret
      exact ⟨ret_bool (by unfold inB; rw [decide_eq_false (fun h => by omega)]), rfl⟩
  · go_enter Tryz.func215, Tryz.ntmps215
    go_wp2
    go_ret
    exact ⟨ret_bool (by unfold inB; rw [decide_eq_false (fun h => by omega)]), rfl⟩
set_option maxRecDepth 100000 in
set_option maxHeartbeats 4000000 in
theorem c_isTable (x : Int) (w : World) : Calls Tryz.prog 272 #[.int .i64 x] w fun e w' => e = .returned (.bool (inB x 1 3)) ∧ w' = w := by
  by_cases h1 : 1 ≤ x
  · by_cases h2 : x ≤ 3
    · go_enter Tryz.func272, Tryz.ntmps272
      go_wp2
      go_ret
      exact ⟨ret_bool (by unfold inB; rw [decide_eq_true ⟨h1, h2⟩]), rfl⟩
    · go_enter Tryz.func272, Tryz.ntmps272
      go_wp2
      go_ret
      exact ⟨ret_bool (by unfold inB; rw [decide_eq_false (fun h => by omega)]), rfl⟩
  · go_enter Tryz.func272, Tryz.ntmps272
    go_wp2
    go_ret
    exact ⟨ret_bool (by unfold inB; rw [decide_eq_false (fun h => by omega)]), rfl⟩

end Go.Proofs.YtfibdpfhfgnbiaaGreatDoor.L
namespace Go.Proofs.YtfibdpfhfgnbiaaGreatDoor.L
open Go Go.RowKit
attribute [local go_sem ↓] Go.wp_at_zero Go.wp_at_succ

def okK (k : LK) : Bool := inB k.x 1 60 && inB k.b 1 3 && inB k.r (-1) 1000 && inB k.m 1 4 && (decide (k.r = -1) || decide (3 ≤ k.m))
theorem okK_no1 {x b r m : Int} (h : inB x 1 60 = false) : okK ⟨x, b, r, m⟩ = false := by simp [okK, h]
theorem okK_no2 {x b r m : Int} (h : inB b 1 3 = false) : okK ⟨x, b, r, m⟩ = false := by simp [okK, h]
theorem okK_no3 {x b r m : Int} (h : inB m 1 4 = false) : okK ⟨x, b, r, m⟩ = false := by simp [okK, h]
theorem okK_no4 {x b r m : Int} (h : r < -1 ∨ 1000 < r) : okK ⟨x, b, r, m⟩ = false := by
  have : inB r (-1) 1000 = false := by unfold inB; exact decide_eq_false (by omega)
  simp [okK, this]
theorem okK_yes {x b r m : Int} (h1 : inB x 1 60 = true) (h2 : inB b 1 3 = true) (h3 : inB m 1 4 = true) (h4 : -1 ≤ r ∧ r ≤ 1000) : okK ⟨x, b, r, m⟩ = (decide (r = -1) || decide (3 ≤ m)) := by
  have : inB r (-1) 1000 = true := by unfold inB; exact decide_eq_true h4
  simp [okK, this, h1, h2, h3]
theorem inB_iff {x lo hi : Int} : inB x lo hi = true ↔ lo ≤ x ∧ x ≤ hi := by unfold inB; exact decide_eq_true_iff
set_option maxRecDepth 100000 in
set_option maxHeartbeats 4000000 in
theorem c_isLock (x b r m : Int) (w : World) :
    Calls Tryz.prog 211 #[.agg #[.int .i64 x, .int .i64 b, .int .i64 r, .int .i64 m]] w fun e w' => e = .returned (.bool (okK ⟨x, b, r, m⟩)) ∧ Below w.heap.size w w' := by
  obtain ⟨p1, h1⟩ : ∃ p, inB x 1 60 = p := ⟨_, rfl⟩
  obtain ⟨p2, h2⟩ : ∃ p, inB b 1 3 = p := ⟨_, rfl⟩
  obtain ⟨p3, h3⟩ : ∃ p, inB m 1 4 = p := ⟨_, rfl⟩
  have C1 : Hid (∀ W : World, Calls Tryz.prog 215 #[.int .i64 x] W fun e w' => e = .returned (.bool p1) ∧ w' = W) := fun W => by rw [← h1]; exact c_isTx x W
  have C2 : Hid (∀ W : World, Calls Tryz.prog 272 #[.int .i64 b] W fun e w' => e = .returned (.bool p2) ∧ w' = W) := fun W => by rw [← h2]; exact c_isTable b W
  have C3 : Hid (∀ W : World, Calls Tryz.prog 273 #[.int .i64 m] W fun e w' => e = .returned (.bool p3) ∧ w' = W) := fun W => by rw [← h3]; exact c_isMode m W
  cases p1
  · have E : Hid (okK ⟨x, b, r, m⟩ = false) := okK_no1 h1
    go_enter Tryz.func211, Tryz.ntmps211
    go_wp2_with (first | (go_at_call 215; refine (C1.out _).mono ?_; rintro e w1 ⟨rfl, rfl⟩) | (go_at_call 272; refine (C2.out _).mono ?_; rintro e w2 ⟨rfl, rfl⟩) | (go_at_call 273; refine (C3.out _).mono ?_; rintro e w3 ⟨rfl, rfl⟩))
    go_ret
    exact ⟨ret_bool E.out.symm, (Below.refl _ _).alloc (Nat.le_refl _) _⟩
  cases p2
  · have E : Hid (okK ⟨x, b, r, m⟩ = false) := okK_no2 h2
    go_enter Tryz.func211, Tryz.ntmps211
    go_wp2_with (first | (go_at_call 215; refine (C1.out _).mono ?_; rintro e w1 ⟨rfl, rfl⟩) | (go_at_call 272; refine (C2.out _).mono ?_; rintro e w2 ⟨rfl, rfl⟩) | (go_at_call 273; refine (C3.out _).mono ?_; rintro e w3 ⟨rfl, rfl⟩))
    go_ret
    exact ⟨ret_bool E.out.symm, (Below.refl _ _).alloc (Nat.le_refl _) _⟩
  cases p3
  · have E : Hid (okK ⟨x, b, r, m⟩ = false) := okK_no3 h3
    go_enter Tryz.func211, Tryz.ntmps211
    go_wp2_with (first | (go_at_call 215; refine (C1.out _).mono ?_; rintro e w1 ⟨rfl, rfl⟩) | (go_at_call 272; refine (C2.out _).mono ?_; rintro e w2 ⟨rfl, rfl⟩) | (go_at_call 273; refine (C3.out _).mono ?_; rintro e w3 ⟨rfl, rfl⟩))
    go_ret
    exact ⟨ret_bool E.out.symm, (Below.refl _ _).alloc (Nat.le_refl _) _⟩
  by_cases r1 : r < -1
  · have E : Hid (okK ⟨x, b, r, m⟩ = false) := okK_no4 (.inl r1)
    go_enter Tryz.func211, Tryz.ntmps211
    go_wp2_with (first | (go_at_call 215; refine (C1.out _).mono ?_; rintro e w1 ⟨rfl, rfl⟩) | (go_at_call 272; refine (C2.out _).mono ?_; rintro e w2 ⟨rfl, rfl⟩) | (go_at_call 273; refine (C3.out _).mono ?_; rintro e w3 ⟨rfl, rfl⟩))
    go_ret
    exact ⟨ret_bool E.out.symm, (Below.refl _ _).alloc (Nat.le_refl _) _⟩
  by_cases r2 : 1000 < r
  · have E : Hid (okK ⟨x, b, r, m⟩ = false) := okK_no4 (.inr r2)
    go_enter Tryz.func211, Tryz.ntmps211
    go_wp2_with (first | (go_at_call 215; refine (C1.out _).mono ?_; rintro e w1 ⟨rfl, rfl⟩) | (go_at_call 272; refine (C2.out _).mono ?_; rintro e w2 ⟨rfl, rfl⟩) | (go_at_call 273; refine (C3.out _).mono ?_; rintro e w3 ⟨rfl, rfl⟩))
    go_ret
    exact ⟨ret_bool E.out.symm, (Below.refl _ _).alloc (Nat.le_refl _) _⟩
  have Y := okK_yes (r := r) h1 h2 h3 ⟨by omega, by omega⟩
  have hm := inB_iff.1 h3
  clear h1 h2 h3
  by_cases r3 : r = -1
  · subst r3
    have r3 : (-1 : Int) = -1 := rfl
    have E : Hid (okK ⟨x, b, -1, m⟩ = true) := by unfold Hid; rw [Y, decide_eq_true r3]; rfl
    go_enter Tryz.func211, Tryz.ntmps211
    go_wp2_with (first | (go_at_call 215; refine (C1.out _).mono ?_; rintro e w1 ⟨rfl, rfl⟩) | (go_at_call 272; refine (C2.out _).mono ?_; rintro e w2 ⟨rfl, rfl⟩) | (go_at_call 273; refine (C3.out _).mono ?_; rintro e w3 ⟨rfl, rfl⟩))
    go_ret
    exact ⟨ret_bool E.out.symm, (Below.refl _ _).alloc (Nat.le_refl _) _⟩
  have br : (r == -1) = false := by simpa using r3
  by_cases m3 : m = 3
  · subst m3
    have E : Hid (okK ⟨x, b, r, 3⟩ = true) := by unfold Hid; rw [Y, decide_eq_true (show (3 : Int) ≤ 3 by omega), Bool.or_true]
    go_enter Tryz.func211, Tryz.ntmps211
    go_wp2_with (first | (go_at_call 215; refine (C1.out _).mono ?_; rintro e w1 ⟨rfl, rfl⟩) | (go_at_call 272; refine (C2.out _).mono ?_; rintro e w2 ⟨rfl, rfl⟩) | (go_at_call 273; refine (C3.out _).mono ?_; rintro e w3 ⟨rfl, rfl⟩))
    go_ret
    exact ⟨ret_bool E.out.symm, (Below.refl _ _).alloc (Nat.le_refl _) _⟩
  by_cases m4 : m = 4
  · subst m4
    have E : Hid (okK ⟨x, b, r, 4⟩ = true) := by unfold Hid; rw [Y, decide_eq_true (show (3 : Int) ≤ 4 by omega), Bool.or_true]
    go_enter Tryz.func211, Tryz.ntmps211
    go_wp2_with (first | (go_at_call 215; refine (C1.out _).mono ?_; rintro e w1 ⟨rfl, rfl⟩) | (go_at_call 272; refine (C2.out _).mono ?_; rintro e w2 ⟨rfl, rfl⟩) | (go_at_call 273; refine (C3.out _).mono ?_; rintro e w3 ⟨rfl, rfl⟩))
    go_ret
    exact ⟨ret_bool E.out.symm, (Below.refl _ _).alloc (Nat.le_refl _) _⟩
  have m5 : ¬ 3 ≤ m := by omega
  have b3 : (m == 3) = false := by simpa using m3
  have b4 : (m == 4) = false := by simpa using m4
  have E : Hid (okK ⟨x, b, r, m⟩ = false) := by unfold Hid; rw [Y, decide_eq_false r3, decide_eq_false m5]; rfl
  go_enter Tryz.func211, Tryz.ntmps211
  go_wp2_with (first | (go_at_call 215; refine (C1.out _).mono ?_; rintro e w1 ⟨rfl, rfl⟩) | (go_at_call 272; refine (C2.out _).mono ?_; rintro e w2 ⟨rfl, rfl⟩) | (go_at_call 273; refine (C3.out _).mono ?_; rintro e w3 ⟨rfl, rfl⟩))
  go_ret
  exact ⟨ret_bool E.out.symm, (Below.refl _ _).alloc (Nat.le_refl _) _⟩
set_option maxRecDepth 100000 in
set_option maxHeartbeats 4000000 in
theorem c_ask (x b r m : Int) (w : World) :
    Calls Tryz.prog 120 #[.int .i64 x, .int .i64 b, .int .i64 r, .int .i64 m] w fun e w' => e = .returned (.bool (okK ⟨x, b, r, m⟩)) ∧ w' = w := by
  obtain ⟨p1, h1⟩ : ∃ p, inB x 1 60 = p := ⟨_, rfl⟩
  obtain ⟨p2, h2⟩ : ∃ p, inB b 1 3 = p := ⟨_, rfl⟩
  obtain ⟨p3, h3⟩ : ∃ p, inB m 1 4 = p := ⟨_, rfl⟩
  obtain ⟨p4, h4⟩ : ∃ p, inB r (-1) 1000 = p := ⟨_, rfl⟩
  have C1 : Hid (∀ W : World, Calls Tryz.prog 53 #[.int .i64 x, .int .i64 1, .int .i64 60] W fun e w' => e = .returned (.bool p1) ∧ w' = W) := fun W => by rw [← h1]; exact c_in x 1 60 W
  have C2 : Hid (∀ W : World, Calls Tryz.prog 53 #[.int .i64 b, .int .i64 1, .int .i64 3] W fun e w' => e = .returned (.bool p2) ∧ w' = W) := fun W => by rw [← h2]; exact c_in b 1 3 W
  have C3 : Hid (∀ W : World, Calls Tryz.prog 53 #[.int .i64 m, .int .i64 1, .int .i64 4] W fun e w' => e = .returned (.bool p3) ∧ w' = W) := fun W => by rw [← h3]; exact c_in m 1 4 W
  have C4 : Hid (∀ W : World, Calls Tryz.prog 53 #[.int .i64 r, .int .i64 (-1), .int .i64 1000] W fun e w' => e = .returned (.bool p4) ∧ w' = W) := fun W => by rw [← h4]; exact c_in r (-1) 1000 W
  cases p1
  · have E : Hid (okK ⟨x, b, r, m⟩ = false) := okK_no1 h1
    go_enter Tryz.func120, Tryz.ntmps120
    go_wp2_with (first | (go_at_call_of 53 (Value.int IntKind.i64 60); refine (C1.out _).mono ?_; rintro e w1 ⟨rfl, rfl⟩) | (go_at_call_of 53 (Value.int IntKind.i64 1000); refine (C4.out _).mono ?_; rintro e w4 ⟨rfl, rfl⟩) | (go_at_call_of 53 (Value.int IntKind.i64 3); refine (C2.out _).mono ?_; rintro e w2 ⟨rfl, rfl⟩) | (go_at_call_of 53 (Value.int IntKind.i64 4); refine (C3.out _).mono ?_; rintro e w3 ⟨rfl, rfl⟩))
    go_ret
    exact ⟨ret_bool (by first | exact E.out.symm | (rw [E.out]; exact decide_eq_false (by omega))), rfl⟩
  cases p2
  · have E : Hid (okK ⟨x, b, r, m⟩ = false) := okK_no2 h2
    go_enter Tryz.func120, Tryz.ntmps120
    go_wp2_with (first | (go_at_call_of 53 (Value.int IntKind.i64 60); refine (C1.out _).mono ?_; rintro e w1 ⟨rfl, rfl⟩) | (go_at_call_of 53 (Value.int IntKind.i64 1000); refine (C4.out _).mono ?_; rintro e w4 ⟨rfl, rfl⟩) | (go_at_call_of 53 (Value.int IntKind.i64 3); refine (C2.out _).mono ?_; rintro e w2 ⟨rfl, rfl⟩) | (go_at_call_of 53 (Value.int IntKind.i64 4); refine (C3.out _).mono ?_; rintro e w3 ⟨rfl, rfl⟩))
    go_ret
    exact ⟨ret_bool (by first | exact E.out.symm | (rw [E.out]; exact decide_eq_false (by omega))), rfl⟩
  cases p4
  · have E : Hid (okK ⟨x, b, r, m⟩ = false) := by simp [Hid, okK, h4]
    go_enter Tryz.func120, Tryz.ntmps120
    go_wp2_with (first | (go_at_call_of 53 (Value.int IntKind.i64 60); refine (C1.out _).mono ?_; rintro e w1 ⟨rfl, rfl⟩) | (go_at_call_of 53 (Value.int IntKind.i64 1000); refine (C4.out _).mono ?_; rintro e w4 ⟨rfl, rfl⟩) | (go_at_call_of 53 (Value.int IntKind.i64 3); refine (C2.out _).mono ?_; rintro e w2 ⟨rfl, rfl⟩) | (go_at_call_of 53 (Value.int IntKind.i64 4); refine (C3.out _).mono ?_; rintro e w3 ⟨rfl, rfl⟩))
    go_ret
    exact ⟨ret_bool (by first | exact E.out.symm | (rw [E.out]; exact decide_eq_false (by omega))), rfl⟩
  cases p3
  · have E : Hid (okK ⟨x, b, r, m⟩ = false) := okK_no3 h3
    go_enter Tryz.func120, Tryz.ntmps120
    go_wp2_with (first | (go_at_call_of 53 (Value.int IntKind.i64 60); refine (C1.out _).mono ?_; rintro e w1 ⟨rfl, rfl⟩) | (go_at_call_of 53 (Value.int IntKind.i64 1000); refine (C4.out _).mono ?_; rintro e w4 ⟨rfl, rfl⟩) | (go_at_call_of 53 (Value.int IntKind.i64 3); refine (C2.out _).mono ?_; rintro e w2 ⟨rfl, rfl⟩) | (go_at_call_of 53 (Value.int IntKind.i64 4); refine (C3.out _).mono ?_; rintro e w3 ⟨rfl, rfl⟩))
    go_ret
    exact ⟨ret_bool (by first | exact E.out.symm | (rw [E.out]; exact decide_eq_false (by omega))), rfl⟩
  have Y := okK_yes h1 h2 h3 (inB_iff.1 h4)
  clear h1 h2 h3 h4
  by_cases r3 : r = -1
  · subst r3
    have r3 : (-1 : Int) = -1 := rfl
    have E : Hid (okK ⟨x, b, -1, m⟩ = true) := by unfold Hid; rw [Y, decide_eq_true r3]; rfl
    go_enter Tryz.func120, Tryz.ntmps120
    go_wp2_with (first | (go_at_call_of 53 (Value.int IntKind.i64 60); refine (C1.out _).mono ?_; rintro e w1 ⟨rfl, rfl⟩) | (go_at_call_of 53 (Value.int IntKind.i64 1000); refine (C4.out _).mono ?_; rintro e w4 ⟨rfl, rfl⟩) | (go_at_call_of 53 (Value.int IntKind.i64 3); refine (C2.out _).mono ?_; rintro e w2 ⟨rfl, rfl⟩) | (go_at_call_of 53 (Value.int IntKind.i64 4); refine (C3.out _).mono ?_; rintro e w3 ⟨rfl, rfl⟩))
    go_ret
    exact ⟨ret_bool (by first | exact E.out.symm | (rw [E.out]; exact decide_eq_false (by omega))), rfl⟩
  have br : (r == -1) = false := by simpa using r3
  by_cases m3 : 3 ≤ m
  · have E : Hid (okK ⟨x, b, r, m⟩ = true) := by unfold Hid; rw [Y, decide_eq_true m3, Bool.or_true]
    go_enter Tryz.func120, Tryz.ntmps120
    go_wp2_with (first | (go_at_call_of 53 (Value.int IntKind.i64 60); refine (C1.out _).mono ?_; rintro e w1 ⟨rfl, rfl⟩) | (go_at_call_of 53 (Value.int IntKind.i64 1000); refine (C4.out _).mono ?_; rintro e w4 ⟨rfl, rfl⟩) | (go_at_call_of 53 (Value.int IntKind.i64 3); refine (C2.out _).mono ?_; rintro e w2 ⟨rfl, rfl⟩) | (go_at_call_of 53 (Value.int IntKind.i64 4); refine (C3.out _).mono ?_; rintro e w3 ⟨rfl, rfl⟩))
    go_ret
    exact ⟨ret_bool (by first | exact E.out.symm | (rw [E.out]; exact decide_eq_false (by omega))), rfl⟩
  have E : Hid (okK ⟨x, b, r, m⟩ = false) := by unfold Hid; rw [Y, decide_eq_false r3, decide_eq_false m3]; rfl
  go_enter Tryz.func120, Tryz.ntmps120
  go_wp2_with (first | (go_at_call_of 53 (Value.int IntKind.i64 60); refine (C1.out _).mono ?_; rintro e w1 ⟨rfl, rfl⟩) | (go_at_call_of 53 (Value.int IntKind.i64 1000); refine (C4.out _).mono ?_; rintro e w4 ⟨rfl, rfl⟩) | (go_at_call_of 53 (Value.int IntKind.i64 3); refine (C2.out _).mono ?_; rintro e w2 ⟨rfl, rfl⟩) | (go_at_call_of 53 (Value.int IntKind.i64 4); refine (C3.out _).mono ?_; rintro e w3 ⟨rfl, rfl⟩))
  go_ret
  exact ⟨ret_bool (by first | exact E.out.symm | (rw [E.out]; exact decide_eq_false (by omega))), rfl⟩
set_option maxRecDepth 100000 in
set_option maxHeartbeats 4000000 in
theorem c_fit (a b : Int) (w : World) : Calls Tryz.prog 121 #[.int .i64 a, .int .i64 b] w fun e w' => e = .returned (.bool (fitB a b)) ∧ w' = w := by
  by_cases a4 : a = 4
  · have E : Hid (fitB a b = false) := by unfold Hid fitB; rw [if_pos (.inl a4)]
    go_enter Tryz.func121, Tryz.ntmps121
    go_wp2
    go_ret
    exact ⟨ret_bool E.out.symm, rfl⟩
  have q1 : (a == 4) = false := by simpa using a4
  by_cases b4 : b = 4
  · have E : Hid (fitB a b = false) := by unfold Hid fitB; rw [if_pos (.inr b4)]
    go_enter Tryz.func121, Tryz.ntmps121
    go_wp2
    go_ret
    exact ⟨ret_bool E.out.symm, rfl⟩
  have q2 : (b == 4) = false := by simpa using b4
  by_cases a1 : a = 1
  · have E : Hid (fitB a b = true) := by unfold Hid fitB; rw [if_neg (fun h => h.elim a4 b4), if_pos (.inl a1)]
    go_enter Tryz.func121, Tryz.ntmps121
    go_wp2
    go_ret
    exact ⟨ret_bool E.out.symm, rfl⟩
  have q3 : (a == 1) = false := by simpa using a1
  by_cases b1 : b = 1
  · have E : Hid (fitB a b = true) := by unfold Hid fitB; rw [if_neg (fun h => h.elim a4 b4), if_pos (.inr b1)]
    go_enter Tryz.func121, Tryz.ntmps121
    go_wp2
    go_ret
    exact ⟨ret_bool E.out.symm, rfl⟩
  have q4 : (b == 1) = false := by simpa using b1
  by_cases ab : a = b
  · have E : Hid (fitB a b = true) := by unfold Hid fitB; rw [if_neg (fun h => h.elim a4 b4), if_neg (fun h => h.elim a1 b1), decide_eq_true ab]
    go_enter Tryz.func121, Tryz.ntmps121
    go_wp2
    go_ret
    exact ⟨ret_bool E.out.symm, rfl⟩
  · have q5 : (a == b) = false := by simpa using ab
    have E : Hid (fitB a b = false) := by unfold Hid fitB; rw [if_neg (fun h => h.elim a4 b4), if_neg (fun h => h.elim a1 b1), decide_eq_false ab]
    go_enter Tryz.func121, Tryz.ntmps121
    go_wp2
    go_ret
    exact ⟨ret_bool E.out.symm, rfl⟩

end Go.Proofs.YtfibdpfhfgnbiaaGreatDoor.L
