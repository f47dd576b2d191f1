/-
  Sets of transactions as bits; the modes; what a right lock is, on both sides.
-/
import Derived.Test.YtmjacoocnkcilaaDoorLk
import Derived.Test.YtmjacoocnkcilaaDoorLw
import Derived.Deep.QuietTactic
namespace Go.Proofs.YtmjacoocnkcilaaDoor
open Go Go.RowKit
attribute [local go_sem ↓] Go.wp_at_zero Go.wp_at_succ

abbrev B64 := BitVec 64
def uV (b : B64) : Value := .int .u64 (b.toNat : Int)
def bitT (x : Int) : B64 := 1#64 <<< x.toNat
theorem ofInt_toNat (b : B64) : BitVec.ofInt 64 (b.toNat : Int) = b := by rw [BitVec.ofInt_natCast, BitVec.ofNat_toNat, BitVec.setWidth_eq]
theorem wrap_u (b : B64) : IntKind.u64.wrap (b.toNat : Int) = (b.toNat : Int) := by
  have := b.isLt
  simp [IntKind.wrap, IntKind.bits, IntKind.signed]
  omega
def orT (a b : B64) : B64 := a ||| b
def andT (a b : B64) : B64 := a &&& b
def subT (a b : B64) : B64 := a &&& ~~~b
theorem bits_and (a b : B64) : bits .and .u64 (a.toNat : Int) (b.toNat : Int) = ((andT a b).toNat : Int) := by
  show IntKind.u64.wrap ((BitVec.ofInt 64 (a.toNat : Int) &&& BitVec.ofInt 64 (b.toNat : Int)).toNat : Int) = _
  rw [ofInt_toNat, ofInt_toNat, wrap_u]; rfl
theorem bits_or (a b : B64) : bits .or .u64 (a.toNat : Int) (b.toNat : Int) = ((orT a b).toNat : Int) := by
  show IntKind.u64.wrap ((BitVec.ofInt 64 (a.toNat : Int) ||| BitVec.ofInt 64 (b.toNat : Int)).toNat : Int) = _
  rw [ofInt_toNat, ofInt_toNat, wrap_u]; rfl
theorem bits_andNot (a b : B64) : bits .andNot .u64 (a.toNat : Int) (b.toNat : Int) = ((subT a b).toNat : Int) := by
  show IntKind.u64.wrap ((BitVec.ofInt 64 (a.toNat : Int) &&& ~~~(BitVec.ofInt 64 (b.toNat : Int))).toNat : Int) = _
  rw [ofInt_toNat, ofInt_toNat, wrap_u]; rfl
theorem shl_bit : ∀ n : Fin 64, IntKind.u64.wrap (2 ^ n.val) = ((1#64 <<< n.val).toNat : Int) := by decide
theorem bitT_toNat {x : Int} (h0 : 0 ≤ x) (h1 : x < 64) : IntKind.u64.wrap (2 ^ min x.toNat 64) = ((bitT x).toNat : Int) := by
  have hm : min x.toNat 64 = x.toNat := by omega
  rw [hm]
  exact shl_bit ⟨x.toNat, by omega⟩
def inT (b : B64) (x : Int) : Bool := b.getLsbD x.toNat
theorem inT_bit {x : Int} (h0 : 0 ≤ x) (h1 : x < 64) (y : Int) (hy : 0 ≤ y) : inT (bitT x) y = decide (x = y) := by
  unfold inT bitT
  rw [BitVec.getLsbD_shiftLeft, BitVec.getLsbD_one]
  by_cases h : x = y
  · subst h; simp; omega
  · rw [decide_eq_false h]
    by_cases hl : y.toNat < x.toNat
    · simp [hl]
    · have : y.toNat - x.toNat ≠ 0 := by omega
      simp [this]
theorem and_bit {b : B64} {x : Int} (h0 : 0 ≤ x) (h1 : x < 64) : ((((b &&& bitT x).toNat : Nat) : Int) != 0) = inT b x := by
  cases h : inT b x
  · have : b &&& bitT x = 0#64 := by
      apply BitVec.eq_of_getLsbD_eq
      intro i hi
      rw [BitVec.getLsbD_and, BitVec.getLsbD_zero]
      have := inT_bit h0 h1 (i : Int) (by omega)
      unfold inT at this h
      rw [Int.toNat_natCast] at this
      rw [this]
      by_cases hx : x = (i : Int)
      · rw [hx, Int.toNat_natCast] at h; rw [h]; rfl
      · rw [decide_eq_false hx, Bool.and_false]
    rw [this]; rfl
  · rw [bne_iff_ne]
    intro e
    have e2 : b &&& bitT x = 0#64 := BitVec.eq_of_toNat_eq (by simpa using e)
    have := congrArg (fun z => z.getLsbD x.toNat) e2
    simp only [BitVec.getLsbD_and, BitVec.getLsbD_zero] at this
    have hb := inT_bit h0 h1 x h0
    unfold inT at hb h
    rw [h, hb] at this
    simp at this
theorem ne_zero {b : B64} : (((b.toNat : Nat) : Int) != 0) = decide (b ≠ 0#64) := by
  by_cases h : b = 0#64
  · subst h; rfl
  · have : (b.toNat : Int) ≠ 0 := fun e => h (BitVec.eq_of_toNat_eq (by simpa using e))
    rw [decide_eq_true h, bne_iff_ne]; exact this
def fitB (a b : Int) : Bool := if a = 4 ∨ b = 4 then false else if a = 1 ∨ b = 1 then true else decide (a = b)
def FitH (w : World) : Prop := w.cell? ⟨0, 0, none⟩ = some (.int .u8 0) ∧ w.cell? ⟨0, 1, none⟩ = some (.int .u8 14) ∧ w.cell? ⟨0, 2, none⟩ = some (.int .u8 6) ∧ w.cell? ⟨0, 3, none⟩ = some (.int .u8 10) ∧ w.cell? ⟨0, 4, none⟩ = some (.int .u8 0)
theorem FitH.lt {w : World} (h : FitH w) : 0 < w.heap.size := World.block_lt_of_cell? w ⟨0, 0, none⟩ h.1
theorem FitH.belowB {w w' : World} {B : Nat} (h : FitH w) (hb : Below B w w') (hB : 0 < B) : FitH w' :=
  ⟨(hb.cell (p := ⟨0, 0, none⟩) hB).trans h.1, (hb.cell (p := ⟨0, 1, none⟩) hB).trans h.2.1, (hb.cell (p := ⟨0, 2, none⟩) hB).trans h.2.2.1, (hb.cell (p := ⟨0, 3, none⟩) hB).trans h.2.2.2.1, (hb.cell (p := ⟨0, 4, none⟩) hB).trans h.2.2.2.2⟩
theorem FitH.below {w w' : World} (h : FitH w) (hb : Below w.heap.size w w') : FitH w' := h.belowB hb h.lt
set_option maxRecDepth 100000 in
set_option maxHeartbeats 4000000 in
theorem c_setOf (x : Int) (w : World) (h0 : 0 ≤ x) (h1 : x < 64) :
    Calls Tryd.prog 88 #[.int .i64 x] w fun e w' => e = .returned (uV (bitT x)) ∧ w' = w := by
  have E : Hid (IntKind.u64.wrap (2 ^ x.toNat) = ((bitT x).toNat : Int)) := by have := bitT_toNat h0 h1; rwa [show min x.toNat 64 = x.toNat by omega] at this
  go_enter Tryd.func88, Tryd.ntmps88
  go_wp2
  go_ret
  exact ⟨congrArg (fun z => Ending.returned (Value.int .u64 z)) E.out, rfl⟩
set_option maxRecDepth 100000 in
set_option maxHeartbeats 4000000 in
theorem c_has (s : B64) (x : Int) (w : World) (h0 : 0 ≤ x) (h1 : x < 64) :
    Calls Tryd.prog 76 #[.int .u64 (s.toNat : Int), .int .i64 x] w fun e w' => e = .returned (.bool (inT s x)) ∧ w' = w := by
  have E : Hid (((((andT s (bitT x)).toNat : Nat) : Int) != 0) = inT s x) := and_bit h0 h1
  have C := c_setOf x w h0 h1
  have hb := bits_and s (bitT x)
  go_enter Tryd.func76, Tryd.ntmps76
  go_wp2_with fail
  refine C.mono ?_
  rintro e w1 ⟨rfl, rfl⟩
  unfold uV
  go_wp2
  go_ret
  exact ⟨ret_bool E.out, rfl⟩
set_option maxRecDepth 100000 in
set_option maxHeartbeats 4000000 in
theorem c_modesFit (a b : Int) (w : World) (ht : FitH w) (ha : 1 ≤ a ∧ a ≤ 4) (hb : 1 ≤ b ∧ b ≤ 4) :
    Calls Tryd.prog 42 #[.int .i64 a, .int .i64 b] w fun e w' => e = .returned (.bool (fitB a b)) ∧ Below w.heap.size w w' := by
  obtain ⟨t0, t1, t2, t3, t4⟩ := ht
  have ha' : a = 1 ∨ a = 2 ∨ a = 3 ∨ a = 4 := by omega
  have hb' : b = 1 ∨ b = 2 ∨ b = 3 ∨ b = 4 := by omega
  clear ha hb
  rcases ha' with rfl | rfl | rfl | rfl <;> rcases hb' with rfl | rfl | rfl | rfl
  all_goals
    go_enter Tryd.func42, Tryd.ntmps42
    go_wp2_with fail
    go_quiet (fail)
    go_wp2
    go_ret
    exact ⟨rfl, below_drewN (Below.refl _ _) nq⟩
set_option maxRecDepth 100000 in
set_option maxHeartbeats 4000000 in
theorem c_isMode (x : Int) (w : World) : Calls Tryd.prog 41 #[.int .i64 x] w fun e w' => e = .returned (.bool (inB x 1 4)) ∧ w' = w := by
  by_cases h1 : 1 ≤ x
  · by_cases h2 : x ≤ 4
    · go_enter Tryd.func41, Tryd.ntmps41
      go_wp2
      go_ret
      exact ⟨ret_bool (by unfold inB; rw [decide_eq_true ⟨h1, h2⟩]), rfl⟩
    · go_enter Tryd.func41, Tryd.ntmps41
      go_wp2
      go_ret
      exact ⟨ret_bool (by unfold inB; rw [decide_eq_false (fun h => by omega)]), rfl⟩
  · go_enter Tryd.func41, Tryd.ntmps41
    go_wp2
    go_ret
    exact ⟨ret_bool (by unfold inB; rw [decide_eq_false (fun h => by omega)]), rfl⟩
set_option maxRecDepth 100000 in
set_option maxHeartbeats 4000000 in
theorem c_isTx (x : Int) (w : World) : Calls Tryd.prog 56 #[.int .i64 x] w fun e w' => e = .returned (.bool (inB x 1 60)) ∧ w' = w := by
  by_cases h1 : 1 ≤ x
  · by_cases h2 : x ≤ 60
    · go_enter Tryd.func56, Tryd.ntmps56
      go_wp2
      go_ret
      exact ⟨ret_bool (by unfold inB; rw [decide_eq_true ⟨h1, h2⟩]), rfl⟩
    · go_enter Tryd.func56, Tryd.ntmps56
      go_wp2
      go_ret
      exact ⟨ret_bool (by unfold inB; rw [decide_eq_false (fun h => by omega)]), rfl⟩
  · go_enter Tryd.func56, Tryd.ntmps56
    go_wp2
    go_ret
    exact ⟨ret_bool (by unfold inB; rw [decide_eq_false (fun h => by omega)]), rfl⟩
set_option maxRecDepth 100000 in
set_option maxHeartbeats 4000000 in
theorem c_isTable (x : Int) (w : World) : Calls Tryd.prog 83 #[.int .i64 x] w fun e w' => e = .returned (.bool (inB x 1 3)) ∧ w' = w := by
  by_cases h1 : 1 ≤ x
  · by_cases h2 : x ≤ 3
    · go_enter Tryd.func83, Tryd.ntmps83
      go_wp2
      go_ret
      exact ⟨ret_bool (by unfold inB; rw [decide_eq_true ⟨h1, h2⟩]), rfl⟩
    · go_enter Tryd.func83, Tryd.ntmps83
      go_wp2
      go_ret
      exact ⟨ret_bool (by unfold inB; rw [decide_eq_false (fun h => by omega)]), rfl⟩
  · go_enter Tryd.func83, Tryd.ntmps83
    go_wp2
    go_ret
    exact ⟨ret_bool (by unfold inB; rw [decide_eq_false (fun h => by omega)]), rfl⟩

end Go.Proofs.YtmjacoocnkcilaaDoor
