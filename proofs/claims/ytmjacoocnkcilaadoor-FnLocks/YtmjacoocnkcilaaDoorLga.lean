/-
  The lowest bit of a set; math/bits.TrailingZeros64.
-/
import Derived.Test.YtmjacoocnkcilaaDoorLp
namespace Go.Proofs.YtmjacoocnkcilaaDoor
open Go Go.RowKit
attribute [local go_sem ↓] Go.wp_at_zero Go.wp_at_succ

def dbL : List Nat := [0, 1, 56, 2, 57, 49, 28, 3, 61, 58, 42, 50, 38, 29, 17, 4, 62, 47, 59, 36, 45, 43, 51, 22, 53, 39, 33, 30, 24, 18, 12, 5, 63, 55, 48, 27, 60, 41, 37, 16, 46, 35, 44, 21, 52, 32, 23, 11, 54, 26, 40, 15, 34, 20, 31, 10, 25, 14, 19, 9, 13, 8, 7, 6]
def TabZ (w : World) : Prop := ∀ i, i < 64 → w.cell? ⟨1, i, none⟩ = some (.int .u8 (dbL.getD i 0 : Nat))
theorem TabZ.lt {w : World} (h : TabZ w) : 1 < w.heap.size := World.block_lt_of_cell? w ⟨1, 0, none⟩ (h 0 (by omega))
theorem TabZ.belowB {w w' : World} {B : Nat} (h : TabZ w) (hb : Below B w w') (hB : 1 < B) : TabZ w' := fun i hi => (hb.cell (p := ⟨1, i, none⟩) hB).trans (h i hi)
theorem TabZ.below {w w' : World} (h : TabZ w) (hb : Below w.heap.size w w') : TabZ w' := h.belowB hb h.lt
theorem least_bit (b : B64) : ∀ n, (∃ i, i < n ∧ b.getLsbD i = true) → ∃ k, k < n ∧ b.getLsbD k = true ∧ ∀ j, j < k → b.getLsbD j = false
  | 0, h => by obtain ⟨i, hi, _⟩ := h; omega
  | n + 1, h => by
    by_cases hs : ∃ i, i < n ∧ b.getLsbD i = true
    · obtain ⟨k, hk, h1, h2⟩ := least_bit b n hs
      exact ⟨k, by omega, h1, h2⟩
    · obtain ⟨i, hi, he⟩ := h
      have : i = n := by
        rcases Nat.lt_or_ge i n with h1 | h1
        · exact absurd ⟨i, h1, he⟩ hs
        · omega
      subst this
      exact ⟨i, by omega, he, fun j hj => by
        cases hc : b.getLsbD j
        · rfl
        · exact absurd ⟨j, hj, hc⟩ hs⟩
theorem low_bit {b : B64} (hb : b ≠ 0#64) : ∃ k : Nat, k < 64 ∧ inT b (k : Int) = true ∧ andT b (-b) = 1#64 <<< k := by
  obtain ⟨y, y0, y1, hy⟩ := ne0_iff.1 hb
  obtain ⟨k, hk, h1, h2⟩ := least_bit b 64 ⟨y.toNat, by omega, hy⟩
  refine ⟨k, hk, by unfold inT; rw [Int.toNat_natCast]; exact h1, ?_⟩
  apply BitVec.eq_of_getLsbD_eq
  intro i hi
  unfold andT
  rw [BitVec.getLsbD_and, BitVec.getLsbD_neg, BitVec.getLsbD_shiftLeft, BitVec.getLsbD_one]
  by_cases e : i = k
  · subst e
    have hn : ¬ ∃ j, j < i ∧ b.getLsbD j = true := fun ⟨j, hj, hc⟩ => by rw [h2 j hj] at hc; cases hc
    rw [h1, decide_eq_false hn]
    simp [hi]
  · by_cases hl : i < k
    · rw [h2 i hl]; simp [hl]
    · have hex : ∃ j, j < i ∧ b.getLsbD j = true := ⟨k, by omega, h1⟩
      rw [decide_eq_true hex, decide_eq_true hi]
      have : i - k ≠ 0 := by omega
      simp [this]
theorem neg_u (b : B64) : IntKind.u64.wrap (-(b.toNat : Int)) = ((-b).toNat : Int) := by
  have := b.isLt
  rw [BitVec.toNat_neg]
  simp [IntKind.wrap, IntKind.bits, IntKind.signed]
  omega
theorem tz_num : ∀ k : Fin 64, IntKind.u64.wrap (((1#64 <<< k.val).toNat : Int) * 285870213051353865) = ((((1#64 <<< k.val).toNat * 285870213051353865) % 18446744073709551616 : Nat) : Int) := by decide
theorem tz_tab : ∀ k : Fin 64, ((1#64 <<< k.val).toNat * 285870213051353865) % 18446744073709551616 / 288230376151711744 < 64 ∧ dbL.getD (((1#64 <<< k.val).toNat * 285870213051353865) % 18446744073709551616 / 288230376151711744) 0 = k.val := by decide
set_option maxRecDepth 100000 in
set_option maxHeartbeats 4000000 in
theorem c_tz (b : B64) (w : World) (ht : TabZ w) (hb : b ≠ 0#64) :
    Calls Tryd.prog 89 #[.int .u64 (b.toNat : Int)] w fun e w' => (∃ k : Nat, e = .returned (.int .i64 (k : Int)) ∧ k < 64 ∧ inT b (k : Int) = true) ∧ w' = w := by
  obtain ⟨k, hk, hin, hlow⟩ := low_bit hb
  have h1 := neg_u b
  have h2 := bits_and b (-b)
  rw [hlow] at h2
  have h3 := tz_num ⟨k, hk⟩
  obtain ⟨t1, t2⟩ := tz_tab ⟨k, hk⟩
  simp only at h3 t1 t2
  obtain ⟨m, hm⟩ : ∃ m, (1#64 <<< k).toNat * 285870213051353865 % 18446744073709551616 = m := ⟨_, rfl⟩
  rw [hm] at h3 t1 t2
  have hc := ht (m / 288230376151711744) t1
  rw [t2] at hc
  have hz : ((b.toNat : Int) == 0) = false := by
    have := ne_zero (b := b)
    rw [decide_eq_true hb] at this
    simpa using this
  obtain ⟨J, hJ⟩ : ∃ J, m / 288230376151711744 = J := ⟨_, rfl⟩
  rw [hJ] at hc t1
  have h5 : (m : Int) / 288230376151711744 = (J : Int) := by omega
  obtain ⟨N, hN⟩ : ∃ N, (-b).toNat = N := ⟨_, rfl⟩
  rw [hN] at h1 h2
  obtain ⟨P, hP⟩ : ∃ P, (1#64 <<< k).toNat = P := ⟨_, rfl⟩
  rw [hP] at h2 h3
  obtain ⟨Bn, hBn⟩ : ∃ P, b.toNat = P := ⟨_, rfl⟩
  rw [hBn] at h1 h2 hz
  have t1' : (J : Int) < 64 := by omega
  have HIN : Hid (inT b (k : Int) = true) := hin
  rw [hBn]
  clear ht hb hin hlow hm t2 hJ hN hP hBn
  go_enter Tryd.func89, Tryd.ntmps89
  go_wp2
  go_ret
  exact ⟨⟨k, rfl, hk, HIN.out⟩, rfl⟩

end Go.Proofs.YtmjacoocnkcilaaDoor
