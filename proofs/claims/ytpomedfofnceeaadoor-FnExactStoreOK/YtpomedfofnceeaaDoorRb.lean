/-
  The bytes of a record: what both answer.
-/
import Derived.Test.YtpomedfofnceeaaDoorSh
import Derived.Test.YtpomedfofnceeaaDoorRo
namespace Go.Proofs.YtpomedfofnceeaaDoor
open Go Go.RowKit
attribute [local go_sem ↓] Go.wp_at_zero Go.wp_at_succ


theorem rc1_size {zs r : List Int} {ps : List (Int × Int)} (h : rc1 zs = some (ps, r)) : zs.length = 1 + 2 * ps.length + r.length := by
  cases zs with
  | nil => simp [rc1] at h
  | cons z t =>
    simp only [rc1] at h
    split at h
    · cases h
    · rename_i hl
      simp only [Option.some.injEq, Prod.mk.injEq] at h
      obtain ⟨rfl, rfl⟩ := h
      rw [prs_len, List.length_drop]
      simp
      omega
theorem rc2_size {zs : List Int} {ps ts : List (Int × Int)} (h : rc2 zs = some (ps, ts)) : zs.length = 2 + 2 * ps.length + 2 * ts.length := by
  unfold rc2 at h
  cases h1 : rc1 zs with
  | none => rw [h1] at h; cases h
  | some x =>
    obtain ⟨qs, r⟩ := x
    rw [h1] at h
    simp only at h
    cases h2 : rc1 r with
    | none => rw [h2] at h; cases h
    | some y =>
      obtain ⟨us, r'⟩ := y
      rw [h2] at h
      simp only at h
      split at h
      · rename_i hr
        simp only [Option.some.injEq, Prod.mk.injEq] at h
        obtain ⟨rfl, rfl⟩ := h
        have := rc1_size h1
        have := rc1_size h2
        rw [hr] at this
        simp at this
        omega
      · cases h
theorem ckB_size {a : ByteArray} {l : Int} (h : ckB (numsT a) l = true) : a.size ≤ 38 := by
  unfold ckB at h
  cases hr : rc2 (numsT a) with
  | none => rw [hr] at h; cases h
  | some x =>
    obtain ⟨ps, ts⟩ := x
    rw [hr] at h
    simp only [Bool.and_eq_true, decide_eq_true_eq] at h
    have h1 := rg_len ps 0 7 l h.2.1 (by omega)
    have h2 := rc2_size hr
    rw [nums_len] at h2
    omega
theorem lr_fit {e l t k p n g s : Int} {b a : ByteArray} (h : okLR ⟨e, l, t, k, p, n, g, s, b, a⟩ = true) : (0 ≤ e ∧ e < 256) ∧ (0 ≤ l ∧ l < 256) ∧ (0 ≤ t ∧ t < 256) ∧ (0 ≤ k ∧ k < 256) ∧ (0 ≤ p ∧ p < 256) ∧ (0 ≤ n ∧ n < 256) ∧ (0 ≤ g ∧ g < 256) ∧ (0 ≤ s ∧ s < 256) ∧ b.size ≤ 30 ∧ a.size ≤ 38 := by
  rw [← okLS_eq] at h
  unfold okLS at h
  split at h
  case isFalse => cases h
  rename_i hc
  simp only [inB, Bool.and_eq_true, decide_eq_true_eq] at hc
  split at h
  · simp only [Bool.and_eq_true, decide_eq_true_eq] at h
    have := ckB_size h.2
    omega
  · split at h
    case isFalse => cases h
    rename_i hd
    simp only [inB, Bool.and_eq_true, decide_eq_true_eq] at hd
    omega
def rbZ (D : DR) : List Int := [108, D.e, D.l, D.t, D.k, D.p, D.n, D.g, D.s] ++ fbZ [D.b, D.a] 2 2
def rbR (D : DR) : List Int := if okLR D then rbZ D ++ sumZ (Crc.crc (rbZ D) : Nat) else []
def rbC (D : DR) : Int := if okLR D then 0 else 1
theorem rb1 {D : DR} (h : okLR D = false) : rbC D = 1 ∧ rbR D = [] := by unfold rbC rbR; rw [h]; exact ⟨rfl, rfl⟩
theorem rb0 {D : DR} (h : okLR D = true) : rbC D = 0 ∧ rbR D = rbZ D ++ sumZ (Crc.crc (rbZ D) : Nat) := by unfold rbC rbR; rw [h]; exact ⟨rfl, rfl⟩
theorem ok2 {b a : ByteArray} (h1 : b.size ≤ 255) (h2 : a.size ≤ 255) : okF [b, a] 2 = true := by
  unfold okF
  simp [h1, h2]
theorem fb2_len {b a : ByteArray} : (fbZ [b, a] 2 2).length = 3 + b.size + a.size := by
  unfold fbZ
  simp [strZ]
  omega
theorem fb2_bytes {b a : ByteArray} (h1 : b.size ≤ 255) (h2 : a.size ≤ 255) : ∀ z ∈ fbZ [b, a] 2 2, 0 ≤ z ∧ z < 256 := by
  intro z hz
  unfold fbZ at hz
  rcases List.mem_cons.1 hz with rfl | hz
  · omega
  · obtain ⟨q, hq, hzq⟩ := List.mem_flatten.1 hz
    obtain ⟨x, hx, rfl⟩ := List.mem_map.1 hq
    have hxs : x.size ≤ 255 := by
      have := List.mem_of_mem_take hx
      simp at this
      rcases this with rfl | rfl <;> omega
    rcases List.mem_cons.1 hzq with rfl | hz'
    · omega
    · obtain ⟨y, _, rfl⟩ := List.mem_map.1 hz'
      have := y.toNat_lt
      omega
theorem rb_bytes {e l t k p n g s : Int} {b a : ByteArray} (h : okLR ⟨e, l, t, k, p, n, g, s, b, a⟩ = true) : ∀ z ∈ rbZ ⟨e, l, t, k, p, n, g, s, b, a⟩, 0 ≤ z ∧ z < 256 := by
  have hf := lr_fit h
  intro z hz
  unfold rbZ at hz
  rcases List.mem_append.1 hz with hz | hz
  · simp at hz
    rcases hz with rfl | rfl | rfl | rfl | rfl | rfl | rfl | rfl | rfl <;> omega
  · exact fb2_bytes (b := b) (a := a) (by omega) (by omega) z hz
theorem rb_len {e l t k p n g s : Int} {b a : ByteArray} : (rbZ ⟨e, l, t, k, p, n, g, s, b, a⟩).length = 12 + b.size + a.size := by
  unfold rbZ
  rw [List.length_append, fb2_len]
  simp
  omega
theorem rbR_len {e l t k p n g s : Int} {b a : ByteArray} (h : okLR ⟨e, l, t, k, p, n, g, s, b, a⟩ = true) : (rbR ⟨e, l, t, k, p, n, g, s, b, a⟩).length = 16 + b.size + a.size := by
  rw [(rb0 h).2, List.length_append, rb_len]
  simp [sumZ]
  omega
theorem rbR_fit {e l t k p n g s : Int} {b a : ByteArray} : (rbR ⟨e, l, t, k, p, n, g, s, b, a⟩).length ≤ 1048576 := by
  cases h : okLR ⟨e, l, t, k, p, n, g, s, b, a⟩
  · rw [(rb1 h).2]; simp
  · have := lr_fit h; rw [rbR_len h]; omega
theorem own_capB {w : World} {base e size n m cap : Nat} {a : Option Addr} {xs : List Value} (h : w.ownsRow base e size (.slice a m cap) n xs) : m ≤ cap := by
  rcases h.2 with ⟨hv, h0⟩ | ⟨g, cap', cur, hv, hb, hg, hnc, hcm, hcs, htake⟩
  · cases hv; exact Nat.le_refl _
  · cases hv; exact hnc

end Go.Proofs.YtpomedfofnceeaaDoor
