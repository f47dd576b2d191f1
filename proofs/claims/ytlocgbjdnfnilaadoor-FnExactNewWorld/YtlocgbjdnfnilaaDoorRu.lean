/-
  Bytes whose sum stands behind them: the walk of the program's unseal.
-/
import Derived.Test.YtlocgbjdnfnilaaDoorEq
import Derived.Test.YtlocgbjdnfnilaaDoorRs
import Derived.Laws.Cover3
namespace Go.Proofs.YtlocgbjdnfnilaaDoor
open Go Go.RowKit
attribute [local go_sem ↓] Go.wp_at_zero Go.wp_at_succ


def headZ (zs : List Int) : List Int := zs.take (zs.length - 4)
def tailZ (zs : List Int) : List Int := zs.drop (zs.length - 4)
def unsB (zs : List Int) : Bool := decide (4 ≤ zs.length) && decide (sumZ (Crc.crc (headZ zs) : Nat) = tailZ zs)
theorem uns_lo {zs : List Int} (h : zs.length < 4) : unsB zs = false := by unfold unsB; rw [decide_eq_false (by omega)]; rfl
theorem uns_no {zs : List Int} (h : ¬ sumZ (Crc.crc (headZ zs) : Nat) = tailZ zs) : unsB zs = false := by unfold unsB; rw [decide_eq_false h]; simp
theorem uns_yes {zs : List Int} (h4 : 4 ≤ zs.length) (h : sumZ (Crc.crc (headZ zs) : Nat) = tailZ zs) : unsB zs = true := by unfold unsB; rw [decide_eq_true h, decide_eq_true h4]; rfl
theorem tail4 {zs : List Int} (h4 : 4 ≤ zs.length) : ∃ t0 t1 t2 t3, tailZ zs = [t0, t1, t2, t3] ∧ t0 = zs.getD (zs.length - 4) 0 ∧ t1 = zs.getD (zs.length - 4 + 1) 0 ∧ t2 = zs.getD (zs.length - 4 + 2) 0 ∧ t3 = zs.getD (zs.length - 4 + 3) 0 := by
  refine ⟨_, _, _, _, ?_, rfl, rfl, rfl, rfl⟩
  unfold tailZ
  apply List.ext_getElem
  · simp; omega
  intro i h1 h2
  simp at h2
  rw [List.getElem_drop]
  have : i = 0 ∨ i = 1 ∨ i = 2 ∨ i = 3 := by omega
  rcases this with rfl | rfl | rfl | rfl
  all_goals
    simp only [List.getElem_cons_zero, List.getElem_cons_succ, Nat.add_zero]
    rw [List.getD_eq_getElem?_getD, List.getElem?_eq_getElem (by omega)]
    rfl
theorem head_bytes {zs : List Int} (hz : ∀ z ∈ zs, 0 ≤ z ∧ z < 256) : ∀ z ∈ headZ zs, 0 ≤ z ∧ z < 256 := fun z h => hz z (List.mem_of_mem_take h)
theorem head_rd {w : World} {a : Option Addr} {n : Nat} {zs : List Int} (h : RdV w a n (zs.map (Value.int .u8))) : RdV w a (n - 4) ((headZ zs).map (Value.int .u8)) := by
  obtain ⟨hl, hc⟩ := h
  simp only [List.length_map] at hl
  refine ⟨by simp [headZ]; omega, fun h0 => ?_⟩
  obtain ⟨b, off, e, hlt, hc⟩ := hc (by omega)
  refine ⟨b, off, e, hlt, fun i hi => ?_⟩
  rw [hc i (by omega)]
  unfold headZ
  rw [List.getElem?_map, List.getElem?_map, List.getElem?_take_of_lt (by omega)]
def unsV (b off n : Nat) (u : Bool) : Value := if u then .slice (some ⟨b, off, none⟩) (n - 4) (n - 4) else .slice none 0 0
end Go.Proofs.YtlocgbjdnfnilaaDoor
