/-
  Records: read back of their bytes; with a byte changed their sum is wrong.
-/
import Derived.Test.YtbjefhdacfijpaaDoorFm
import Derived.Test.YtbjefhdacfijpaaDoorRb
import Derived.Test.YtbjefhdacfijpaaDoorTa
import Derived.Test.YtbjefhdacfijpaaDoorRu
namespace Go.Proofs.YtbjefhdacfijpaaDoor
open Go Go.RowKit
attribute [local go_sem ↓] Go.wp_at_zero Go.wp_at_succ


theorem okR_two (b a : ByteArray) : okR (fbZ [b, a] 2 2) = some [b, a] := by
  rw [fbZ_fl [b, a] 2 rfl]
  show (if (100 : Int) < 2 then none else rd (2 : Int).toNat (fl [b, a])) = some [b, a]
  rw [if_neg (by omega)]
  exact rd_fl [b, a]
theorem rr_back {D : DR} (h : okLR D = true) : rrD (rbZ D) = some D := by
  have hd : (rbZ D).drop 9 = fbZ [D.b, D.a] 2 2 := rfl
  have hl : ¬ (rbZ D).length < 9 := by unfold rbZ; simp
  have hn : numD (rbZ D) D.b D.a = D := rfl
  unfold rrD
  rw [if_neg hl, if_pos (show (rbZ D).getD 0 0 = 108 from rfl), hd, okR_two]
  show (if okLR (numD (rbZ D) D.b D.a) = true then some (numD (rbZ D) D.b D.a) else none) = some D
  rw [hn, if_pos h]
theorem head_sum (x : List Int) (c : Int) : headZ (x ++ sumZ c) = x := by
  unfold headZ
  have : (x ++ sumZ c).length - 4 = x.length := by simp [sumZ]
  rw [this, List.take_left]
theorem tail_sum (x : List Int) (c : Int) : tailZ (x ++ sumZ c) = sumZ c := by
  unfold tailZ
  have : (x ++ sumZ c).length - 4 = x.length := by simp [sumZ]
  rw [this, List.drop_left]
theorem uns_sealed (x : List Int) : unsB (x ++ sumZ (Crc.crc x : Nat)) = true :=
  uns_yes (by simp [sumZ]) (by rw [head_sum, tail_sum])
theorem sumZ_inj {a b : Nat} (ha : a < 4294967296) (hb : b < 4294967296) (h : sumZ (a : Int) = sumZ (b : Int)) : a = b := by
  unfold sumZ at h
  simp only [List.cons.injEq] at h
  omega
theorem head_four {x s : List Int} (hs : s.length = 4) : headZ (x ++ s) = x := by
  unfold headZ
  have : (x ++ s).length - 4 = x.length := by simp [hs]
  rw [this, List.take_left]
theorem tail_four {x s : List Int} (hs : s.length = 4) : tailZ (x ++ s) = s := by
  unfold tailZ
  have : (x ++ s).length - 4 = x.length := by simp [hs]
  rw [this, List.drop_left]
theorem uns_flip {x : List Int} (hx : ∀ z ∈ x, 0 ≤ z ∧ z < 256) {i : Nat} {c : Int} (hi : i < x.length + 4) (hc : 0 ≤ c ∧ c < 256) (hne : c ≠ (x ++ sumZ (Crc.crc x : Nat)).getD i 0) : unsB ((x ++ sumZ (Crc.crc x : Nat)).set i c) = false := by
  by_cases h : i < x.length
  · have e1 : (x ++ sumZ (Crc.crc x : Nat)).set i c = x.set i c ++ sumZ (Crc.crc x : Nat) := by rw [List.set_append_left _ _ h]
    have hne2 : c ≠ x.getD i 0 := by rwa [List.getD_eq_getElem?_getD, List.getElem?_append_left h, ← List.getD_eq_getElem?_getD] at hne
    have hx2 : ∀ z ∈ x.set i c, 0 ≤ z ∧ z < 256 := fun z hz => by
      rcases List.mem_or_eq_of_mem_set hz with h1 | h1
      · exact hx z h1
      · rw [h1]; exact hc
    rw [e1]
    refine uns_no ?_
    rw [head_sum, tail_sum]
    intro e
    exact Crc.crc_changes x i c hx h hc hne2 (sumZ_inj (crc_lt _ hx2) (crc_lt _ hx) e)
  · have e1 : (x ++ sumZ (Crc.crc x : Nat)).set i c = x ++ (sumZ (Crc.crc x : Nat)).set (i - x.length) c := by rw [List.set_append_right _ _ (by omega)]
    have hl : ((sumZ (Crc.crc x : Nat)).set (i - x.length) c).length = 4 := by simp [sumZ]
    rw [e1]
    refine uns_no ?_
    rw [head_four hl, tail_four hl]
    intro e
    apply hne
    rw [List.getD_eq_getElem?_getD, List.getElem?_append_right (by omega), e, List.getElem?_set_self (by simp [sumZ]; omega)]
    rfl

end Go.Proofs.YtbjefhdacfijpaaDoor
