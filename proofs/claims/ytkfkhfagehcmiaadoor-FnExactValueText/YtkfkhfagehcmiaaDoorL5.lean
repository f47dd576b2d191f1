/-
  The walk of the law of ValueText.
-/
import Derived.Test.YtkfkhfagehcmiaaDoorVu
namespace Go.Proofs.YtkfkhfagehcmiaaDoor
open Go Go.RowKit

set_option maxRecDepth 100000 in
set_option maxHeartbeats 1000000 in
theorem law_FnExactValueText (k n : Int) (t : ByteArray) (w : World) (hs : t.size ≤ maxLen) (ht : TabP w) :
    Calls Tryd.prog 3 #[.agg #[.int .i64 k, .int .i64 n, .string t]] w fun e w' => e = .returned (.bool true) ∧ Below w.heap.size w w' := by
  have hs' := hs
  unfold maxLen at hs'
  have HT : Hid (TabP w) := ht
  clear ht
  go_enter Tryd.func3, Tryd.ntmps3
  go_wp2_with fail
  refine (c_sz _ _ _ _ _ hs (by omega) (by omega)).mono ?_
  rintro e w1 ⟨rfl, hb1⟩
  have hq1 := (((Below.refl w.heap.size w).alloc (Nat.le_refl _) _).trans (hb1.mono (by simp)))
  obtain ⟨hc1, hf1⟩ := bcell hb1
  by_cases h : (1048576 : Int) - t.size < 0
  · rw [if_pos h]
    go_wp2
    go_ret
    exact ⟨rfl, hq1⟩
  · rw [if_neg h]
    go_wp2_with fail
    refine (c_to _ _ _ _).mono ?_
    rintro e w2 ⟨rfl, hb2⟩
    have hb2 := hb1.trans (hb2.mono hb1.size)
    go_wp2_with fail
    refine (c_specVT _ _ _ _ hs).mono ?_
    rintro e w3 ⟨rfl, hb3⟩
    have hb3 := hb2.trans (hb3.mono hb2.size)
    clear hc1 hf1
    obtain ⟨hc3, hf3⟩ := bcell hb3
    go_wp2_with fail
    refine (c_to _ _ _ _).mono ?_
    rintro e w4 ⟨rfl, hb4⟩
    have hb4 := hb3.trans (hb4.mono hb3.size)
    have hq4 := (((Below.refl w.heap.size w).alloc (Nat.le_refl _) _).trans (hb4.mono (by simp)))
    go_wp2_with fail
    refine (c_implVT _ _ _ _ hs (HT.out.below hq4)).mono ?_
    rintro e w5 ⟨rfl, hb5⟩
    have hb5 := hb4.trans (hb5.mono hb4.size)
    go_wp2
    go_ret
    exact ⟨rfl, ((Below.refl w.heap.size w).alloc (Nat.le_refl _) _).trans (hb5.mono (by simp))⟩
end Go.Proofs.YtkfkhfagehcmiaaDoor
