/-
  ModesFit on both sides, and the walk of its law.
-/
import Derived.Test.YtmjacoocnkcilaaDoorLc
namespace Go.Proofs.YtmjacoocnkcilaaDoor
open Go Go.RowKit
attribute [local go_sem ↓] Go.wp_at_zero Go.wp_at_succ

def mfB (a b : Int) : Bool := if inB a 1 4 = true ∧ inB b 1 4 = true then fitB a b else false
def mfC (a b : Int) : Int := if inB a 1 4 = true ∧ inB b 1 4 = true then 0 else 4
theorem mf_no {a b : Int} (h : inB a 1 4 = false ∨ inB b 1 4 = false) : mfB a b = false ∧ mfC a b = 4 := by
  have : ¬ (inB a 1 4 = true ∧ inB b 1 4 = true) := fun x => by rcases h with h | h <;> simp_all
  exact ⟨if_neg this, if_neg this⟩
theorem mf_yes {a b : Int} (h1 : inB a 1 4 = true) (h2 : inB b 1 4 = true) : mfB a b = fitB a b ∧ mfC a b = 0 := ⟨if_pos ⟨h1, h2⟩, if_pos ⟨h1, h2⟩⟩
set_option maxRecDepth 100000 in
set_option maxHeartbeats 4000000 in
theorem c_specMF (a b : Int) (w : World) : Calls Tryd.prog 13 #[.int .i64 a, .int .i64 b] w fun e w' => e = .returned (.tuple #[.bool (mfB a b), .int .i64 (mfC a b)]) ∧ Below w.heap.size w w' := by
  obtain ⟨p1, h1⟩ : ∃ p, inB a 1 4 = p := ⟨_, rfl⟩
  obtain ⟨p2, h2⟩ : ∃ p, inB b 1 4 = p := ⟨_, rfl⟩
  have C1 : Hid (Calls Tryd.prog 39 #[.int .i64 a, .int .i64 1, .int .i64 4] w fun e w' => e = .returned (.bool p1) ∧ w' = w) := by unfold Hid; rw [← h1]; exact c_in a 1 4 w
  have C2 : Hid (Calls Tryd.prog 39 #[.int .i64 b, .int .i64 1, .int .i64 4] w fun e w' => e = .returned (.bool p2) ∧ w' = w) := by unfold Hid; rw [← h2]; exact c_in b 1 4 w
  cases p1
  · have E : Hid (mfB a b = false ∧ mfC a b = 4) := mf_no (.inl h1)
    go_enter Tryd.func13, Tryd.ntmps13
    go_wp2_with fail
    refine C1.out.mono ?_
    rintro e w1 ⟨rfl, rfl⟩
    go_wp2
    go_ret2
    exact ⟨by rw [E.out.1, E.out.2]; rfl, Below.refl _ _⟩
  cases p2
  · have E : Hid (mfB a b = false ∧ mfC a b = 4) := mf_no (.inr h2)
    go_enter Tryd.func13, Tryd.ntmps13
    go_wp2_with fail
    refine C1.out.mono ?_
    rintro e w1 ⟨rfl, rfl⟩
    go_wp2_with fail
    refine C2.out.mono ?_
    rintro e w1 ⟨rfl, rfl⟩
    go_wp2
    go_ret2
    exact ⟨by rw [E.out.1, E.out.2]; rfl, Below.refl _ _⟩
  have E : Hid (mfB a b = fitB a b ∧ mfC a b = 0) := mf_yes h1 h2
  have ha := inB_iff.1 h1
  have hb := inB_iff.1 h2
  clear h1 h2
  go_enter Tryd.func13, Tryd.ntmps13
  go_wp2_with fail
  refine C1.out.mono ?_
  rintro e w1 ⟨rfl, rfl⟩
  go_wp2_with fail
  refine C2.out.mono ?_
  rintro e w1 ⟨rfl, rfl⟩
  go_wp2_with fail
  refine (c_fit a b _).mono ?_
  rintro e w1 ⟨rfl, rfl⟩
  go_wp2
  go_ret2
  exact ⟨by rw [E.out.1, E.out.2]; rfl, Below.refl _ _⟩
set_option maxRecDepth 100000 in
set_option maxHeartbeats 4000000 in
theorem c_implMF (a b : Int) (w : World) (ht : FitH w) : Calls Tryd.prog 14 #[.int .i64 a, .int .i64 b] w fun e w' => e = .returned (.tuple #[.bool (mfB a b), .int .i64 (mfC a b)]) ∧ Below w.heap.size w w' := by
  have HT : Hid (FitH w) := ht
  clear ht
  obtain ⟨p1, h1⟩ : ∃ p, inB a 1 4 = p := ⟨_, rfl⟩
  obtain ⟨p2, h2⟩ : ∃ p, inB b 1 4 = p := ⟨_, rfl⟩
  have C1 : Hid (Calls Tryd.prog 41 #[.int .i64 a] w fun e w' => e = .returned (.bool p1) ∧ w' = w) := by unfold Hid; rw [← h1]; exact c_isMode a w
  have C2 : Hid (Calls Tryd.prog 41 #[.int .i64 b] w fun e w' => e = .returned (.bool p2) ∧ w' = w) := by unfold Hid; rw [← h2]; exact c_isMode b w
  cases p1
  · have E : Hid (mfB a b = false ∧ mfC a b = 4) := mf_no (.inl h1)
    go_enter Tryd.func14, Tryd.ntmps14
    go_wp2_with fail
    refine C1.out.mono ?_
    rintro e w1 ⟨rfl, rfl⟩
    go_wp2
    go_ret2
    exact ⟨by rw [E.out.1, E.out.2]; rfl, Below.refl _ _⟩
  cases p2
  · have E : Hid (mfB a b = false ∧ mfC a b = 4) := mf_no (.inr h2)
    go_enter Tryd.func14, Tryd.ntmps14
    go_wp2_with fail
    refine C1.out.mono ?_
    rintro e w1 ⟨rfl, rfl⟩
    go_wp2_with fail
    refine C2.out.mono ?_
    rintro e w1 ⟨rfl, rfl⟩
    go_wp2
    go_ret2
    exact ⟨by rw [E.out.1, E.out.2]; rfl, Below.refl _ _⟩
  have E : Hid (mfB a b = fitB a b ∧ mfC a b = 0) := mf_yes h1 h2
  have ha := inB_iff.1 h1
  have hb := inB_iff.1 h2
  clear h1 h2
  go_enter Tryd.func14, Tryd.ntmps14
  go_wp2_with fail
  refine C1.out.mono ?_
  rintro e w1 ⟨rfl, rfl⟩
  go_wp2_with fail
  refine C2.out.mono ?_
  rintro e w1 ⟨rfl, rfl⟩
  go_wp2_with fail
  refine (c_modesFit a b _ HT.out ha hb).mono ?_
  rintro e w1 ⟨rfl, hb1⟩
  go_wp2
  go_ret2
  exact ⟨by rw [E.out.1, E.out.2]; rfl, hb1⟩
set_option maxRecDepth 100000 in
set_option maxHeartbeats 4000000 in
theorem law_FnExactModesFit (a b : Int) (w : World) (ht : FitH w) : Calls Tryd.prog 3 #[.int .i64 a, .int .i64 b] w fun e w' => e = .returned (.bool true) ∧ Below w.heap.size w w' := by
  have HT : Hid (FitH w) := ht
  clear ht
  obtain ⟨B, hB⟩ : ∃ B, mfB a b = B := ⟨_, rfl⟩
  obtain ⟨C, hC⟩ : ∃ C, mfC a b = C := ⟨_, rfl⟩
  have CS : Hid (Calls Tryd.prog 13 #[.int .i64 a, .int .i64 b] w fun e w' => e = .returned (.tuple #[.bool B, .int .i64 C]) ∧ Below w.heap.size w w') := by unfold Hid; rw [← hB, ← hC]; exact c_specMF a b w
  have CI : Hid (∀ W, FitH W → Calls Tryd.prog 14 #[.int .i64 a, .int .i64 b] W fun e w' => e = .returned (.tuple #[.bool B, .int .i64 C]) ∧ Below W.heap.size W w') := fun W h => by rw [← hB, ← hC]; exact c_implMF a b W h
  clear hB hC
  go_enter Tryd.func3, Tryd.ntmps3
  go_wp2_with fail
  refine CS.out.mono ?_
  rintro e w1 ⟨rfl, hb1⟩
  have B1 : Hid (Below w.heap.size w w1) := hb1
  clear hb1
  go_wp2_with fail
  refine (CI.out w1 (HT.out.below B1.out)).mono ?_
  rintro e w2 ⟨rfl, hb2⟩
  have B2 : Hid (Below w.heap.size w w2) := B1.out.trans (hb2.mono B1.out.size)
  clear hb2
  go_wp2
  go_ret
  exact ⟨rfl, B2.out⟩

end Go.Proofs.YtmjacoocnkcilaaDoor
