/-
  Headers: what both answer, and the walk of the program's HeaderBytes.
-/
import Derived.Test.YtlocgbjdnfnilaaDoorSh
namespace Go.Proofs.YtlocgbjdnfnilaaDoor
open Go Go.RowKit
attribute [local go_sem ↓] Go.wp_at_zero Go.wp_at_succ


def hbZ (n : Int) : List Int := [104, n]
def hbR (n : Int) : List Int := if inB n 0 60 then hbZ n ++ sumZ (Crc.crc (hbZ n) : Nat) else []
def hbC (n : Int) : Int := if inB n 0 60 then 0 else 4
theorem hb4 {n : Int} (h : inB n 0 60 = false) : hbC n = 4 ∧ hbR n = [] := by unfold hbC hbR; rw [h]; exact ⟨rfl, rfl⟩
theorem hb0 {n : Int} (h : inB n 0 60 = true) : hbC n = 0 ∧ hbR n = hbZ n ++ sumZ (Crc.crc (hbZ n) : Nat) := by unfold hbC hbR; rw [h]; exact ⟨rfl, rfl⟩
theorem hb_bytes {n : Int} (h : inB n 0 60 = true) : ∀ z ∈ hbZ n, 0 ≤ z ∧ z < 256 := by
  have h1 : 0 ≤ n ∧ n ≤ 60 := by simpa [inB] using h
  intro z hz
  simp [hbZ] at hz
  rcases hz with rfl | rfl <;> omega
theorem hbR_fit (n : Int) : (hbR n).length ≤ 1048576 := by
  cases h : inB n 0 60
  · rw [(hb4 h).2]; simp
  · rw [(hb0 h).2]; simp [hbZ, sumZ]
theorem c_epoch (n : Int) (w : World) : Calls Tryd.prog 55 #[.int .i64 n] w fun e w' => e = .returned (.bool (inB n 0 60)) ∧ w' = w := by
  by_cases h1 : 0 ≤ n <;> by_cases h2 : n ≤ 60
  all_goals
    go_enter Tryd.func55, Tryd.ntmps55
    go_wp2
    go_ret
    exact ⟨ret_bool (by simp [inB, h1, h2]), rfl⟩
set_option maxRecDepth 100000 in
set_option maxHeartbeats 2000000 in
theorem c_implHB (n : Int) (w : World) (ht : TabH w) :
    Calls Tryd.prog 36 #[.int .i64 n] w fun e w' => (∃ ha hc, e = .returned (.tuple #[.slice ha (hbR n).length hc, .int .i64 (hbC n)]) ∧ w'.ownsRow w.heap.size 5 1 (.slice ha (hbR n).length hc) (hbR n).length ((hbR n).map (Value.int .u8))) ∧ Below w.heap.size w w' := by
  cases h1 : inB n 0 60
  · have E : Hid (hbC n = 4 ∧ hbR n = []) := hb4 h1
    clear ht
    go_enter Tryd.func36, Tryd.ntmps36
    go_wp2_with (go_at_call 55; refine (c_epoch _ _).mono ?_; rintro e w' ⟨rfl, hq⟩; have hq' := hq.symm; subst hq'; clear hq; rw [h1])
    go_ret2
    rw [E.out.1, E.out.2]
    exact ⟨⟨none, 0, rfl, World.ownsRow_nil _ _ _ _⟩, Below.refl _ _⟩
  · have E : Hid (hbC n = 0 ∧ hbR n = hbZ n ++ sumZ (Crc.crc (hbZ n) : Nat)) := hb0 h1
    obtain ⟨V, hV⟩ : ∃ V, w.alloc (.cells #[.int .u8 104, .int .u8 n] 5) = V := ⟨_, rfl⟩
    have HB : Hid (Below w.heap.size w V) := by unfold Hid; rw [← hV]; exact (Below.refl _ _).alloc (Nat.le_refl _) _
    have RV : RdV V (some ⟨w.heap.size, 0, none⟩) 2 ((hbZ n).map (Value.int .u8)) := by
      rw [← hV]
      exact RdV.own (World.ownsRow_lit (base := 0) (e := 5) w #[.int .u8 104, .int .u8 n] 2 (Nat.zero_le _) (by unfold maxLen; omega) rfl)
    have SL : Hid (Calls Tryd.prog 56 #[.slice (some ⟨w.heap.size, 0, none⟩) 2 2] V fun e w' => (∃ a' c', e = .returned (.slice a' (hbR n).length c') ∧ w'.ownsRow V.heap.size 5 1 (.slice a' (hbR n).length c') (hbR n).length ((hbR n).map (Value.int .u8))) ∧ Below V.heap.size V w') := by
      have hl : (hbR n).length = 2 + 4 := by rw [E.out.2]; rfl
      rw [hl, E.out.2]
      exact c_seal w.heap.size 0 2 2 (hbZ n) V RV (hb_bytes h1) (by omega) (by omega) (ht.below HB.out) _ rfl
    have hw : IntKind.u8.wrap n = n := by have h2 : 0 ≤ n ∧ n ≤ 60 := (by simpa [inB] using h1); rw [IntKind.wrap_u8']; omega
    clear ht RV
    go_enter Tryd.func36, Tryd.ntmps36
    go_wp2_with (first
      | (go_at_call 55; refine (c_epoch _ _).mono ?_; rintro e w' ⟨rfl, hq⟩; have hq' := hq.symm; subst hq'; clear hq; rw [h1])
      | (go_at_call 56; refine SL.out.mono ?_; rintro e w2 ⟨⟨a2, c2, rfl, o2⟩, hb⟩; have B2 : Hid (Below w.heap.size w w2) := (HB.out.trans (hb.mono HB.out.size)); have O2 : Hid (w2.ownsRow w.heap.size 5 1 (.slice a2 (hbR n).length c2) (hbR n).length ((hbR n).map (Value.int .u8))) := (o2.down HB.out.size); clear hb o2 SL))
    go_ret2
    rw [E.out.1]
    exact ⟨⟨a2, c2, rfl, O2.out⟩, B2.out⟩

end Go.Proofs.YtlocgbjdnfnilaaDoor
