/-
  CodeOK and CodeDepth on both sides, and the walks of their laws.
-/
import Derived.Test.YtcgcaomaofppiaaDoorCh
import Derived.Deep.RegionHeld3
namespace Go.Proofs.YtcgcaomaofppiaaDoor
open Go Go.RowKit
attribute [local go_sem ↓] Go.wp_at_zero Go.wp_at_succ

set_option linter.unusedVariables false
set_option maxRecDepth 100000 in
set_option maxHeartbeats 4000000 in
theorem c_implCO (L : List IN) (a : Option Addr) (n c : Nat) (w : World) (hr : RdI w a n L) (hm : n ≤ maxLen) (hs : ∀ v ∈ L, v.t.size ≤ maxLen) (ht : TakH w) : Calls Tryd.prog 19 #[.slice a n c] w fun e w' => e = .returned (.bool (okC n L)) ∧ Below w.heap.size w w' := by
  have C := c_most L a n c w hr hm hs ht
  obtain ⟨K, hK⟩ : ∃ K, okC n L = K := ⟨_, rfl⟩
  rw [hK] at C ⊢
  clear hr hs ht hK
  go_enter Tryd.func19, Tryd.ntmps19
  go_wp2_with fail
  refine C.mono ?_
  rintro e w1 ⟨⟨m, rfl, _⟩, hb⟩
  have HB : Hid (Below w.heap.size w w1) := hb
  clear hb C
  go_wp2
  go_ret
  exact ⟨rfl, HB.out⟩
set_option maxRecDepth 100000 in
set_option maxHeartbeats 4000000 in
theorem c_specCO (L : List IN) (a : Option Addr) (n c : Nat) (w : World) (hr : RdI w a n L) (hm : n ≤ maxLen) (hs : ∀ v ∈ L, v.t.size ≤ maxLen) : Calls Tryd.prog 22 #[.slice a n c] w fun e w' => e = .returned (.bool (okC n L)) ∧ Below w.heap.size w w' := by
  unfold maxLen at hm
  by_cases h80 : 80 < n
  · have E : Hid (okC n L = false) := by unfold Hid okC; rw [decide_eq_false (by omega)]; rfl
    clear hr hs
    by_cases h4 : 4096 < n
    all_goals
      go_enter Tryd.func22, Tryd.ntmps22
      go_wp2
      go_ret
      exact ⟨by rw [E.out]; rfl, Below.refl _ _⟩
  have C := c_depths L a n c w hr (by omega) hs
  have E : Hid (okC n L = (resC n L).isSome) := by unfold Hid okC; rw [decide_eq_true (by omega), Bool.true_and]
  clear hr hs
  have h4 : ¬ 4096 < n := by omega
  go_enter Tryd.func22, Tryd.ntmps22
  go_wp2_with fail
  refine C.mono ?_
  rintro e w1 ⟨⟨rfl, _⟩, hb⟩
  have HB : Hid (Below w.heap.size w w1) := hb
  clear hb C
  go_wp2
  go_ret
  exact ⟨by rw [E.out]; rfl, HB.out⟩
def cdV (n : Nat) (L : List IN) : Int := if okC n L then depC n L else 0
def cdC (n : Nat) (L : List IN) : Int := if 4096 < n then 2 else if okC n L then 0 else 1
theorem okC_big {n : Nat} {L : List IN} (h : 80 < n) : okC n L = false := by unfold okC; rw [decide_eq_false (by omega)]; rfl
set_option maxRecDepth 100000 in
set_option maxHeartbeats 4000000 in
theorem c_implCD (L : List IN) (a : Option Addr) (n c : Nat) (w : World) (hr : RdI w a n L) (hm : n ≤ maxLen) (hs : ∀ v ∈ L, v.t.size ≤ maxLen) (ht : TakH w) : Calls Tryd.prog 18 #[.slice a n c] w fun e w' => e = .returned (.tuple #[.int .i64 (cdV n L), .int .i64 (cdC n L)]) ∧ Below w.heap.size w w' := by
  have C := c_most L a n c w hr hm hs ht
  unfold maxLen at hm
  by_cases h4 : 4096 < n
  · have E : Hid (cdV n L = 0 ∧ cdC n L = 2) := by unfold Hid cdV cdC; rw [okC_big (by omega), if_pos h4]; exact ⟨rfl, rfl⟩
    clear hr hs ht C
    go_enter Tryd.func18, Tryd.ntmps18
    go_wp2
    go_ret2
    exact ⟨by rw [E.out.1, E.out.2]; rfl, Below.refl _ _⟩
  clear hr hs ht
  go_enter Tryd.func18, Tryd.ntmps18
  go_wp2_with fail
  refine C.mono ?_
  rintro e w1 ⟨⟨m, rfl, hm1⟩, hb⟩
  have HB : Hid (Below w.heap.size w w1) := hb
  have HM : Hid (okC n L = true → m = depC n L) := hm1
  obtain ⟨K, hK⟩ : ∃ K, okC n L = K := ⟨_, rfl⟩
  have HK : Hid (okC n L = K) := hK
  rw [hK]
  clear hb C hm1 hK
  cases K
  · have E : Hid (cdV n L = 0 ∧ cdC n L = 1) := by unfold Hid cdV cdC; rw [HK.out, if_neg h4]; exact ⟨rfl, rfl⟩
    go_wp2
    go_ret2
    exact ⟨by rw [E.out.1, E.out.2]; rfl, HB.out⟩
  · have E : Hid (cdV n L = m ∧ cdC n L = 0) := by unfold Hid cdV cdC; rw [HK.out, if_neg h4, HM.out HK.out]; exact ⟨rfl, rfl⟩
    go_wp2
    go_ret2
    exact ⟨by rw [E.out.1, E.out.2]; rfl, HB.out⟩
end Go.Proofs.YtcgcaomaofppiaaDoor
