/-
  LogLinks of the program: what a record is to its transaction's.
-/
import Derived.Test.YtimdoaehlciecaaYta
import Derived.Test.YtimdoaehlciecaaLp
import Derived.Deep.RegionHeld3
namespace Go.Proofs.Ytimdoaehlciecaa
open Go Go.RowKit
attribute [local go_sem ↓] Go.wp_at_zero Go.wp_at_succ

set_option maxRecDepth 100000 in
set_option maxHeartbeats 2000000 in
theorem c_isOwn (a : Option Addr) (n cap : Nat) (L : List DR) (lsn tx : Int) (w : World) (hr : RdQ w a n L) (hn : n ≤ 1048576) :
    Calls Try.prog 37 #[.slice a n cap, .int .i64 lsn, .int .i64 tx] w fun e w' => e = .returned (.bool (ownR L lsn tx)) ∧ w' = w := by
  obtain ⟨hl, hcs⟩ := hr
  by_cases h1 : 1 ≤ lsn
  case neg =>
    have E : Hid (ownR L lsn tx = false) := by unfold Hid ownR; rw [decide_eq_false h1]; rfl
    go_enter Try.func37, Try.ntmps37
    go_wp2
    go_ret
    exact ⟨ret_bool E.out.symm, rfl⟩
  by_cases h2 : lsn ≤ (n : Int)
  case neg =>
    have E : Hid (ownR L lsn tx = false) := by unfold Hid ownR; rw [decide_eq_true h1, hl, decide_eq_false h2]; rfl
    go_enter Try.func37, Try.ntmps37
    go_wp2
    go_ret
    exact ⟨ret_bool E.out.symm, rfl⟩
  obtain ⟨m, rfl⟩ : ∃ m : Nat, lsn = (m : Int) + 1 := ⟨(lsn - 1).toNat, by omega⟩
  obtain ⟨b, off, rfl, hbl, hc⟩ := hcs (by omega)
  obtain ⟨⟨ve, vl, vt, vk, vp, vn, vg, vz, vb, va⟩, hv⟩ : ∃ v, v = L.getD m zeroR := ⟨_, rfl⟩
  obtain ⟨d0, d1, d2, d3, d4, d5, d6, d7, d8, d9⟩ := RdQ.at hc (show m < n by omega) hv
  dsimp only at d2 d3
  have E0 : Hid (ownR L ((m : Int) + 1) tx = (decide (vt = tx) && decide (vk ≤ 3))) := by
    unfold Hid ownR
    rw [decide_eq_true h1, hl, decide_eq_true h2, show ((m : Int) + 1 - 1).toNat = m by omega, ← hv]
    rfl
  have g1 : (0 : Int) ≤ (m : Int) := by omega
  have g2 : (m : Int) < (n : Int) := by omega
  clear d0 d1 d4 d5 d6 d7 d8 d9 hv hc hcs
  by_cases h3 : vt = tx
  case neg =>
    have E : Hid (ownR L ((m : Int) + 1) tx = false) := by unfold Hid; rw [E0.out, decide_eq_false h3]; rfl
    go_enter Try.func37, Try.ntmps37
    go_wp2
    go_ret
    exact ⟨ret_bool E.out.symm, rfl⟩
  have E1 : Hid (ownR L ((m : Int) + 1) tx = decide (vk ≤ 3)) := by unfold Hid; rw [E0.out, decide_eq_true h3]; rfl
  subst h3
  by_cases h4 : vk ≤ 3
  · have E : Hid (ownR L ((m : Int) + 1) vt = true) := by unfold Hid; rw [E1.out, decide_eq_true h4]
    go_enter Try.func37, Try.ntmps37
    go_wp2
    go_ret
    exact ⟨ret_bool E.out.symm, rfl⟩
  · have E : Hid (ownR L ((m : Int) + 1) vt = false) := by unfold Hid; rw [E1.out, decide_eq_false h4]
    go_enter Try.func37, Try.ntmps37
    go_wp2
    go_ret
    exact ⟨ret_bool E.out.symm, rfl⟩

set_option maxRecDepth 100000 in
set_option maxHeartbeats 8000000 in
theorem c_follows (a : Option Addr) (n cap : Nat) (L : List DR) (ve vl vt vk vp vn vg vz : Int) (vb va : ByteArray) (la : Int) (w : World) (hr : RdQ w a n L) (hn : n ≤ 1048576) :
    Calls Try.prog 26 #[.slice a n cap, .agg #[.int .i64 ve, .int .i64 vl, .int .i64 vt, .int .i64 vk, .int .i64 vp, .int .i64 vn, .int .i64 vg, .int .i64 vz, .string vb, .string va], .int .i64 la] w fun e w' => e = .returned (.bool (folI L ⟨ve, vl, vt, vk, vp, vn, vg, vz, vb, va⟩ la)) ∧ Below w.heap.size w w' := by
  obtain ⟨V, hV⟩ : ∃ V, w.alloc (.cells #[.int .i64 ve, .int .i64 vl, .int .i64 vt, .int .i64 vk, .int .i64 vp, .int .i64 vn, .int .i64 vg, .int .i64 vz, .string vb, .string va] 43) = V := ⟨_, rfl⟩
  have B0 : Hid (Below w.heap.size w V) := by unfold Hid; rw [← hV]; exact (Below.refl _ _).alloc (Nat.le_refl _) _
  have X0 : Hid (Box V w.heap.size 43 #[.int .i64 ve, .int .i64 vl, .int .i64 vt, .int .i64 vk, .int .i64 vp, .int .i64 vn, .int .i64 vg, .int .i64 vz, .string vb, .string va]) := by unfold Hid; rw [← hV]; exact Box.new _ _ _
  have CO : Hid (∀ lsn : Int, Calls Try.prog 37 #[.slice a n cap, .int .i64 lsn, .int .i64 vt] V fun e w' => e = .returned (.bool (ownR L lsn vt)) ∧ w' = V) := fun lsn => c_isOwn a n cap L lsn vt V (hr.below B0.out) hn
  clear hr
  obtain ⟨x0, x1, x2, x3, x4, x5, x6, x7, x8, x9⟩ := box10 X0.out
  have FE : Hid (folI L ⟨ve, vl, vt, vk, vp, vn, vg, vz, vb, va⟩ la = ((decide (vp = la) && (!(decide (0 < la)) || ownR L la vt)) && (!(decide (vk = 3)) || ownR L vn vt))) := rfl
  by_cases h1 : vp = la
  case neg =>
    have c1 : (vp != la) = true := by simpa using h1
    have E : Hid (folI L ⟨ve, vl, vt, vk, vp, vn, vg, vz, vb, va⟩ la = false) := by unfold Hid; rw [FE.out, decide_eq_false h1]; rfl
    clear h1
    go_enter Try.func26, Try.ntmps26
    go_wp2
    go_ret
    exact ⟨ret_bool E.out.symm, B0.out⟩
  subst h1
  have c1 : (vp != vp) = false := by simp
  by_cases h2 : 0 < vp
  case neg =>
    have f0 : decide (0 < vp) = false := decide_eq_false h2
    clear h2
    by_cases h3 : vk = 3
    case neg =>
      have c3 : (vk != 3) = true := by simpa using h3
      have E : Hid (folI L ⟨ve, vl, vt, vk, vp, vn, vg, vz, vb, va⟩ vp = true) := by unfold Hid; rw [FE.out, decide_eq_true (rfl : vp = vp), f0, decide_eq_false h3]; rfl
      clear h3
      go_enter Try.func26, Try.ntmps26
      go_wp2
      go_ret
      exact ⟨ret_bool E.out.symm, B0.out⟩
    have c3 : (vk != 3) = false := by simpa using h3
    cases hon : ownR L vn vt
    · have E : Hid (folI L ⟨ve, vl, vt, vk, vp, vn, vg, vz, vb, va⟩ vp = false) := by unfold Hid; rw [FE.out, decide_eq_true (rfl : vp = vp), f0, decide_eq_true h3, hon]; rfl
      have Cn := CO.out vn
      rw [hon] at Cn
      clear h3 hon
      go_enter Try.func26, Try.ntmps26
      go_wp2_with fail
      refine Cn.mono ?_
      rintro e w' ⟨rfl, hw⟩
      have hw' := hw.symm
      subst hw'
      clear hw Cn
      go_wp2
      go_ret
      exact ⟨ret_bool E.out.symm, B0.out⟩
    · have E : Hid (folI L ⟨ve, vl, vt, vk, vp, vn, vg, vz, vb, va⟩ vp = true) := by unfold Hid; rw [FE.out, decide_eq_true (rfl : vp = vp), f0, decide_eq_true h3, hon]; rfl
      have Cn := CO.out vn
      rw [hon] at Cn
      clear h3 hon
      go_enter Try.func26, Try.ntmps26
      go_wp2_with fail
      refine Cn.mono ?_
      rintro e w' ⟨rfl, hw⟩
      have hw' := hw.symm
      subst hw'
      clear hw Cn
      go_wp2
      go_ret
      exact ⟨ret_bool E.out.symm, B0.out⟩
  have c2 : decide (0 < vp) = true := decide_eq_true h2
  have Cp := CO.out vp
  cases hop : ownR L vp vt
  · have E : Hid (folI L ⟨ve, vl, vt, vk, vp, vn, vg, vz, vb, va⟩ vp = false) := by unfold Hid; rw [FE.out, decide_eq_true (rfl : vp = vp), c2, hop]; rfl
    rw [hop] at Cp
    clear hop
    go_enter Try.func26, Try.ntmps26
    go_wp2_with fail
    refine Cp.mono ?_
    rintro e w' ⟨rfl, hw⟩
    have hw' := hw.symm
    subst hw'
    clear hw Cp
    go_wp2
    go_ret
    exact ⟨ret_bool E.out.symm, B0.out⟩
  rw [hop] at Cp
  have f1 : (!(decide (0 < vp)) || ownR L vp vt) = true := by rw [hop, c2]; rfl
  clear hop
  by_cases h3 : vk = 3
  case neg =>
    have c3 : (vk != 3) = true := by simpa using h3
    have E : Hid (folI L ⟨ve, vl, vt, vk, vp, vn, vg, vz, vb, va⟩ vp = true) := by unfold Hid; rw [FE.out, decide_eq_true (rfl : vp = vp), f1, decide_eq_false h3]; rfl
    clear h3
    go_enter Try.func26, Try.ntmps26
    go_wp2_with fail
    refine Cp.mono ?_
    rintro e w' ⟨rfl, hw⟩
    have hw' := hw.symm
    subst hw'
    clear hw Cp
    go_wp2
    go_ret
    exact ⟨ret_bool E.out.symm, B0.out⟩
  have c3 : (vk != 3) = false := by simpa using h3
  cases hon : ownR L vn vt
  · have E : Hid (folI L ⟨ve, vl, vt, vk, vp, vn, vg, vz, vb, va⟩ vp = false) := by unfold Hid; rw [FE.out, decide_eq_true (rfl : vp = vp), f1, decide_eq_true h3, hon]; rfl
    have Cn := CO.out vn
    rw [hon] at Cn
    clear h3 hon
    go_enter Try.func26, Try.ntmps26
    go_wp2_with fail
    refine Cp.mono ?_
    rintro e w' ⟨rfl, hw⟩
    have hw' := hw.symm
    subst hw'
    clear hw Cp
    go_wp2_with fail
    refine Cn.mono ?_
    rintro e w' ⟨rfl, hw⟩
    have hw' := hw.symm
    subst hw'
    clear hw Cn
    go_wp2
    go_ret
    exact ⟨ret_bool E.out.symm, B0.out⟩
  · have E : Hid (folI L ⟨ve, vl, vt, vk, vp, vn, vg, vz, vb, va⟩ vp = true) := by unfold Hid; rw [FE.out, decide_eq_true (rfl : vp = vp), f1, decide_eq_true h3, hon]; rfl
    have Cn := CO.out vn
    rw [hon] at Cn
    clear h3 hon
    go_enter Try.func26, Try.ntmps26
    go_wp2_with fail
    refine Cp.mono ?_
    rintro e w' ⟨rfl, hw⟩
    have hw' := hw.symm
    subst hw'
    clear hw Cp
    go_wp2_with fail
    refine Cn.mono ?_
    rintro e w' ⟨rfl, hw⟩
    have hw' := hw.symm
    subst hw'
    clear hw Cn
    go_wp2
    go_ret
    exact ⟨ret_bool E.out.symm, B0.out⟩

end Go.Proofs.Ytimdoaehlciecaa
