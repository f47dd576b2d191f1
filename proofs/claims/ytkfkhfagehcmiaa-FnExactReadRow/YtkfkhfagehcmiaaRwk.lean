/-
  Rows that are read: ReadRow of the specification.
-/
import Derived.Test.YtkfkhfagehcmiaaRwj
import Derived.Deep.QuietTactic
import Derived.BigQuiet
import Derived.Deep.RegionHeld3
namespace Go.Proofs.Ytkfkhfagehcmiaa
open Go Go.RowKit
attribute [local go_sem ↓] Go.wp_at_zero Go.wp_at_succ

theorem rr_of_some {zs : List Int} {t i : Int} {u v : VV} (h : ¬ 65536 < zs.length) (h2 : (rk zs).bind rrO = some (t, i, u, v)) : rrAns zs = (0, t, i, u, v) := by unfold rrAns; rw [if_neg h, h2]
theorem rr_of_none {zs : List Int} (h : ¬ 65536 < zs.length) (h2 : (rk zs).bind rrO = none) : rrAns zs = (3, 0, 0, dV, dV) := by unfold rrAns; rw [if_neg h, h2]
set_option maxRecDepth 100000 in
set_option maxHeartbeats 4000000 in
theorem c_specRW (a : Option Addr) (n cap : Nat) (zs : List Int) (w : World) (hr : RdV w a n (zs.map (Value.int .u8))) (hz : ∀ z ∈ zs, 0 ≤ z ∧ z < 256) (hn : n ≤ 1048576) :
    Calls Try.prog 41 #[.slice a n cap] w (AnsW w zs) := by
  have hl : zs.length = n := by simpa using hr.1
  obtain ⟨V, hV⟩ : ∃ V, w.alloc (.cells #[.int .i64 0, .int .i64 0, .int .i64 0, .string ⟨#[]⟩, .int .i64 0, .int .i64 0, .string ⟨#[]⟩] 59) = V := ⟨_, rfl⟩
  have BV : Hid (Below w.heap.size w V) := by unfold Hid; rw [← hV]; exact (Below.refl _ _).alloc (Nat.le_refl _) _
  have XV : Hid (Box V w.heap.size 59 #[.int .i64 0, .int .i64 0, .int .i64 0, .string ⟨#[]⟩, .int .i64 0, .int .i64 0, .string ⟨#[]⟩]) := by unfold Hid; rw [← hV]; exact Box.new _ _ _
  have lV : w.heap.size < V.heap.size := XV.out.lt
  by_cases h6 : 65536 < n
  · have HL : Hid (65536 < zs.length) := by unfold Hid; omega
    have c6 : (65536 : Int) < (n : Int) := by omega
    clear hr hz hl
    go_enter Try.func41, Try.ntmps41
    have E : Hid (rrAns zs = (2, 0, 0, dV, dV)) := rr2 HL.out
    obtain ⟨y0, y1, y2, y3, y4, y5, y6⟩ := box7 XV.out
    obtain ⟨s0, s1, s2, s3, s4, s5, s6⟩ := thaw7 XV.out
    obtain ⟨N, hN⟩ : ∃ Q, put7 V w.heap.size (.int .i64 0) (.int .i64 0) (.int .i64 0) (.string ⟨#[]⟩) (.int .i64 0) (.int .i64 0) (.string ⟨#[]⟩) = Q := ⟨_, rfl⟩
    have XN : Hid (Box N w.heap.size 59 #[.int .i64 0, .int .i64 0, .int .i64 0, .string ⟨#[]⟩, .int .i64 0, .int .i64 0, .string ⟨#[]⟩]) := by unfold Hid; rw [← hN]; exact put7_box XV.out _ _ _ _ _ _ _
    have BN : Hid (Below w.heap.size w N) := by unfold Hid; rw [← hN]; exact put7_below BV.out (Nat.le_refl _) _ _ _ _ _ _ _
    unfold put7 at hN
    go_wp2
    exact retW Try.results41 rfl rfl rfl rfl XN.out E.out BN.out
  have c6 : ¬ (65536 : Int) < (n : Int) := by omega
  have HL : Hid (¬ 65536 < zs.length) := by unfold Hid; omega
  obtain ⟨y, hy⟩ : ∃ y, y = strOfNums zs := ⟨_, rfl⟩
  have hcv : (convert 31 9 (.slice a n cap)).run Try.prog V = .ok (.string y) V := by rw [hy]; exact conv8 (hr.below BV.out)
  have CL : Hid (Calls Try.prog 66 #[.string y] V (AnsL V zs)) := by unfold Hid; rw [hy]; exact c_lRead zs V hz (by omega)
  clear hr hz hl hy
  go_enter Try.func41, Try.ntmps41
  go_wp2_with fail
  refine CL.out.mono ?_
  rintro e w1 ⟨⟨t, i, u, v, k, rfl, hk⟩, hb⟩
  have HK : Hid ((k = true ∧ (rk zs).bind rrO = some (t, i, u, v)) ∨ (k = false ∧ (rk zs).bind rrO = none)) := hk
  have B1 : Hid (Below w.heap.size w w1) := BV.out.trans (hb.mono BV.out.size)
  have X1 : Hid (Box w1 w.heap.size 59 #[.int .i64 0, .int .i64 0, .int .i64 0, .string ⟨#[]⟩, .int .i64 0, .int .i64 0, .string ⟨#[]⟩]) := XV.out.belowS hb
  have l1 : w.heap.size < w1.heap.size := X1.out.lt
  clear hk hb CL hV hcv
  obtain ⟨q1, hq1⟩ : ∃ Q, w1.alloc (.cells #[.int .i64 0, .int .i64 0, .int .i64 0, .string ⟨#[]⟩, .int .i64 0, .int .i64 0, .string ⟨#[]⟩] 59) = Q := ⟨_, rfl⟩
  have bq : Below w1.heap.size w1 q1 := by rw [← hq1]; exact (Below.refl _ _).alloc (Nat.le_refl _) _
  have Q1 : Hid (Box q1 w1.heap.size 59 #[.int .i64 0, .int .i64 0, .int .i64 0, .string ⟨#[]⟩, .int .i64 0, .int .i64 0, .string ⟨#[]⟩]) := by unfold Hid; rw [← hq1]; exact Box.new _ _ _
  have X2 : Hid (Box q1 w.heap.size 59 #[.int .i64 0, .int .i64 0, .int .i64 0, .string ⟨#[]⟩, .int .i64 0, .int .i64 0, .string ⟨#[]⟩]) := X1.out.belowS bq
  have B2 : Hid (Below w.heap.size w q1) := B1.out.trans (bq.mono B1.out.size)
  clear bq
  obtain ⟨y0, y1, y2, y3, y4, y5, y6⟩ := box7 Q1.out
  obtain ⟨s0, s1, s2, s3, s4, s5, s6⟩ := thaw7 Q1.out
  obtain ⟨w2, hw2⟩ : ∃ Q, put7 q1 w1.heap.size (.int .i64 i) (.int .i64 u.1) (.int .i64 u.2.1) (.string u.2.2) (.int .i64 v.1) (.int .i64 v.2.1) (.string v.2.2) = Q := ⟨_, rfl⟩
  have R2 : Hid (Box w2 w1.heap.size 59 #[.int .i64 i, .int .i64 u.1, .int .i64 u.2.1, .string u.2.2, .int .i64 v.1, .int .i64 v.2.1, .string v.2.2]) := by unfold Hid; rw [← hw2]; exact put7_box Q1.out _ _ _ _ _ _ _
  have X3 : Hid (Box w2 w.heap.size 59 #[.int .i64 0, .int .i64 0, .int .i64 0, .string ⟨#[]⟩, .int .i64 0, .int .i64 0, .string ⟨#[]⟩]) := by unfold Hid; rw [← hw2]; exact put7_other X2.out (by omega) _ _ _ _ _ _ _
  have B3 : Hid (Below w.heap.size w w2) := by unfold Hid; rw [← hw2]; exact put7_below B2.out (by omega) _ _ _ _ _ _ _
  unfold put7 at hw2
  cases k
  · have HN : Hid ((rk zs).bind rrO = none) := by
      rcases HK.out with ⟨h, _⟩ | ⟨_, h⟩
      · exact Bool.noConfusion h
      · exact h
    have E : Hid (rrAns zs = (3, 0, 0, dV, dV)) := rr_of_none HL.out HN.out
    obtain ⟨x0, x1, x2, x3, x4, x5, x6⟩ := box7 X3.out
    obtain ⟨z0, z1, z2, z3, z4, z5, z6⟩ := thaw7 X3.out
    obtain ⟨N, hN⟩ : ∃ Q, put7 w2 w.heap.size (.int .i64 0) (.int .i64 0) (.int .i64 0) (.string ⟨#[]⟩) (.int .i64 0) (.int .i64 0) (.string ⟨#[]⟩) = Q := ⟨_, rfl⟩
    have XN : Hid (Box N w.heap.size 59 #[.int .i64 0, .int .i64 0, .int .i64 0, .string ⟨#[]⟩, .int .i64 0, .int .i64 0, .string ⟨#[]⟩]) := by unfold Hid; rw [← hN]; exact put7_box X3.out _ _ _ _ _ _ _
    have BN : Hid (Below w.heap.size w N) := by unfold Hid; rw [← hN]; exact put7_below B3.out (Nat.le_refl _) _ _ _ _ _ _ _
    unfold put7 at hN
    go_wp2
    exact retW Try.results41 rfl rfl rfl rfl XN.out E.out BN.out
  · have HN : Hid ((rk zs).bind rrO = some (t, i, u, v)) := by
      rcases HK.out with ⟨_, h⟩ | ⟨h, _⟩
      · exact h
      · exact Bool.noConfusion h
    have E : Hid (rrAns zs = (0, t, i, u, v)) := rr_of_some HL.out HN.out
    obtain ⟨r0, r1, r2, r3, r4, r5, r6⟩ := box7 R2.out
    obtain ⟨x0, x1, x2, x3, x4, x5, x6⟩ := box7 X3.out
    obtain ⟨z0, z1, z2, z3, z4, z5, z6⟩ := thaw7 X3.out
    go_wp2_with fail
    go_region
    obtain ⟨N, hN⟩ : ∃ Q, put7 w2 w.heap.size (.int .i64 i) (.int .i64 u.1) (.int .i64 u.2.1) (.string u.2.2) (.int .i64 v.1) (.int .i64 v.2.1) (.string v.2.2) = Q := ⟨_, rfl⟩
    have XNq : Box N w.heap.size 59 #[.int .i64 i, .int .i64 u.1, .int .i64 u.2.1, .string u.2.2, .int .i64 v.1, .int .i64 v.2.1, .string v.2.2] := by rw [← hN]; exact put7_box X3.out _ _ _ _ _ _ _
    have BNq : Below w.heap.size w N := by rw [← hN]; exact put7_below B3.out (Nat.le_refl _) _ _ _ _ _ _ _
    have XN : Hid (Box N.drew w.heap.size 59 #[.int .i64 i, .int .i64 u.1, .int .i64 u.2.1, .string u.2.2, .int .i64 v.1, .int .i64 v.2.1, .string v.2.2]) := XNq
    have BN : Hid (Below w.heap.size w N.drew) := BNq.drew
    unfold put7 at hN
    rw [hN]
    go_wp2
    exact retW Try.results41 rfl rfl rfl rfl XN.out E.out BN.out

end Go.Proofs.Ytkfkhfagehcmiaa
