/-
  The walk of the law of ReadRow.
-/
import Derived.Test.YtkfkhfagehcmiaaRwk
namespace Go.Proofs.Ytkfkhfagehcmiaa
open Go Go.RowKit
attribute [local go_sem ↓] Go.wp_at_zero Go.wp_at_succ

set_option maxRecDepth 100000 in
set_option maxHeartbeats 4000000 in
theorem law_FnExactReadRow (a : Option Addr) (n cap : Nat) (zs : List Int) (w : World) (hr : RdV w a n (zs.map (Value.int .u8))) (hz : ∀ z ∈ zs, 0 ≤ z ∧ z < 256) (hm : n ≤ maxLen) :
    Calls Try.prog 11 #[.slice a n cap] w fun e w' => e = .returned (.bool true) ∧ Below w.heap.size w w' := by
  unfold maxLen at hm
  have HR : Hid (RdV w a n (zs.map (Value.int .u8))) := hr
  clear hr
  by_cases hbig : 1048576 < n
  · go_enter Try.func11, Try.ntmps11
    go_wp2
    go_ret
    exact ⟨rfl, Below.refl _ _⟩
  have hn : n ≤ 1048576 := by omega
  obtain ⟨⟨c, t, i, u, v⟩, hA⟩ : ∃ A, rrAns zs = A := ⟨_, rfl⟩
  have CS : Hid (∀ (W : World) (a2 : Option Addr) (c2 : Nat), RdV W a2 n (zs.map (Value.int .u8)) → n ≤ c2 → c2 ≤ 9223372036854775807 → Calls Try.prog 41 #[.slice a2 n c2] W fun e w' => e = .returned (.tuple #[.int .i64 t, .agg #[.int .i64 i, .int .i64 u.1, .int .i64 u.2.1, .string u.2.2, .int .i64 v.1, .int .i64 v.2.1, .string v.2.2], .int .i64 c]) ∧ Below W.heap.size W w') := fun W a2 c2 r2 _ _ => by
    have := c_specRW a2 n c2 zs W r2 hz hn
    unfold AnsW at this
    rw [hA] at this
    exact this
  have CI : Hid (∀ (W : World) (a2 : Option Addr) (c2 : Nat), RdV W a2 n (zs.map (Value.int .u8)) → n ≤ c2 → c2 ≤ 9223372036854775807 → Calls Try.prog 42 #[.slice a2 n c2] W fun e w' => e = .returned (.tuple #[.int .i64 t, .agg #[.int .i64 i, .int .i64 u.1, .int .i64 u.2.1, .string u.2.2, .int .i64 v.1, .int .i64 v.2.1, .string v.2.2], .int .i64 c]) ∧ Below W.heap.size W w') := fun W a2 c2 r2 k1 k2 => by
    have := c_implRW a2 n c2 zs W r2 hz hn k1 k2
    unfold AnsW at this
    rw [hA] at this
    exact this
  have TB : Hid (∀ W, Below w.heap.size w W → Calls Try.prog 34 #[.slice a n cap] W fun e w' => e = .returned (.slice (some ⟨W.heap.size, 0, none⟩) n n) ∧ w'.ownsRow W.heap.size 5 1 (.slice (some ⟨W.heap.size, 0, none⟩) n n) n (zs.map (Value.int .u8)) ∧ Below W.heap.size W w') := fun W hW => c_toB a n cap zs W (HR.out.below hW) hn
  have B0 : Hid (Below w.heap.size w w) := Below.refl _ _
  have hcc : (c != c) = false := by simp
  have htt : (t != t) = false := by simp
  have hcap2 : n ≤ 9223372036854775807 := by omega
  clear hA hz HR
  go_enter Try.func11, Try.ntmps11
  go_wp2_with fail
  refine (TB.out w B0.out).mono ?_
  rintro e w1 ⟨rfl, o1, hb⟩
  have T1 : Hid (RdV w1 (some ⟨w.heap.size, 0, none⟩) n (zs.map (Value.int .u8))) := RdV.own o1
  clear o1
  have B1 : Hid (Below w.heap.size w w1) := B0.out.trans (hb.mono B0.out.size)
  have q0_1 : w.heap.size ≤ w1.heap.size := hb.size
  clear B0 hb 
  go_wp2_with fail
  refine (CS.out w1 _ n T1.out (Nat.le_refl _) hcap2).mono ?_
  rintro e w2 ⟨rfl, hb⟩
  clear T1
  have B2 : Hid (Below w.heap.size w w2) := B1.out.trans (hb.mono B1.out.size)
  have q1_2 : w1.heap.size ≤ w2.heap.size := hb.size
  clear B1 hb 
  obtain ⟨q2, hq2⟩ : ∃ Q, w2.alloc (.cells #[.int .i64 0, .int .i64 0, .int .i64 0, .string ⟨#[]⟩, .int .i64 0, .int .i64 0, .string ⟨#[]⟩] 59) = Q := ⟨_, rfl⟩
  have bq : Below w2.heap.size w2 q2 := by rw [← hq2]; exact (Below.refl _ _).alloc (Nat.le_refl _) _
  have Q0 : Box q2 w2.heap.size 59 #[.int .i64 0, .int .i64 0, .int .i64 0, .string ⟨#[]⟩, .int .i64 0, .int .i64 0, .string ⟨#[]⟩] := by rw [← hq2]; exact Box.new _ _ _
  obtain ⟨y0, y1, y2, y3, y4, y5, y6⟩ := box7 Q0
  obtain ⟨s0, s1, s2, s3, s4, s5, s6⟩ := thaw7 Q0
  obtain ⟨w3, hw3⟩ : ∃ Q, put7 q2 w2.heap.size (.int .i64 i) (.int .i64 u.1) (.int .i64 u.2.1) (.string u.2.2) (.int .i64 v.1) (.int .i64 v.2.1) (.string v.2.2) = Q := ⟨_, rfl⟩
  have hb : Below w2.heap.size w2 w3 := by rw [← hw3]; exact put7_below bq (Nat.le_refl _) _ _ _ _ _ _ _
  have X3_ : Hid (Box w3 w2.heap.size 59 #[.int .i64 i, .int .i64 u.1, .int .i64 u.2.1, .string u.2.2, .int .i64 v.1, .int .i64 v.2.1, .string v.2.2]) := by unfold Hid; rw [← hw3]; exact put7_box Q0 _ _ _ _ _ _ _
  clear Q0 bq
  unfold put7 at hw3
  have XS3 := X3_
  clear X3_
  have B3 : Hid (Below w.heap.size w w3) := B2.out.trans (hb.mono B2.out.size)
  have q2_3 : w2.heap.size ≤ w3.heap.size := hb.size
  clear B2 hb 
  go_wp2_with fail
  refine (TB.out w3 B3.out).mono ?_
  rintro e w4 ⟨rfl, o4, hb⟩
  have OX4 : Hid (w4.ownsRow w3.heap.size 5 1 (.slice (some ⟨w3.heap.size, 0, none⟩) n n) n (zs.map (Value.int .u8))) := o4
  clear o4 hw3 hq2 y0 y1 y2 y3 y4 y5 y6 s0 s1 s2 s3 s4 s5 s6
  have B4 : Hid (Below w.heap.size w w4) := B3.out.trans (hb.mono B3.out.size)
  have XS4 : Hid (Box w4 w2.heap.size 59 #[.int .i64 i, .int .i64 u.1, .int .i64 u.2.1, .string u.2.2, .int .i64 v.1, .int .i64 v.2.1, .string v.2.2]) := XS3.out.belowS hb
  have q3_4 : w3.heap.size ≤ w4.heap.size := hb.size
  clear B3 XS3 hb 
  go_wp2_with fail
  refine (CI.out w4 _ n (RdV.own OX4.out) (Nat.le_refl _) hcap2).mono ?_
  rintro e w5 ⟨rfl, hb⟩
  have B5 : Hid (Below w.heap.size w w5) := B4.out.trans (hb.mono B4.out.size)
  have XS5 : Hid (Box w5 w2.heap.size 59 #[.int .i64 i, .int .i64 u.1, .int .i64 u.2.1, .string u.2.2, .int .i64 v.1, .int .i64 v.2.1, .string v.2.2]) := XS4.out.belowS hb
  have OX5 : Hid (w5.ownsRow w3.heap.size 5 1 (.slice (some ⟨w3.heap.size, 0, none⟩) n n) n (zs.map (Value.int .u8))) := own_below OX4.out hb
  have q4_5 : w4.heap.size ≤ w5.heap.size := hb.size
  clear B4 XS4 OX4 hb 
  obtain ⟨q5, hq5⟩ : ∃ Q, w5.alloc (.cells #[.int .i64 0, .int .i64 0, .int .i64 0, .string ⟨#[]⟩, .int .i64 0, .int .i64 0, .string ⟨#[]⟩] 59) = Q := ⟨_, rfl⟩
  have bq : Below w5.heap.size w5 q5 := by rw [← hq5]; exact (Below.refl _ _).alloc (Nat.le_refl _) _
  have Q0 : Box q5 w5.heap.size 59 #[.int .i64 0, .int .i64 0, .int .i64 0, .string ⟨#[]⟩, .int .i64 0, .int .i64 0, .string ⟨#[]⟩] := by rw [← hq5]; exact Box.new _ _ _
  obtain ⟨y0, y1, y2, y3, y4, y5, y6⟩ := box7 Q0
  obtain ⟨s0, s1, s2, s3, s4, s5, s6⟩ := thaw7 Q0
  obtain ⟨w6, hw6⟩ : ∃ Q, put7 q5 w5.heap.size (.int .i64 i) (.int .i64 u.1) (.int .i64 u.2.1) (.string u.2.2) (.int .i64 v.1) (.int .i64 v.2.1) (.string v.2.2) = Q := ⟨_, rfl⟩
  have hb : Below w5.heap.size w5 w6 := by rw [← hw6]; exact put7_below bq (Nat.le_refl _) _ _ _ _ _ _ _
  have X6_ : Hid (Box w6 w5.heap.size 59 #[.int .i64 i, .int .i64 u.1, .int .i64 u.2.1, .string u.2.2, .int .i64 v.1, .int .i64 v.2.1, .string v.2.2]) := by unfold Hid; rw [← hw6]; exact put7_box Q0 _ _ _ _ _ _ _
  clear Q0 bq
  unfold put7 at hw6
  have XG6 := X6_
  clear X6_
  have B6 : Hid (Below w.heap.size w w6) := B5.out.trans (hb.mono B5.out.size)
  have XS6 : Hid (Box w6 w2.heap.size 59 #[.int .i64 i, .int .i64 u.1, .int .i64 u.2.1, .string u.2.2, .int .i64 v.1, .int .i64 v.2.1, .string v.2.2]) := XS5.out.belowS hb
  have OX6 : Hid (w6.ownsRow w3.heap.size 5 1 (.slice (some ⟨w3.heap.size, 0, none⟩) n n) n (zs.map (Value.int .u8))) := own_below OX5.out hb
  have q5_6 : w5.heap.size ≤ w6.heap.size := hb.size
  clear B5 XS5 OX5 hb 
  obtain ⟨g0, g1, g2, g3, g4, g5, g6⟩ := box7 XG6.out
  obtain ⟨k0, k1, k2, k3, k4, k5, k6⟩ := box7 XS6.out
  go_wp2_with fail
  refine (c_eqRow i u v w6).mono ?_
  rintro e w7 ⟨rfl, hb⟩
  clear hw6 hq5 y0 y1 y2 y3 y4 y5 y6 s0 s1 s2 s3 s4 s5 s6 g0 g1 g2 g3 g4 g5 g6 k0 k1 k2 k3 k4 k5 k6
  have B7 : Hid (Below w.heap.size w w7) := B6.out.trans (hb.mono B6.out.size)
  have XS7 : Hid (Box w7 w2.heap.size 59 #[.int .i64 i, .int .i64 u.1, .int .i64 u.2.1, .string u.2.2, .int .i64 v.1, .int .i64 v.2.1, .string v.2.2]) := XS6.out.belowS hb
  have OX7 : Hid (w7.ownsRow w3.heap.size 5 1 (.slice (some ⟨w3.heap.size, 0, none⟩) n n) n (zs.map (Value.int .u8))) := own_below OX6.out hb
  have XG7 : Hid (Box w7 w5.heap.size 59 #[.int .i64 i, .int .i64 u.1, .int .i64 u.2.1, .string u.2.2, .int .i64 v.1, .int .i64 v.2.1, .string v.2.2]) := XG6.out.belowS hb
  have q6_7 : w6.heap.size ≤ w7.heap.size := hb.size
  clear B6 XS6 OX6 XG6 hb 
  go_wp2_with fail
  refine (TB.out w7 B7.out).mono ?_
  rintro e w8 ⟨rfl, o8, hb⟩
  have T8 : Hid (RdV w8 (some ⟨w7.heap.size, 0, none⟩) n (zs.map (Value.int .u8))) := RdV.own o8
  clear o8
  have B8 : Hid (Below w.heap.size w w8) := B7.out.trans (hb.mono B7.out.size)
  have XS8 : Hid (Box w8 w2.heap.size 59 #[.int .i64 i, .int .i64 u.1, .int .i64 u.2.1, .string u.2.2, .int .i64 v.1, .int .i64 v.2.1, .string v.2.2]) := XS7.out.belowS hb
  have OX8 : Hid (w8.ownsRow w3.heap.size 5 1 (.slice (some ⟨w3.heap.size, 0, none⟩) n n) n (zs.map (Value.int .u8))) := own_below OX7.out hb
  have XG8 : Hid (Box w8 w5.heap.size 59 #[.int .i64 i, .int .i64 u.1, .int .i64 u.2.1, .string u.2.2, .int .i64 v.1, .int .i64 v.2.1, .string v.2.2]) := XG7.out.belowS hb
  have q7_8 : w7.heap.size ≤ w8.heap.size := hb.size
  clear B7 XS7 OX7 XG7 hb 
  go_wp2_with fail
  refine (c_eqB (some ⟨w3.heap.size, 0, none⟩) (some ⟨w7.heap.size, 0, none⟩) n n n n zs zs w8 (RdV.own OX8.out) T8.out hn hn).mono ?_
  rintro e w9 ⟨rfl, qq, hq⟩
  rw [decide_eq_true (rfl : zs = zs)]
  have hb : Below w8.heap.size w8 w9 := by rw [hq]; exact below_drewN (Below.refl _ _) qq
  clear hq
  have B9 : Hid (Below w.heap.size w w9) := B8.out.trans (hb.mono B8.out.size)
  have XS9 : Hid (Box w9 w2.heap.size 59 #[.int .i64 i, .int .i64 u.1, .int .i64 u.2.1, .string u.2.2, .int .i64 v.1, .int .i64 v.2.1, .string v.2.2]) := XS8.out.belowS hb
  have OX9 : Hid (w9.ownsRow w3.heap.size 5 1 (.slice (some ⟨w3.heap.size, 0, none⟩) n n) n (zs.map (Value.int .u8))) := own_below OX8.out hb
  have XG9 : Hid (Box w9 w5.heap.size 59 #[.int .i64 i, .int .i64 u.1, .int .i64 u.2.1, .string u.2.2, .int .i64 v.1, .int .i64 v.2.1, .string v.2.2]) := XG8.out.belowS hb
  have q8_9 : w8.heap.size ≤ w9.heap.size := hb.size
  clear B8 XS8 OX8 XG8 hb 
  go_wp2
  go_ret
  exact ⟨rfl, B9.out⟩

end Go.Proofs.Ytkfkhfagehcmiaa
