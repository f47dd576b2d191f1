/-
  The walk of the law of armed disks.
-/
import Derived.Test.YtefbaemcdfmhpaaAr
namespace Go.Proofs.Ytefbaemcdfmhpaa
open Go Go.RowKit
attribute [local go_sem ↓] Go.wp_at_zero Go.wp_at_succ

theorem wf_u8 {n : Int} (h : (Lit.int .u8 n).wf = true) : 0 ≤ n ∧ n < 256 := by
  have := bounds_u8 h
  omega
theorem arm_ok {D : DD} {K : List Int} (h : okD D = true) (hK : K.length ≤ 11) : armR D K = armD D K ∧ armC D K = 0 := by
  unfold armR armC
  rw [if_neg (by omega), if_pos h, if_neg (by omega), if_neg (by omega), if_pos h, if_neg (by omega)]
  exact ⟨rfl, rfl⟩
theorem sync_ok {D : DD} {K : List Int} (h : okD D = true) (hK : K.length ≤ 11) : syncR (armD D K) = crashD D K ∧ syncA (armD D K) = false ∧ syncC (armD D K) = 0 := by
  have ha := ok_arm h (K := K) (by omega)
  unfold syncR syncA syncC
  rw [if_pos ha, if_pos ha, if_pos ha]
  refine ⟨?_, rfl, rfl⟩
  unfold syncD
  rw [if_pos (show (armD D K).A = true from rfl)]
  rfl
theorem crash_ok {D : DD} {K : List Int} (h : okD D = true) (hK : K.length ≤ 11) : crashR D K = crashD D K ∧ crashC D K = 0 := by
  unfold crashR crashC
  rw [if_neg (by omega), if_pos h, if_neg (by omega), if_pos h]
  exact ⟨rfl, rfl⟩
theorem new_ok {n : Nat} (h : 1 ≤ n ∧ n ≤ 100) : newR (n : Int) = newD n ∧ newC (n : Int) = 0 := by
  unfold newR newC
  rw [if_pos (by omega), if_pos (by omega)]
  exact ⟨by simp, rfl⟩

set_option maxHeartbeats 8000000 in
theorem law4 (a : Option Addr) (n c : Nat) (zs : List Int) (a' : Option Addr) (n' c' : Nat) (zs' : List Int) (w : World) (hr : RdV w a n (zs.map (Value.int .u8))) (hz : ∀ z ∈ zs, 0 ≤ z ∧ z < 256) (hm : n ≤ maxLen) (hr' : RdV w a' n' (zs'.map (Value.int .u8))) (hz' : ∀ z ∈ zs', 0 ≤ z ∧ z < 256) (hm' : n' ≤ maxLen) :
    Calls Try.prog 4 #[.slice a n c, .slice a' n' c'] w fun e w' => e = .returned (.bool true) ∧ Below w.heap.size w w' := by
  unfold maxLen at hm hm'
  have HR : Hid (RdV w a n (zs.map (Value.int .u8))) := hr
  have HZ : Hid (∀ z ∈ zs, 0 ≤ z ∧ z < 256) := hz
  have HR' : Hid (RdV w a' n' (zs'.map (Value.int .u8))) := hr'
  have HZ' : Hid (∀ z ∈ zs', 0 ≤ z ∧ z < 256) := hz'
  clear hr hz hr' hz'
  by_cases g1 : 1048576 < n
  · go_enter Try.func4, Try.ntmps4
    go_wp2
    go_ret
    exact ⟨rfl, Below.refl _ _⟩
  by_cases g2 : 1048576 < n'
  · go_enter Try.func4, Try.ntmps4
    go_wp2
    go_ret
    exact ⟨rfl, Below.refl _ _⟩
  go_enter Try.func4, Try.ntmps4
  go_wp2_with fail
  refine (c_diskOf a n c zs w HR.out HZ.out (by omega)).mono ?_
  rintro e w1 ⟨⟨hd, D, rfl, od, hok, _⟩, hb⟩
  have HOKD : Hid (okD D = true) := hok
  have F : Hid (Fit D) := ok_fit hok
  have lens := (ok_parts hok).1
  have nd := od.rd.l0
  have HSRC : Hid (HOK hd) := od.src
  have B1 : Hid (Below w.heap.size w w1) := hb
  obtain ⟨w2, hw2⟩ : ∃ W, w1.alloc (.cells #[.slice hd.a0 hd.n0 hd.c0, .slice hd.a1 hd.n1 hd.c1, .bool hd.b, .slice hd.a2 hd.n2 hd.c2] 27) = W := ⟨_, rfl⟩
  have hb2 : Below w1.heap.size w1 w2 := by rw [← hw2]; exact (Below.refl _ _).alloc (Nat.le_refl _) _
  have B2 : Hid (Below w.heap.size w w2) := hb.trans (hb2.mono hb.size)
  have R2 : Hid (RdD w2 hd D) := od.rd.below hb2
  have YD2 : Hid (Box w2 w1.heap.size 27 #[.slice hd.a0 hd.n0 hd.c0, .slice hd.a1 hd.n1 hd.c1, .bool hd.b, .slice hd.a2 hd.n2 hd.c2]) := by have := Box.new w1 #[.slice hd.a0 hd.n0 hd.c0, .slice hd.a1 hd.n1 hd.c1, .bool hd.b, .slice hd.a2 hd.n2 hd.c2] 27; rwa [hw2] at this
  clear hb hb2 od hok B1
  go_wp2_with fail
  refine (c_keepsOf a' n' c' zs' w2 (HR'.out.below B2.out) HZ'.out (by omega)).mono ?_
  rintro e w3 ⟨⟨K, ka, kc, rfl, hK, ok⟩, hb⟩
  have B3 : Hid (Below w.heap.size w w3) := B2.out.trans (hb.mono B2.out.size)
  have R3 : Hid (RdD w3 hd D) := R2.out.below hb
  have YD3 : Hid (Box w3 w1.heap.size 27 #[.slice hd.a0 hd.n0 hd.c0, .slice hd.a1 hd.n1 hd.c1, .bool hd.b, .slice hd.a2 hd.n2 hd.c2]) := YD2.out.belowS hb
  have RK3 : Hid (RdV w3 ka K.length (K.map (Value.int .i64))) := RdV.own ok
  have KS : Hid (ka = none → kc = 0) := own_src ok
  clear hb ok B2 R2 YD2
  have CA : Hid (∀ W, RdD W hd D → RdV W ka K.length (K.map (Value.int .i64)) → Calls Try.prog 25 #[.agg #[.slice hd.a0 hd.n0 hd.c0, .slice hd.a1 hd.n1 hd.c1, .bool hd.b, .slice hd.a2 hd.n2 hd.c2], .slice ka K.length kc] W fun e w' => (∃ h' : HD, e = .returned (.tuple #[.agg #[.slice h'.a0 h'.n0 h'.c0, .slice h'.a1 h'.n1 h'.c1, .bool h'.b, .slice h'.a2 h'.n2 h'.c2], .int .i64 0]) ∧ OwnD w' W.heap.size w'.heap.size h' (armD D K)) ∧ Below W.heap.size W w') := fun W r k => by
    have := c_implArm2 D K K.length F.out (by omega) W hd ka kc r HSRC.out k KS.out
    rwa [(arm_ok HOKD.out hK).1, (arm_ok HOKD.out hK).2] at this
  have CC : Hid (∀ W, RdD W hd D → RdV W ka K.length (K.map (Value.int .i64)) → Calls Try.prog 19 #[.agg #[.slice hd.a0 hd.n0 hd.c0, .slice hd.a1 hd.n1 hd.c1, .bool hd.b, .slice hd.a2 hd.n2 hd.c2], .slice ka K.length kc] W fun e w' => (∃ h' : HD, e = .returned (.tuple #[.agg #[.slice h'.a0 h'.n0 h'.c0, .slice h'.a1 h'.n1 h'.c1, .bool h'.b, .slice h'.a2 h'.n2 h'.c2], .int .i64 0]) ∧ OwnD w' W.heap.size w'.heap.size h' (crashD D K)) ∧ Below W.heap.size W w') := fun W r k => by
    have := c_implCrash2 D K K.length F.out (by omega) W hd ka kc r HSRC.out k KS.out
    rwa [(crash_ok HOKD.out hK).1, (crash_ok HOKD.out hK).2] at this
  have CY : Hid (∀ W h2, RdD W h2 (armD D K) → HOK h2 → Calls Try.prog 18 #[.agg #[.slice h2.a0 h2.n0 h2.c0, .slice h2.a1 h2.n1 h2.c1, .bool h2.b, .slice h2.a2 h2.n2 h2.c2]] W fun e w' => (∃ h' : HD, e = .returned (.tuple #[.agg #[.slice h'.a0 h'.n0 h'.c0, .slice h'.a1 h'.n1 h'.c1, .bool h'.b, .slice h'.a2 h'.n2 h'.c2], .bool false, .int .i64 0]) ∧ OwnD w' W.heap.size w'.heap.size h' (crashD D K)) ∧ Below W.heap.size W w') := fun W h2 r k => by
    have := c_implSync2 (armD D K) (ok_fit (ok_arm HOKD.out (by omega))) W h2 r k
    rwa [(sync_ok HOKD.out hK).1, (sync_ok HOKD.out hK).2.1, (sync_ok HOKD.out hK).2.2] at this
  have CW : Hid (∀ W, Calls Try.prog 26 #[.int .i64 (hd.n0 : Int)] W fun e w' => (∃ h' : HD, e = .returned (.tuple #[.agg #[.slice h'.a0 h'.n0 h'.c0, .slice h'.a1 h'.n1 h'.c1, .bool h'.b, .slice h'.a2 h'.n2 h'.c2], .int .i64 0]) ∧ OwnD w' W.heap.size w'.heap.size h' (newD hd.n0)) ∧ Below W.heap.size W w') := fun W => by
    have := c_implNew (hd.n0 : Int) W
    rwa [(new_ok (by omega)).1, (new_ok (by omega)).2] at this
  have FC : Hid (Fit (crashD D K)) := ok_fit (ok_crash HOKD.out K)
  -- a
  obtain ⟨v0, v1, v2, v3⟩ := box4 YD3.out
  go_wp2_with fail
  refine (CA.out w3 R3.out RK3.out).mono ?_
  rintro e w4 ⟨⟨ha, rfl, oa⟩, hb⟩
  obtain ⟨w5, hw5⟩ : ∃ W, w4.alloc (.cells #[.slice ha.a0 ha.n0 ha.c0, .slice ha.a1 ha.n1 ha.c1, .bool ha.b, .slice ha.a2 ha.n2 ha.c2] 27) = W := ⟨_, rfl⟩
  have hb5 : Below w4.heap.size w4 w5 := by rw [← hw5]; exact (Below.refl _ _).alloc (Nat.le_refl _) _
  have hb35 : Below w3.heap.size w3 w5 := hb.trans (hb5.mono hb.size)
  have B5 : Hid (Below w.heap.size w w5) := B3.out.trans (hb35.mono B3.out.size)
  have R5 : Hid (RdD w5 hd D) := R3.out.below hb35
  have YD5 : Hid (Box w5 w1.heap.size 27 #[.slice hd.a0 hd.n0 hd.c0, .slice hd.a1 hd.n1 hd.c1, .bool hd.b, .slice hd.a2 hd.n2 hd.c2]) := YD3.out.belowS hb35
  have RK5 : Hid (RdV w5 ka K.length (K.map (Value.int .i64))) := RK3.out.below hb35
  have RA5 : Hid (RdD w5 ha (armD D K)) := oa.rd.below hb5
  have HA : Hid (HOK ha) := oa.src
  have hab : ha.b = true := oa.1
  have YA5 : Hid (Box w5 w4.heap.size 27 #[.slice ha.a0 ha.n0 ha.c0, .slice ha.a1 ha.n1 ha.c1, .bool ha.b, .slice ha.a2 ha.n2 ha.c2]) := by have := Box.new w4 #[.slice ha.a0 ha.n0 ha.c0, .slice ha.a1 ha.n1 ha.c1, .bool ha.b, .slice ha.a2 ha.n2 ha.c2] 27; rwa [hw5] at this
  have HAB : Hid (ha.b = true) := hab
  clear hb hb5 hb35 oa B3 R3 YD3 RK3 v0 v1 v2 v3 hab
  -- s
  obtain ⟨v0, v1, v2, v3⟩ := box4 YA5.out
  go_wp2_with fail
  refine (CY.out w5 ha RA5.out HA.out).mono ?_
  rintro e w6 ⟨⟨hs, rfl, os⟩, hb⟩
  obtain ⟨w7, hw7⟩ : ∃ W, w6.alloc (.cells #[.slice hs.a0 hs.n0 hs.c0, .slice hs.a1 hs.n1 hs.c1, .bool hs.b, .slice hs.a2 hs.n2 hs.c2] 27) = W := ⟨_, rfl⟩
  have hb7 : Below w6.heap.size w6 w7 := by rw [← hw7]; exact (Below.refl _ _).alloc (Nat.le_refl _) _
  have hb57 : Below w5.heap.size w5 w7 := hb.trans (hb7.mono hb.size)
  have B7 : Hid (Below w.heap.size w w7) := B5.out.trans (hb57.mono B5.out.size)
  have R7 : Hid (RdD w7 hd D) := R5.out.below hb57
  have YD7 : Hid (Box w7 w1.heap.size 27 #[.slice hd.a0 hd.n0 hd.c0, .slice hd.a1 hd.n1 hd.c1, .bool hd.b, .slice hd.a2 hd.n2 hd.c2]) := YD5.out.belowS hb57
  have YA7 : Hid (Box w7 w4.heap.size 27 #[.slice ha.a0 ha.n0 ha.c0, .slice ha.a1 ha.n1 ha.c1, .bool ha.b, .slice ha.a2 ha.n2 ha.c2]) := YA5.out.belowS hb57
  have RK7 : Hid (RdV w7 ka K.length (K.map (Value.int .i64))) := RK5.out.below hb57
  have RS7 : Hid (RdD w7 hs (crashD D K)) := os.rd.below hb7
  have YS7 : Hid (Box w7 w6.heap.size 27 #[.slice hs.a0 hs.n0 hs.c0, .slice hs.a1 hs.n1 hs.c1, .bool hs.b, .slice hs.a2 hs.n2 hs.c2]) := by have := Box.new w6 #[.slice hs.a0 hs.n0 hs.c0, .slice hs.a1 hs.n1 hs.c1, .bool hs.b, .slice hs.a2 hs.n2 hs.c2] 27; rwa [hw7] at this
  have HSB : Hid (hs.b = false) := os.1
  clear hb hb7 hb57 os B5 R5 YD5 YA5 RK5 RA5 v0 v1 v2 v3
  -- x
  obtain ⟨v0, v1, v2, v3⟩ := box4 YD7.out
  go_wp2_with fail
  refine (CC.out w7 R7.out RK7.out).mono ?_
  rintro e w8 ⟨⟨hx, rfl, ox⟩, hb⟩
  obtain ⟨w9, hw9⟩ : ∃ W, w8.alloc (.cells #[.slice hx.a0 hx.n0 hx.c0, .slice hx.a1 hx.n1 hx.c1, .bool hx.b, .slice hx.a2 hx.n2 hx.c2] 27) = W := ⟨_, rfl⟩
  have hb9 : Below w8.heap.size w8 w9 := by rw [← hw9]; exact (Below.refl _ _).alloc (Nat.le_refl _) _
  have hb79 : Below w7.heap.size w7 w9 := hb.trans (hb9.mono hb.size)
  have B9 : Hid (Below w.heap.size w w9) := B7.out.trans (hb79.mono B7.out.size)
  have YD9 : Hid (Box w9 w1.heap.size 27 #[.slice hd.a0 hd.n0 hd.c0, .slice hd.a1 hd.n1 hd.c1, .bool hd.b, .slice hd.a2 hd.n2 hd.c2]) := YD7.out.belowS hb79
  have YA9 : Hid (Box w9 w4.heap.size 27 #[.slice ha.a0 ha.n0 ha.c0, .slice ha.a1 ha.n1 ha.c1, .bool ha.b, .slice ha.a2 ha.n2 ha.c2]) := YA7.out.belowS hb79
  have YS9 : Hid (Box w9 w6.heap.size 27 #[.slice hs.a0 hs.n0 hs.c0, .slice hs.a1 hs.n1 hs.c1, .bool hs.b, .slice hs.a2 hs.n2 hs.c2]) := YS7.out.belowS hb79
  have RS9 : Hid (RdD w9 hs (crashD D K)) := RS7.out.below hb79
  have RX9 : Hid (RdD w9 hx (crashD D K)) := ox.rd.below hb9
  have YX9 : Hid (Box w9 w8.heap.size 27 #[.slice hx.a0 hx.n0 hx.c0, .slice hx.a1 hx.n1 hx.c1, .bool hx.b, .slice hx.a2 hx.n2 hx.c2]) := by have := Box.new w8 #[.slice hx.a0 hx.n0 hx.c0, .slice hx.a1 hx.n1 hx.c1, .bool hx.b, .slice hx.a2 hx.n2 hx.c2] 27; rwa [hw9] at this
  clear hb hb9 hb79 ox B7 R7 YD7 YA7 YS7 RK7 RS7 v0 v1 v2 v3
  -- n
  obtain ⟨v0, v1, v2, v3⟩ := box4 YD9.out
  go_wp2_with fail
  refine (CW.out w9).mono ?_
  rintro e w10 ⟨⟨hn, rfl, on⟩, hb⟩
  obtain ⟨w11, hw11⟩ : ∃ W, w10.alloc (.cells #[.slice hn.a0 hn.n0 hn.c0, .slice hn.a1 hn.n1 hn.c1, .bool hn.b, .slice hn.a2 hn.n2 hn.c2] 27) = W := ⟨_, rfl⟩
  have hb11 : Below w10.heap.size w10 w11 := by rw [← hw11]; exact (Below.refl _ _).alloc (Nat.le_refl _) _
  have hb911 : Below w9.heap.size w9 w11 := hb.trans (hb11.mono hb.size)
  have B11 : Hid (Below w.heap.size w w11) := B9.out.trans (hb911.mono B9.out.size)
  have YD11 : Hid (Box w11 w1.heap.size 27 #[.slice hd.a0 hd.n0 hd.c0, .slice hd.a1 hd.n1 hd.c1, .bool hd.b, .slice hd.a2 hd.n2 hd.c2]) := YD9.out.belowS hb911
  have YA11 : Hid (Box w11 w4.heap.size 27 #[.slice ha.a0 ha.n0 ha.c0, .slice ha.a1 ha.n1 ha.c1, .bool ha.b, .slice ha.a2 ha.n2 ha.c2]) := YA9.out.belowS hb911
  have YS11 : Hid (Box w11 w6.heap.size 27 #[.slice hs.a0 hs.n0 hs.c0, .slice hs.a1 hs.n1 hs.c1, .bool hs.b, .slice hs.a2 hs.n2 hs.c2]) := YS9.out.belowS hb911
  have YX11 : Hid (Box w11 w8.heap.size 27 #[.slice hx.a0 hx.n0 hx.c0, .slice hx.a1 hx.n1 hx.c1, .bool hx.b, .slice hx.a2 hx.n2 hx.c2]) := YX9.out.belowS hb911
  have RS11 : Hid (RdD w11 hs (crashD D K)) := RS9.out.below hb911
  have RX11 : Hid (RdD w11 hx (crashD D K)) := RX9.out.below hb911
  have YN11 : Hid (Box w11 w10.heap.size 27 #[.slice hn.a0 hn.n0 hn.c0, .slice hn.a1 hn.n1 hn.c1, .bool hn.b, .slice hn.a2 hn.n2 hn.c2]) := by have := Box.new w10 #[.slice hn.a0 hn.n0 hn.c0, .slice hn.a1 hn.n1 hn.c1, .bool hn.b, .slice hn.a2 hn.n2 hn.c2] 27; rwa [hw11] at this
  have hnl : hn.n0 = hd.n0 := by have := on.rd.l0; rw [← this]; show (List.replicate _ _).length = _; simp
  have HNL : Hid (hn.n0 = hd.n0) := hnl
  clear hb hb11 hb911 on B9 YD9 YA9 YS9 YX9 RS9 RX9 v0 v1 v2 v3 hnl
  obtain ⟨a0', a1', a2', a3'⟩ := box4 YA11.out
  rw [HAB.out] at a2'
  obtain ⟨v0, v1, v2, v3⟩ := box4 YS11.out
  obtain ⟨u0, u1, u2, u3⟩ := box4 YX11.out
  go_wp2_with fail
  refine (c_sameDisk hs hx (crashD D K) w11 RS11.out RX11.out FC.out rfl).mono ?_
  rintro e w12 ⟨rfl, hb⟩
  have B12 : Hid (Below w.heap.size w w12) := B11.out.trans (hb.mono B11.out.size)
  have YD12 := YD11.out.belowS hb
  have YS12 := YS11.out.belowS hb
  have YN12 := YN11.out.belowS hb
  clear hb v0 v1 v2 v3 u0 u1 u2 u3 a0' a1' a2' a3'
  obtain ⟨v0, v1, v2, v3⟩ := box4 YD12
  obtain ⟨u0, u1, u2, u3⟩ := box4 YS12
  obtain ⟨t0, t1, t2, t3⟩ := box4 YN12
  rw [HSB.out] at u2
  rw [HNL.out] at t0
  clear YD12 YS12 YN12
  have hee : ((hd.n0 : Int) == (hd.n0 : Int)) = true := by simp
  go_wp2
  go_ret
  exact ⟨rfl, B12.out⟩
end Go.Proofs.Ytefbaemcdfmhpaa
