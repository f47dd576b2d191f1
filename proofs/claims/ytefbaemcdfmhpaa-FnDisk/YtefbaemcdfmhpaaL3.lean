/-
  The walk of the law of disks.
-/
import Derived.Test.YtefbaemcdfmhpaaFa
import Derived.Test.YtefbaemcdfmhpaaFm
import Derived.Test.YtefbaemcdfmhpaaDx
import Derived.Test.YtefbaemcdfmhpaaWi
import Derived.Test.YtefbaemcdfmhpaaWw
import Derived.Test.YtefbaemcdfmhpaaWc
import Derived.Test.YtefbaemcdfmhpaaL4
import Derived.Deep.RegionWith
import Derived.Deep.DeepCutAuto
namespace Go.Proofs.Ytefbaemcdfmhpaa
open Go Go.RowKit
attribute [local go_sem ↓] Go.wp_at_zero Go.wp_at_succ

def frs : ByteArray := ⟨#[102, 114, 101, 115, 104]⟩
theorem write_ok {D : DD} {k : Nat} (h : okD D = true) (h7 : D.C.length ≤ 7) (hk : k < D.S.length) : wrR D k frs = wrD D k frs ∧ wrC D k frs = 0 := by
  have e : frs.size = 5 := rfl
  have hb : wrBad D k frs = false := by
    unfold wrBad
    rw [decide_eq_true (show (0 : Int) ≤ (k : Int) ∧ (k : Int) < (D.S.length : Int) by omega), e]
    rfl
  unfold wrR wrC
  rw [if_neg (by omega), if_pos h, if_neg (by rw [hb]; decide), if_neg (by omega), if_neg (by omega), if_pos h, if_neg (by rw [hb]; decide), if_neg (by omega)]
  exact ⟨rfl, rfl⟩
theorem sync_ok3 {D : DD} (h : okD D = true) : syncR D = syncD D ∧ syncC D = 0 ∧ syncA D = !D.A := by
  unfold syncR syncA syncC
  rw [if_pos h, if_pos h, if_pos h]
  exact ⟨rfl, rfl, rfl⟩

set_option maxRecDepth 100000 in
set_option maxHeartbeats 8000000 in
theorem law3 (a : Option Addr) (n c : Nat) (zs : List Int) (a' : Option Addr) (n' c' : Nat) (zs' : List Int) (w : World) (hr : RdV w a n (zs.map (Value.int .u8))) (hz : ∀ z ∈ zs, 0 ≤ z ∧ z < 256) (hm : n ≤ maxLen) (hr' : RdV w a' n' (zs'.map (Value.int .u8))) (hz' : ∀ z ∈ zs', 0 ≤ z ∧ z < 256) (hm' : n' ≤ maxLen) :
    Calls Try.prog 3 #[.slice a n c, .slice a' n' c'] w fun e w' => e = .returned (.bool true) ∧ Below w.heap.size w w' := by
  unfold maxLen at hm hm'
  have HR : Hid (RdV w a n (zs.map (Value.int .u8))) := hr
  have HZ : Hid (∀ z ∈ zs, 0 ≤ z ∧ z < 256) := hz
  have HR' : Hid (RdV w a' n' (zs'.map (Value.int .u8))) := hr'
  have HZ' : Hid (∀ z ∈ zs', 0 ≤ z ∧ z < 256) := hz'
  clear hr hz hr' hz'
  by_cases g1 : 1048576 < n
  · go_enter Try.func3, Try.ntmps3
    go_wp2
    go_ret
    exact ⟨rfl, Below.refl _ _⟩
  by_cases g2 : 1048576 < n'
  · go_enter Try.func3, Try.ntmps3
    go_wp2
    go_ret
    exact ⟨rfl, Below.refl _ _⟩
  go_enter Try.func3, Try.ntmps3
  go_wp2_with fail
  refine (c_diskOf a n c zs w HR.out HZ.out (by omega)).mono ?_
  rintro e w1 ⟨⟨hd, D, rfl, od, hok, h7⟩, hb⟩
  have HOKD : Hid (okD D = true) := hok
  have F : Hid (Fit D) := ok_fit hok
  have lens := (ok_parts hok).1
  have nd := od.rd.l0
  have HSRC : Hid (HOK hd) := od.src
  obtain ⟨w2, hw2⟩ : ∃ W, w1.alloc (.cells #[.slice hd.a0 hd.n0 hd.c0, .slice hd.a1 hd.n1 hd.c1, .bool hd.b, .slice hd.a2 hd.n2 hd.c2] 27) = W := ⟨_, rfl⟩
  have hb2 : Below w1.heap.size w1 w2 := by rw [← hw2]; exact (Below.refl _ _).alloc (Nat.le_refl _) _
  have B2 : Hid (Below w.heap.size w w2) := hb.trans (hb2.mono hb.size)
  have R2 : Hid (RdD w2 hd D) := od.rd.below hb2
  have YD2 : Hid (Box w2 w1.heap.size 27 #[.slice hd.a0 hd.n0 hd.c0, .slice hd.a1 hd.n1 hd.c1, .bool hd.b, .slice hd.a2 hd.n2 hd.c2]) := by have := Box.new w1 #[.slice hd.a0 hd.n0 hd.c0, .slice hd.a1 hd.n1 hd.c1, .bool hd.b, .slice hd.a2 hd.n2 hd.c2] 27; rwa [hw2] at this
  clear hb hb2 od hok
  obtain ⟨v0, v1, v2, v3⟩ := box4 YD2.out
  go_wp2_with fail
  refine (c_at a' n' c' zs' hd.n0 w2 (HR'.out.below B2.out) HZ'.out (by omega) (by omega)).mono ?_
  rintro e w3 ⟨⟨k, rfl, hk⟩, q, hq⟩
  have hb : Below w2.heap.size w2 w3 := by rw [hq]; exact below_drewN (Below.refl _ _) q
  have B3 : Hid (Below w.heap.size w w3) := B2.out.trans (hb.mono B2.out.size)
  have R3 : Hid (RdD w3 hd D) := R2.out.below hb
  have YD3 : Hid (Box w3 w1.heap.size 27 #[.slice hd.a0 hd.n0 hd.c0, .slice hd.a1 hd.n1 hd.c1, .bool hd.b, .slice hd.a2 hd.n2 hd.c2]) := YD2.out.belowS hb
  have hkD : k < D.S.length := by omega
  clear hb hq B2 R2 YD2 v0 v1 v2 v3
  obtain ⟨WD, hWD⟩ : ∃ X, X = wrD D k frs := ⟨_, rfl⟩
  have OKW : Hid (okD WD = true) := by unfold Hid; rw [hWD]; exact ok_write HOKD.out (by omega) (by omega) (by decide)
  have FW : Hid (Fit WD) := ok_fit OKW.out
  have CW : Hid (∀ W, RdD W hd D → Calls Try.prog 15 #[.agg #[.slice hd.a0 hd.n0 hd.c0, .slice hd.a1 hd.n1 hd.c1, .bool hd.b, .slice hd.a2 hd.n2 hd.c2], .int .i64 (k : Int), .string ⟨#[102, 114, 101, 115, 104]⟩] W fun e w' => (∃ h' : HD, e = .returned (.tuple #[.agg #[.slice h'.a0 h'.n0 h'.c0, .slice h'.a1 h'.n1 h'.c1, .bool h'.b, .slice h'.a2 h'.n2 h'.c2], .int .i64 0]) ∧ OwnD w' W.heap.size w'.heap.size h' WD) ∧ Below W.heap.size W w') := fun W r => by
    have := c_implWrite2 D k frs F.out (by decide) W hd r HSRC.out
    rwa [(write_ok HOKD.out h7 hkD).1, (write_ok HOKD.out h7 hkD).2, ← hWD] at this
  have CV : Hid (∀ W, RdD W hd D → Calls Try.prog 16 #[.agg #[.slice hd.a0 hd.n0 hd.c0, .slice hd.a1 hd.n1 hd.c1, .bool hd.b, .slice hd.a2 hd.n2 hd.c2], .int .i64 (k : Int), .string ⟨#[102, 114, 101, 115, 104]⟩] W fun e w' => (∃ h' : HD, e = .returned (.tuple #[.agg #[.slice h'.a0 h'.n0 h'.c0, .slice h'.a1 h'.n1 h'.c1, .bool h'.b, .slice h'.a2 h'.n2 h'.c2], .int .i64 0]) ∧ OwnD w' W.heap.size w'.heap.size h' WD) ∧ Below W.heap.size W w') := fun W r => by
    have := c_specWrite2 D k frs F.out (by decide) W hd r HSRC.out
    rwa [(write_ok HOKD.out h7 hkD).1, (write_ok HOKD.out h7 hkD).2, ← hWD] at this
  have CR : Hid (∀ W h X (j : Nat), okD X = true → j < X.S.length → RdD W h X → Calls Try.prog 17 #[.agg #[.slice h.a0 h.n0 h.c0, .slice h.a1 h.n1 h.c1, .bool h.b, .slice h.a2 h.n2 h.c2], .int .i64 (j : Int)] W fun e w' => e = .returned (.tuple #[.string (readT X j), .int .i64 0]) ∧ Below W.heap.size W w') := fun W h X j ho hj r => by
    have := c_implRead X j (ok_fit ho) W h r
    rwa [read_ok ho hj] at this
  have CY : Hid (∀ W h2, RdD W h2 WD → HOK h2 → Calls Try.prog 18 #[.agg #[.slice h2.a0 h2.n0 h2.c0, .slice h2.a1 h2.n1 h2.c1, .bool h2.b, .slice h2.a2 h2.n2 h2.c2]] W fun e w' => (∃ h' : HD, e = .returned (.tuple #[.agg #[.slice h'.a0 h'.n0 h'.c0, .slice h'.a1 h'.n1 h'.c1, .bool h'.b, .slice h'.a2 h'.n2 h'.c2], .bool (!WD.A), .int .i64 0]) ∧ OwnD w' W.heap.size w'.heap.size h' (syncD WD)) ∧ Below W.heap.size W w') := fun W h2 r k => by
    have := c_implSync2 WD FW.out W h2 r k
    rwa [(sync_ok3 OKW.out).1, (sync_ok3 OKW.out).2.1, (sync_ok3 OKW.out).2.2] at this
  have hKl := keepK_len (n := n') HZ'.out
  obtain ⟨K, hK⟩ : ∃ K, K = keepK zs' n' := ⟨_, rfl⟩
  have CK : Hid (∀ W, RdV W a' n' (zs'.map (Value.int .u8)) → Calls Try.prog 20 #[.slice a' n' c'] W fun e w' => (∃ (a' : Option Addr) (c' : Nat), e = .returned (.slice a' K.length c') ∧ w'.ownsRow W.heap.size 3 1 (.slice a' K.length c') K.length (K.map (Value.int .i64))) ∧ Below W.heap.size W w') := fun W r => by
    rw [hK]; exact c_keepsOfE a' n' c' zs' W r HZ'.out (by omega)
  rw [← hK] at hKl
  have CC : Hid (∀ W h2 ka kc, RdD W h2 WD → HOK h2 → RdV W ka K.length (K.map (Value.int .i64)) → (ka = none → kc = 0) → Calls Try.prog 19 #[.agg #[.slice h2.a0 h2.n0 h2.c0, .slice h2.a1 h2.n1 h2.c1, .bool h2.b, .slice h2.a2 h2.n2 h2.c2], .slice ka K.length kc] W fun e w' => (∃ h' : HD, e = .returned (.tuple #[.agg #[.slice h'.a0 h'.n0 h'.c0, .slice h'.a1 h'.n1 h'.c1, .bool h'.b, .slice h'.a2 h'.n2 h'.c2], .int .i64 0]) ∧ OwnD w' W.heap.size w'.heap.size h' (crashD WD K)) ∧ Below W.heap.size W w') := fun W h2 ka kc r ho rk hs => by
    have := c_implCrash2 WD K K.length FW.out (by omega) W h2 ka kc r ho rk hs
    rwa [(crash_ok OKW.out hKl).1, (crash_ok OKW.out hKl).2] at this
  have CD : Hid (∀ W h2 ka kc, RdD W h2 WD → HOK h2 → RdV W ka K.length (K.map (Value.int .i64)) → (ka = none → kc = 0) → Calls Try.prog 21 #[.agg #[.slice h2.a0 h2.n0 h2.c0, .slice h2.a1 h2.n1 h2.c1, .bool h2.b, .slice h2.a2 h2.n2 h2.c2], .slice ka K.length kc] W fun e w' => (∃ h' : HD, e = .returned (.tuple #[.agg #[.slice h'.a0 h'.n0 h'.c0, .slice h'.a1 h'.n1 h'.c1, .bool h'.b, .slice h'.a2 h'.n2 h'.c2], .int .i64 0]) ∧ OwnD w' W.heap.size w'.heap.size h' (crashD WD K)) ∧ Below W.heap.size W w') := fun W h2 ka kc r ho rk hs => by
    have := c_specCrash2 WD K K.length FW.out (by omega) W h2 ka kc r ho rk hs
    rwa [(crash_ok OKW.out hKl).1, (crash_ok OKW.out hKl).2] at this
  have CP : Hid (∀ W h2, RdD W h2 WD → Calls Try.prog 22 #[.agg #[.slice h2.a0 h2.n0 h2.c0, .slice h2.a1 h2.n1 h2.c1, .bool h2.b, .slice h2.a2 h2.n2 h2.c2]] W fun e w' => (∃ a' c' m, 0 < m ∧ e = .returned (.tuple #[.slice a' m c', .int .i64 0])) ∧ Below W.heap.size W w') := fun W h2 r => by
    refine (c_implPend WD FW.out W h2 r).mono ?_
    rintro e w' ⟨⟨x, y, rfl, _⟩, hb⟩
    have hp := pend_some (D := D) (k := k) (s := frs) (by rw [← hWD]; exact OKW.out) hkD
    rw [← hWD] at hp
    exact ⟨⟨x, y, _, hp.1, by rw [hp.2]⟩, hb⟩
  have HW : Hid (WD = wrD D k frs) := hWD
  have HT : Hid (readT WD k = ⟨#[102, 114, 101, 115, 104]⟩) := by unfold Hid; rw [hWD]; exact write_rd (by rw [← hWD]; exact OKW.out) hkD
  have HLW : Hid (WD.S.length = hd.n0) := by unfold Hid; rw [hWD, ← nd]; rfl
  clear hK hWD
  -- w
  obtain ⟨v0, v1, v2, v3⟩ := box4 YD3.out
  go_wp2_with fail
  refine (CW.out w3 R3.out).mono ?_
  rintro e w4 ⟨⟨hw, rfl, ow⟩, hb⟩
  obtain ⟨w5, hw5⟩ : ∃ W, w4.alloc (.cells #[.slice hw.a0 hw.n0 hw.c0, .slice hw.a1 hw.n1 hw.c1, .bool hw.b, .slice hw.a2 hw.n2 hw.c2] 27) = W := ⟨_, rfl⟩
  have hb5 : Below w4.heap.size w4 w5 := by rw [← hw5]; exact (Below.refl _ _).alloc (Nat.le_refl _) _
  have hb35 : Below w3.heap.size w3 w5 := hb.trans (hb5.mono hb.size)
  have B5 : Hid (Below w.heap.size w w5) := B3.out.trans (hb35.mono B3.out.size)
  have R5 : Hid (RdD w5 hd D) := R3.out.below hb35
  have YD5 : Hid (Box w5 w1.heap.size 27 #[.slice hd.a0 hd.n0 hd.c0, .slice hd.a1 hd.n1 hd.c1, .bool hd.b, .slice hd.a2 hd.n2 hd.c2]) := YD3.out.belowS hb35
  have RW5 : Hid (RdD w5 hw WD) := ow.rd.below hb5
  have HWS : Hid (HOK hw) := ow.src
  have YW5 : Hid (Box w5 w4.heap.size 27 #[.slice hw.a0 hw.n0 hw.c0, .slice hw.a1 hw.n1 hw.c1, .bool hw.b, .slice hw.a2 hw.n2 hw.c2]) := by have := Box.new w4 #[.slice hw.a0 hw.n0 hw.c0, .slice hw.a1 hw.n1 hw.c1, .bool hw.b, .slice hw.a2 hw.n2 hw.c2] 27; rwa [hw5] at this
  clear hb hb5 hb35 ow B3 R3 YD3 v0 v1 v2 v3
  -- want
  obtain ⟨v0, v1, v2, v3⟩ := box4 YD5.out
  go_wp2_with fail
  refine (CV.out w5 R5.out).mono ?_
  rintro e w6 ⟨⟨hv, rfl, ov⟩, hb⟩
  obtain ⟨w7, hw7⟩ : ∃ W, w6.alloc (.cells #[.slice hv.a0 hv.n0 hv.c0, .slice hv.a1 hv.n1 hv.c1, .bool hv.b, .slice hv.a2 hv.n2 hv.c2] 27) = W := ⟨_, rfl⟩
  have hb7 : Below w6.heap.size w6 w7 := by rw [← hw7]; exact (Below.refl _ _).alloc (Nat.le_refl _) _
  have hb57 : Below w5.heap.size w5 w7 := hb.trans (hb7.mono hb.size)
  have B7 : Hid (Below w.heap.size w w7) := B5.out.trans (hb57.mono B5.out.size)
  have R7 : Hid (RdD w7 hd D) := R5.out.below hb57
  have YD7 : Hid (Box w7 w1.heap.size 27 #[.slice hd.a0 hd.n0 hd.c0, .slice hd.a1 hd.n1 hd.c1, .bool hd.b, .slice hd.a2 hd.n2 hd.c2]) := YD5.out.belowS hb57
  have RW7 : Hid (RdD w7 hw WD) := RW5.out.below hb57
  have YW7 : Hid (Box w7 w4.heap.size 27 #[.slice hw.a0 hw.n0 hw.c0, .slice hw.a1 hw.n1 hw.c1, .bool hw.b, .slice hw.a2 hw.n2 hw.c2]) := YW5.out.belowS hb57
  have RV7 : Hid (RdD w7 hv WD) := ov.rd.below hb7
  have YV7 : Hid (Box w7 w6.heap.size 27 #[.slice hv.a0 hv.n0 hv.c0, .slice hv.a1 hv.n1 hv.c1, .bool hv.b, .slice hv.a2 hv.n2 hv.c2]) := by have := Box.new w6 #[.slice hv.a0 hv.n0 hv.c0, .slice hv.a1 hv.n1 hv.c1, .bool hv.b, .slice hv.a2 hv.n2 hv.c2] 27; rwa [hw7] at this
  clear hb hb7 hb57 ov B5 R5 YD5 RW5 YW5 v0 v1 v2 v3
  -- t
  obtain ⟨v0, v1, v2, v3⟩ := box4 YW7.out
  go_wp2_with fail
  refine (CR.out w7 hw WD k OKW.out (by rw [HLW.out]; omega) RW7.out).mono ?_
  rintro e w8 ⟨rfl, hb⟩
  rw [HT.out]
  have B8 : Hid (Below w.heap.size w w8) := B7.out.trans (hb.mono B7.out.size)
  have R8 : Hid (RdD w8 hd D) := R7.out.below hb
  have YD8 : Hid (Box w8 w1.heap.size 27 #[.slice hd.a0 hd.n0 hd.c0, .slice hd.a1 hd.n1 hd.c1, .bool hd.b, .slice hd.a2 hd.n2 hd.c2]) := YD7.out.belowS hb
  have RW8 : Hid (RdD w8 hw WD) := RW7.out.below hb
  have YW8 : Hid (Box w8 w4.heap.size 27 #[.slice hw.a0 hw.n0 hw.c0, .slice hw.a1 hw.n1 hw.c1, .bool hw.b, .slice hw.a2 hw.n2 hw.c2]) := YW7.out.belowS hb
  have RV8 : Hid (RdD w8 hv WD) := RV7.out.below hb
  have YV8 : Hid (Box w8 w6.heap.size 27 #[.slice hv.a0 hv.n0 hv.c0, .slice hv.a1 hv.n1 hv.c1, .bool hv.b, .slice hv.a2 hv.n2 hv.c2]) := YV7.out.belowS hb
  clear hb B7 R7 YD7 RW7 YW7 RV7 YV7 v0 v1 v2 v3
  -- s
  obtain ⟨v0, v1, v2, v3⟩ := box4 YW8.out
  go_wp2_with fail
  refine (CY.out w8 hw RW8.out HWS.out).mono ?_
  rintro e w9 ⟨⟨hs, rfl, os⟩, hb⟩
  obtain ⟨wA, hwA⟩ : ∃ W, w9.alloc (.cells #[.slice hs.a0 hs.n0 hs.c0, .slice hs.a1 hs.n1 hs.c1, .bool hs.b, .slice hs.a2 hs.n2 hs.c2] 27) = W := ⟨_, rfl⟩
  have hbA : Below w9.heap.size w9 wA := by rw [← hwA]; exact (Below.refl _ _).alloc (Nat.le_refl _) _
  have hb8A : Below w8.heap.size w8 wA := hb.trans (hbA.mono hb.size)
  have BA : Hid (Below w.heap.size w wA) := B8.out.trans (hb8A.mono B8.out.size)
  have RDA : Hid (RdD wA hd D) := R8.out.below hb8A
  have YDA : Hid (Box wA w1.heap.size 27 #[.slice hd.a0 hd.n0 hd.c0, .slice hd.a1 hd.n1 hd.c1, .bool hd.b, .slice hd.a2 hd.n2 hd.c2]) := YD8.out.belowS hb8A
  have RWA : Hid (RdD wA hw WD) := RW8.out.below hb8A
  have YWA : Hid (Box wA w4.heap.size 27 #[.slice hw.a0 hw.n0 hw.c0, .slice hw.a1 hw.n1 hw.c1, .bool hw.b, .slice hw.a2 hw.n2 hw.c2]) := YW8.out.belowS hb8A
  have RVA : Hid (RdD wA hv WD) := RV8.out.below hb8A
  have YVA : Hid (Box wA w6.heap.size 27 #[.slice hv.a0 hv.n0 hv.c0, .slice hv.a1 hv.n1 hv.c1, .bool hv.b, .slice hv.a2 hv.n2 hv.c2]) := YV8.out.belowS hb8A
  have RSA : Hid (RdD wA hs (syncD WD)) := os.rd.below hbA
  have YSA : Hid (Box wA w9.heap.size 27 #[.slice hs.a0 hs.n0 hs.c0, .slice hs.a1 hs.n1 hs.c1, .bool hs.b, .slice hs.a2 hs.n2 hs.c2]) := by have := Box.new w9 #[.slice hs.a0 hs.n0 hs.c0, .slice hs.a1 hs.n1 hs.c1, .bool hs.b, .slice hs.a2 hs.n2 hs.c2] 27; rwa [hwA] at this
  clear hb hbA hb8A os B8 R8 YD8 RW8 YW8 RV8 YV8 v0 v1 v2 v3
  obtain ⟨v0, v1, v2, v3⟩ := box4 YWA.out
  have RZA : Hid (RdV wA a' n' (zs'.map (Value.int .u8))) := HR'.out.below BA.out
  have lWA : w4.heap.size < wA.heap.size := YWA.out.lt
  go_upto_region 9 with fail
  go_cut [16, 17] (fun s16 s17 wx => ∃ (hx : HD) (gx : Nat), s16 = .pointer (some ⟨gx, 0, none⟩) ∧ s17 = .int .i64 0 ∧ Hid (Below wA.heap.size wA wx) ∧ Hid (RdD wx hx (crashD WD K)) ∧ Hid (Box wx gx 27 #[.slice hx.a0 hx.n0 hx.c0, .slice hx.a1 hx.n1 hx.c1, .bool hx.b, .slice hx.a2 hx.n2 hx.c2]))
  case first =>
    as_aux_lemma =>
      go_region_with (first
        | (go_at_call 20
           refine (CK.out _ (RZA.out.below (by (repeat' first | exact Below.refl _ _ | exact below_drewN (Below.refl _ _) 1 | apply Below.drew | apply below_drewN | refine Below.alloc ?_ (by first | omega | (simp; done) | (simp; omega)) _)))).mono ?_
           rintro e wB ⟨⟨ka, kc, rfl, ok⟩, hbB⟩
           have HbB : Hid (Below wA.heap.size wA wB) := Below.trans (by (repeat' first | exact Below.refl _ _ | exact below_drewN (Below.refl _ _) 1 | apply Below.drew | apply below_drewN | refine Below.alloc ?_ (by first | omega | (simp; done) | (simp; omega)) _)) (hbB.mono (by simp))
           have sAB : wA.heap.size ≤ wB.heap.size := HbB.out.size
           have RKB : Hid (RdV wB ka K.length (K.map (Value.int .i64))) := RdV.own ok
           have KSB : Hid (ka = none → kc = 0) := own_src ok
           have YWB := YWA.out.belowS HbB.out
           obtain ⟨t0, t1, t2, t3⟩ := box4 YWB
           have lWB : w4.heap.size < wB.heap.size := YWB.lt
           clear ok YWB
           try have ZB : Hid (Box wB wA.heap.size 27 #[.slice none 0 0, .slice none 0 0, .bool false, .slice none 0 0]) := Eq.trans (hbB.block wA.heap.size (by simp)) (Box.new wA _ _))
        | (go_at_call 19
           refine (CC.out _ hw ka kc (RWA.out.below (by (repeat' first | exact HbB.out | apply Below.drew | apply below_drewN | refine Below.alloc ?_ (by first | omega | (simp; done) | (simp; omega)) _))) HWS.out (RKB.out.below (by (repeat' first | exact Below.refl _ _ | exact below_drewN (Below.refl _ _) 1 | apply Below.drew | apply below_drewN | refine Below.alloc ?_ (by first | omega | (simp; done) | (simp; omega)) _))) KSB.out).mono ?_
           rintro e wC ⟨⟨hx, rfl, ox⟩, hbC⟩
           have HbC : Hid (Below wA.heap.size wA wC) := Below.trans (show Below wA.heap.size wA _ by (repeat' first | exact HbB.out | apply Below.drew | apply below_drewN | refine Below.alloc ?_ (by first | omega | (simp; done) | (simp; omega)) _)) (hbC.mono (by first | omega | (simp; done) | (simp; omega)))
           have sAC : wA.heap.size ≤ wC.heap.size := HbC.out.size
           have OX : Hid (OwnD wC _ wC.heap.size hx (crashD WD K)) := ox
           first
             | (have ZC : Hid (Box wC wA.heap.size 27 #[.slice none 0 0, .slice none 0 0, .bool false, .slice none 0 0]) := Eq.trans (hbC.block wA.heap.size ZB.out.lt) ZB.out
                have lC := ZC.out.lt
                obtain ⟨r0, r1, r2, r3⟩ := box4 ZC.out
                have q0 := ZC.out.thaw 0
                have q1 := ZC.out.thaw 1
                have q2 := ZC.out.thaw 2
                have q3 := ZC.out.thaw 3)
             | (have ZC : Hid (Box wC wB.heap.size 27 #[.slice none 0 0, .slice none 0 0, .bool false, .slice none 0 0]) := Eq.trans (hbC.block wB.heap.size (by simp)) (Box.new wB _ _)
                have lC := ZC.out.lt
                obtain ⟨r0, r1, r2, r3⟩ := box4 ZC.out
                have q0 := ZC.out.thaw 0
                have q1 := ZC.out.thaw 1
                have q2 := ZC.out.thaw 2
                have q3 := ZC.out.thaw 3)
             | skip
           clear ox hbC))
      all_goals (go_wp2_with fail; go_meet)
      all_goals first
        | exact ⟨hx, wC.heap.size, rfl, rfl, HbC.out.alloc sAC _, OX.out.rd.below ((Below.refl _ _).alloc (Nat.le_refl _) _), Box.new _ _ _⟩
        | exact ⟨hx, wB.heap.size, rfl, rfl, put4_below HbC.out (by omega) _ _ _ _, (OX.out.put (b := 0) (Nat.zero_le _) (by simp) (by first | omega | (simp; done) | (simp; omega)) (fun g hg => put4_same _ _ _ _ _ _ _ hg)).rd, put4_box ZC.out _ _ _ _⟩
        | have lAB := ZB.out.lt
          exact ⟨hx, wA.heap.size, rfl, rfl, put4_below HbC.out (by omega) _ _ _ _, (OX.out.put (b := 0) (Nat.zero_le _) (by simp) (by first | omega | (simp; done) | (simp; omega)) (fun g hg => put4_same _ _ _ _ _ _ _ hg)).rd, put4_box ZC.out _ _ _ _⟩
  case rest =>
    as_aux_lemma =>
      rename World => wx
      obtain ⟨hx, gx, rfl, rfl, HBX, RXx, YXx⟩ := hcut
      have Bx : Hid (Below w.heap.size w wx) := BA.out.trans (Below.mono HBX.out BA.out.size)
      have RDx : Hid (RdD wx hd D) := RDA.out.below HBX.out
      have YDx : Hid (Box wx w1.heap.size 27 #[.slice hd.a0 hd.n0 hd.c0, .slice hd.a1 hd.n1 hd.c1, .bool hd.b, .slice hd.a2 hd.n2 hd.c2]) := YDA.out.belowS HBX.out
      have RWx : Hid (RdD wx hw WD) := RWA.out.below HBX.out
      have YWx : Hid (Box wx w4.heap.size 27 #[.slice hw.a0 hw.n0 hw.c0, .slice hw.a1 hw.n1 hw.c1, .bool hw.b, .slice hw.a2 hw.n2 hw.c2]) := YWA.out.belowS HBX.out
      have RVx : Hid (RdD wx hv WD) := RVA.out.below HBX.out
      have YVx : Hid (Box wx w6.heap.size 27 #[.slice hv.a0 hv.n0 hv.c0, .slice hv.a1 hv.n1 hv.c1, .bool hv.b, .slice hv.a2 hv.n2 hv.c2]) := YVA.out.belowS HBX.out
      have RSx : Hid (RdD wx hs (syncD WD)) := RSA.out.below HBX.out
      have YSx : Hid (Box wx w9.heap.size 27 #[.slice hs.a0 hs.n0 hs.c0, .slice hs.a1 hs.n1 hs.c1, .bool hs.b, .slice hs.a2 hs.n2 hs.c2]) := YSA.out.belowS HBX.out
      clear BA RDA YDA RWA YWA RVA YVA RSA YSA
      clear v0 v1 v2 v3 RZA lWA HBX
      have RZx : Hid (RdV wx a' n' (zs'.map (Value.int .u8))) := HR'.out.below Bx.out
      obtain ⟨v0, v1, v2, v3⟩ := box4 YWx.out
      have lWx : w4.heap.size < wx.heap.size := YWx.out.lt
      go_upto_region 10 with fail
      go_cut [18, 19] (fun s18 s19 wu => ∃ (hx : HD) (gx : Nat), s18 = .pointer (some ⟨gx, 0, none⟩) ∧ s19 = .int .i64 0 ∧ Hid (Below wx.heap.size wx wu) ∧ Hid (RdD wu hx (crashD WD K)) ∧ Hid (Box wu gx 27 #[.slice hx.a0 hx.n0 hx.c0, .slice hx.a1 hx.n1 hx.c1, .bool hx.b, .slice hx.a2 hx.n2 hx.c2]))
      case first =>
        as_aux_lemma =>
          go_region_with (first
            | (go_at_call 20
               refine (CK.out _ (RZx.out.below (by (repeat' first | exact Below.refl _ _ | exact below_drewN (Below.refl _ _) 1 | apply Below.drew | apply below_drewN | refine Below.alloc ?_ (by first | omega | (simp; done) | (simp; omega)) _)))).mono ?_
               rintro e wB ⟨⟨ka, kc, rfl, ok⟩, hbB⟩
               have HbB : Hid (Below wx.heap.size wx wB) := Below.trans (by (repeat' first | exact Below.refl _ _ | exact below_drewN (Below.refl _ _) 1 | apply Below.drew | apply below_drewN | refine Below.alloc ?_ (by first | omega | (simp; done) | (simp; omega)) _)) (hbB.mono (by simp))
               have sB : wx.heap.size ≤ wB.heap.size := HbB.out.size
               have RKB : Hid (RdV wB ka K.length (K.map (Value.int .i64))) := RdV.own ok
               have KSB : Hid (ka = none → kc = 0) := own_src ok
               have YWB := YWx.out.belowS HbB.out
               obtain ⟨t0, t1, t2, t3⟩ := box4 YWB
               have lWB : w4.heap.size < wB.heap.size := YWB.lt
               clear ok YWB
               try have ZB : Hid (Box wB wx.heap.size 27 #[.slice none 0 0, .slice none 0 0, .bool false, .slice none 0 0]) := Eq.trans (hbB.block wx.heap.size (by simp)) (Box.new wx _ _))
            | (go_at_call 21
               refine (CD.out _ hw ka kc (RWx.out.below (by (repeat' first | exact HbB.out | apply Below.drew | apply below_drewN | refine Below.alloc ?_ (by first | omega | (simp; done) | (simp; omega)) _))) HWS.out (RKB.out.below (by (repeat' first | exact Below.refl _ _ | exact below_drewN (Below.refl _ _) 1 | apply Below.drew | apply below_drewN | refine Below.alloc ?_ (by first | omega | (simp; done) | (simp; omega)) _))) KSB.out).mono ?_
               rintro e wC ⟨⟨hx, rfl, ox⟩, hbC⟩
               have HbC : Hid (Below wx.heap.size wx wC) := Below.trans (show Below wx.heap.size wx _ by (repeat' first | exact HbB.out | apply Below.drew | apply below_drewN | refine Below.alloc ?_ (by first | omega | (simp; done) | (simp; omega)) _)) (hbC.mono (by first | omega | (simp; done) | (simp; omega)))
               have sC : wx.heap.size ≤ wC.heap.size := HbC.out.size
               have OX : Hid (OwnD wC _ wC.heap.size hx (crashD WD K)) := ox
               first
                 | (have ZC : Hid (Box wC wx.heap.size 27 #[.slice none 0 0, .slice none 0 0, .bool false, .slice none 0 0]) := Eq.trans (hbC.block wx.heap.size ZB.out.lt) ZB.out
                    have lC := ZC.out.lt
                    obtain ⟨r0, r1, r2, r3⟩ := box4 ZC.out
                    have q0 := ZC.out.thaw 0
                    have q1 := ZC.out.thaw 1
                    have q2 := ZC.out.thaw 2
                    have q3 := ZC.out.thaw 3)
                 | (have ZC : Hid (Box wC wB.heap.size 27 #[.slice none 0 0, .slice none 0 0, .bool false, .slice none 0 0]) := Eq.trans (hbC.block wB.heap.size (by simp)) (Box.new wB _ _)
                    have lC := ZC.out.lt
                    obtain ⟨r0, r1, r2, r3⟩ := box4 ZC.out
                    have q0 := ZC.out.thaw 0
                    have q1 := ZC.out.thaw 1
                    have q2 := ZC.out.thaw 2
                    have q3 := ZC.out.thaw 3)
                 | skip
               clear ox hbC))
          all_goals (go_wp2_with fail; go_meet)
          all_goals first
            | exact ⟨hx, wC.heap.size, rfl, rfl, HbC.out.alloc sC _, OX.out.rd.below ((Below.refl _ _).alloc (Nat.le_refl _) _), Box.new _ _ _⟩
            | exact ⟨hx, wB.heap.size, rfl, rfl, put4_below HbC.out (by omega) _ _ _ _, (OX.out.put (b := 0) (Nat.zero_le _) (by simp) (by first | omega | (simp; done) | (simp; omega)) (fun g hg => put4_same _ _ _ _ _ _ _ hg)).rd, put4_box ZC.out _ _ _ _⟩
            | have lB := ZB.out.lt
              exact ⟨hx, wx.heap.size, rfl, rfl, put4_below HbC.out (by omega) _ _ _ _, (OX.out.put (b := 0) (Nat.zero_le _) (by simp) (by first | omega | (simp; done) | (simp; omega)) (fun g hg => put4_same _ _ _ _ _ _ _ hg)).rd, put4_box ZC.out _ _ _ _⟩
      case rest =>
        as_aux_lemma =>
          rename World => wu
          obtain ⟨hu, gu, rfl, rfl, HBU, RUu, YUu⟩ := hcut
          have Bu : Hid (Below w.heap.size w wu) := Bx.out.trans (Below.mono HBU.out Bx.out.size)
          have RDu : Hid (RdD wu hd D) := RDx.out.below HBU.out
          have YDu : Hid (Box wu w1.heap.size 27 #[.slice hd.a0 hd.n0 hd.c0, .slice hd.a1 hd.n1 hd.c1, .bool hd.b, .slice hd.a2 hd.n2 hd.c2]) := YDx.out.belowS HBU.out
          have RWu : Hid (RdD wu hw WD) := RWx.out.below HBU.out
          have YWu : Hid (Box wu w4.heap.size 27 #[.slice hw.a0 hw.n0 hw.c0, .slice hw.a1 hw.n1 hw.c1, .bool hw.b, .slice hw.a2 hw.n2 hw.c2]) := YWx.out.belowS HBU.out
          have RVu : Hid (RdD wu hv WD) := RVx.out.below HBU.out
          have YVu : Hid (Box wu w6.heap.size 27 #[.slice hv.a0 hv.n0 hv.c0, .slice hv.a1 hv.n1 hv.c1, .bool hv.b, .slice hv.a2 hv.n2 hv.c2]) := YVx.out.belowS HBU.out
          have RSu : Hid (RdD wu hs (syncD WD)) := RSx.out.below HBU.out
          have YSu : Hid (Box wu w9.heap.size 27 #[.slice hs.a0 hs.n0 hs.c0, .slice hs.a1 hs.n1 hs.c1, .bool hs.b, .slice hs.a2 hs.n2 hs.c2]) := YSx.out.belowS HBU.out
          have RXu : Hid (RdD wu hx (crashD WD K)) := RXx.out.below HBU.out
          have YXu : Hid (Box wu gx 27 #[.slice hx.a0 hx.n0 hx.c0, .slice hx.a1 hx.n1 hx.c1, .bool hx.b, .slice hx.a2 hx.n2 hx.c2]) := YXx.out.belowS HBU.out
          clear Bx RDx YDx RWx YWx RVx YVx RSx YSx RXx YXx
          clear v0 v1 v2 v3 RZx lWx HBU
          obtain ⟨v0, v1, v2, v3⟩ := box4 YWu.out
          go_wp2_with fail
          refine (CP.out wu hw RWu.out).mono ?_
          rintro e wp ⟨⟨pa, pc, m, hm0, rfl⟩, hb⟩
          have Bp : Hid (Below w.heap.size w wp) := Bu.out.trans (Below.mono hb Bu.out.size)
          have RDp : Hid (RdD wp hd D) := RDu.out.below hb
          have YDp : Hid (Box wp w1.heap.size 27 #[.slice hd.a0 hd.n0 hd.c0, .slice hd.a1 hd.n1 hd.c1, .bool hd.b, .slice hd.a2 hd.n2 hd.c2]) := YDu.out.belowS hb
          have RWp : Hid (RdD wp hw WD) := RWu.out.below hb
          have YWp : Hid (Box wp w4.heap.size 27 #[.slice hw.a0 hw.n0 hw.c0, .slice hw.a1 hw.n1 hw.c1, .bool hw.b, .slice hw.a2 hw.n2 hw.c2]) := YWu.out.belowS hb
          have RVp : Hid (RdD wp hv WD) := RVu.out.below hb
          have YVp : Hid (Box wp w6.heap.size 27 #[.slice hv.a0 hv.n0 hv.c0, .slice hv.a1 hv.n1 hv.c1, .bool hv.b, .slice hv.a2 hv.n2 hv.c2]) := YVu.out.belowS hb
          have RSp : Hid (RdD wp hs (syncD WD)) := RSu.out.below hb
          have YSp : Hid (Box wp w9.heap.size 27 #[.slice hs.a0 hs.n0 hs.c0, .slice hs.a1 hs.n1 hs.c1, .bool hs.b, .slice hs.a2 hs.n2 hs.c2]) := YSu.out.belowS hb
          have RXp : Hid (RdD wp hx (crashD WD K)) := RXu.out.below hb
          have YXp : Hid (Box wp gx 27 #[.slice hx.a0 hx.n0 hx.c0, .slice hx.a1 hx.n1 hx.c1, .bool hx.b, .slice hx.a2 hx.n2 hx.c2]) := YXu.out.belowS hb
          have RUp : Hid (RdD wp hu (crashD WD K)) := RUu.out.below hb
          have YUp : Hid (Box wp gu 27 #[.slice hu.a0 hu.n0 hu.c0, .slice hu.a1 hu.n1 hu.c1, .bool hu.b, .slice hu.a2 hu.n2 hu.c2]) := YUu.out.belowS hb
          clear Bu RDu YDu RWu YWu RVu YVu RSu YSu RXu YXu RUu YUu
          clear hb v0 v1 v2 v3
          have hm1 : ((m : Int) == 0) = false := by simp; omega
          obtain ⟨v0, v1, v2, v3⟩ := box4 YWp.out
          obtain ⟨u0, u1, u2, u3⟩ := box4 YVp.out
          go_wp2_with fail
          refine (c_sameDisk2 hw hv WD wp RWp.out RVp.out FW.out).mono ?_
          rintro e wq ⟨rfl, hb⟩
          have Bq : Hid (Below w.heap.size w wq) := Bp.out.trans (Below.mono hb Bp.out.size)
          have RDq : Hid (RdD wq hd D) := RDp.out.below hb
          have YDq : Hid (Box wq w1.heap.size 27 #[.slice hd.a0 hd.n0 hd.c0, .slice hd.a1 hd.n1 hd.c1, .bool hd.b, .slice hd.a2 hd.n2 hd.c2]) := YDp.out.belowS hb
          have RWq : Hid (RdD wq hw WD) := RWp.out.below hb
          have YWq : Hid (Box wq w4.heap.size 27 #[.slice hw.a0 hw.n0 hw.c0, .slice hw.a1 hw.n1 hw.c1, .bool hw.b, .slice hw.a2 hw.n2 hw.c2]) := YWp.out.belowS hb
          have RVq : Hid (RdD wq hv WD) := RVp.out.below hb
          have YVq : Hid (Box wq w6.heap.size 27 #[.slice hv.a0 hv.n0 hv.c0, .slice hv.a1 hv.n1 hv.c1, .bool hv.b, .slice hv.a2 hv.n2 hv.c2]) := YVp.out.belowS hb
          have RSq : Hid (RdD wq hs (syncD WD)) := RSp.out.below hb
          have YSq : Hid (Box wq w9.heap.size 27 #[.slice hs.a0 hs.n0 hs.c0, .slice hs.a1 hs.n1 hs.c1, .bool hs.b, .slice hs.a2 hs.n2 hs.c2]) := YSp.out.belowS hb
          have RXq : Hid (RdD wq hx (crashD WD K)) := RXp.out.below hb
          have YXq : Hid (Box wq gx 27 #[.slice hx.a0 hx.n0 hx.c0, .slice hx.a1 hx.n1 hx.c1, .bool hx.b, .slice hx.a2 hx.n2 hx.c2]) := YXp.out.belowS hb
          have RUq : Hid (RdD wq hu (crashD WD K)) := RUp.out.below hb
          have YUq : Hid (Box wq gu 27 #[.slice hu.a0 hu.n0 hu.c0, .slice hu.a1 hu.n1 hu.c1, .bool hu.b, .slice hu.a2 hu.n2 hu.c2]) := YUp.out.belowS hb
          clear Bp RDp YDp RWp YWp RVp YVp RSp YSp RXp YXp RUp YUp
          clear hb v0 v1 v2 v3 u0 u1 u2 u3
          have hA : ((!WD.A) == hd.b) = false := by rw [RDq.out.1, show WD.A = D.A by rw [HW.out]; rfl]; cases D.A <;> rfl
          obtain ⟨v0, v1, v2, v3⟩ := box4 YDq.out
          obtain ⟨u0, u1, u2, u3⟩ := box4 YXq.out
          obtain ⟨r0, r1, r2, r3⟩ := box4 YUq.out
          go_wp2_with fail
          refine (c_sameDisk2 hx hu (crashD WD K) wq RXq.out RUq.out (ok_fit (ok_crash OKW.out K))).mono ?_
          rintro e wz ⟨rfl, hb⟩
          have Br : Hid (Below w.heap.size w wz) := Bq.out.trans (Below.mono hb Bq.out.size)
          have RDr : Hid (RdD wz hd D) := RDq.out.below hb
          have YDr : Hid (Box wz w1.heap.size 27 #[.slice hd.a0 hd.n0 hd.c0, .slice hd.a1 hd.n1 hd.c1, .bool hd.b, .slice hd.a2 hd.n2 hd.c2]) := YDq.out.belowS hb
          have RWr : Hid (RdD wz hw WD) := RWq.out.below hb
          have YWr : Hid (Box wz w4.heap.size 27 #[.slice hw.a0 hw.n0 hw.c0, .slice hw.a1 hw.n1 hw.c1, .bool hw.b, .slice hw.a2 hw.n2 hw.c2]) := YWq.out.belowS hb
          have RVr : Hid (RdD wz hv WD) := RVq.out.below hb
          have YVr : Hid (Box wz w6.heap.size 27 #[.slice hv.a0 hv.n0 hv.c0, .slice hv.a1 hv.n1 hv.c1, .bool hv.b, .slice hv.a2 hv.n2 hv.c2]) := YVq.out.belowS hb
          have RSr : Hid (RdD wz hs (syncD WD)) := RSq.out.below hb
          have YSr : Hid (Box wz w9.heap.size 27 #[.slice hs.a0 hs.n0 hs.c0, .slice hs.a1 hs.n1 hs.c1, .bool hs.b, .slice hs.a2 hs.n2 hs.c2]) := YSq.out.belowS hb
          have RXr : Hid (RdD wz hx (crashD WD K)) := RXq.out.below hb
          have YXr : Hid (Box wz gx 27 #[.slice hx.a0 hx.n0 hx.c0, .slice hx.a1 hx.n1 hx.c1, .bool hx.b, .slice hx.a2 hx.n2 hx.c2]) := YXq.out.belowS hb
          clear Bq RDq YDq RWq YWq RVq YVq RSq YSq RXq YXq
          clear hb v0 v1 v2 v3 u0 u1 u2 u3 r0 r1 r2 r3 RUq YUq
          have hS : Hid (D.S = WD.S) := by unfold Hid; rw [HW.out]; rfl
          have hlW := RWr.out.l1
          have hn1 : hw.n1 ≤ 500 := by have := (ok_parts OKW.out).1.2.2.1; omega
          have hce : WD.A = true ∨ WD.A = false := by cases WD.A <;> simp
          rcases hce with hA2 | hA2
          · rw [hA2]
            go_wp2
            go_loopw [22] (fun i wl => ∃ k2 : Nat, k2 ≤ hd.n0 ∧ i = .int .i64 (k2 : Int) ∧ Hid (Below wz.heap.size wz wl)) (fun i _ => hd.n0 - (intOf i).toNat)
            case atStart => exact ⟨0, by omega, rfl, Below.refl _ _⟩
            case round =>
              as_aux_lemma =>
                rename World => wl
                obtain ⟨k2, hk2, rfl, HBL⟩ := hrel
                have Bl : Hid (Below w.heap.size w wl) := Br.out.trans (Below.mono HBL.out Br.out.size)
                have RDl : Hid (RdD wl hd D) := RDr.out.below HBL.out
                have YDl : Hid (Box wl w1.heap.size 27 #[.slice hd.a0 hd.n0 hd.c0, .slice hd.a1 hd.n1 hd.c1, .bool hd.b, .slice hd.a2 hd.n2 hd.c2]) := YDr.out.belowS HBL.out
                have RWl : Hid (RdD wl hw WD) := RWr.out.below HBL.out
                have YWl : Hid (Box wl w4.heap.size 27 #[.slice hw.a0 hw.n0 hw.c0, .slice hw.a1 hw.n1 hw.c1, .bool hw.b, .slice hw.a2 hw.n2 hw.c2]) := YWr.out.belowS HBL.out
                have RSl : Hid (RdD wl hs (syncD WD)) := RSr.out.below HBL.out
                have YSl : Hid (Box wl w9.heap.size 27 #[.slice hs.a0 hs.n0 hs.c0, .slice hs.a1 hs.n1 hs.c1, .bool hs.b, .slice hs.a2 hs.n2 hs.c2]) := YSr.out.belowS HBL.out
                have RXl : Hid (RdD wl hx (crashD WD K)) := RXr.out.below HBL.out
                have YXl : Hid (Box wl gx 27 #[.slice hx.a0 hx.n0 hx.c0, .slice hx.a1 hx.n1 hx.c1, .bool hx.b, .slice hx.a2 hx.n2 hx.c2]) := YXr.out.belowS HBL.out
                by_cases hlt : k2 < hd.n0
                · obtain ⟨v0, v1, v2, v3⟩ := box4 YDl.out
                  obtain ⟨x0, x1, x2, x3⟩ := box4 YWl.out
                  go_wp2_with fail
                  refine (CR.out wl hw WD k2 OKW.out (by rw [HLW.out]; exact hlt) RWl.out).mono ?_
                  rintro e wa ⟨rfl, hb⟩
                  have Ba : Hid (Below w.heap.size w wa) := Bl.out.trans (Below.mono hb Bl.out.size)
                  have RDa : Hid (RdD wa hd D) := RDl.out.below hb
                  have YDa : Hid (Box wa w1.heap.size 27 #[.slice hd.a0 hd.n0 hd.c0, .slice hd.a1 hd.n1 hd.c1, .bool hd.b, .slice hd.a2 hd.n2 hd.c2]) := YDl.out.belowS hb
                  have RWa : Hid (RdD wa hw WD) := RWl.out.below hb
                  have YWa : Hid (Box wa w4.heap.size 27 #[.slice hw.a0 hw.n0 hw.c0, .slice hw.a1 hw.n1 hw.c1, .bool hw.b, .slice hw.a2 hw.n2 hw.c2]) := YWl.out.belowS hb
                  have RSa : Hid (RdD wa hs (syncD WD)) := RSl.out.below hb
                  have YSa : Hid (Box wa w9.heap.size 27 #[.slice hs.a0 hs.n0 hs.c0, .slice hs.a1 hs.n1 hs.c1, .bool hs.b, .slice hs.a2 hs.n2 hs.c2]) := YSl.out.belowS hb
                  have RXa : Hid (RdD wa hx (crashD WD K)) := RXl.out.below hb
                  have YXa : Hid (Box wa gx 27 #[.slice hx.a0 hx.n0 hx.c0, .slice hx.a1 hx.n1 hx.c1, .bool hx.b, .slice hx.a2 hx.n2 hx.c2]) := YXl.out.belowS hb
                  clear Bl RDl YDl RWl YWl RSl YSl RXl YXl
                  have HBa : Hid (Below wz.heap.size wz wa) := HBL.out.trans (hb.mono HBL.out.size)
                  clear hb v0 v1 v2 v3 x0 x1 x2 x3 HBL
                  obtain ⟨v0, v1, v2, v3⟩ := box4 YSa.out
                  go_wp2_with fail
                  refine (CR.out wa hs (syncD WD) k2 (ok_sync OKW.out) (by rw [sync_len, HLW.out]; exact hlt) RSa.out).mono ?_
                  rintro e wb ⟨rfl, hb⟩
                  have Bb : Hid (Below w.heap.size w wb) := Ba.out.trans (Below.mono hb Ba.out.size)
                  have RDb : Hid (RdD wb hd D) := RDa.out.below hb
                  have YDb : Hid (Box wb w1.heap.size 27 #[.slice hd.a0 hd.n0 hd.c0, .slice hd.a1 hd.n1 hd.c1, .bool hd.b, .slice hd.a2 hd.n2 hd.c2]) := YDa.out.belowS hb
                  have RWb : Hid (RdD wb hw WD) := RWa.out.below hb
                  have YWb : Hid (Box wb w4.heap.size 27 #[.slice hw.a0 hw.n0 hw.c0, .slice hw.a1 hw.n1 hw.c1, .bool hw.b, .slice hw.a2 hw.n2 hw.c2]) := YWa.out.belowS hb
                  have RSb : Hid (RdD wb hs (syncD WD)) := RSa.out.below hb
                  have YSb : Hid (Box wb w9.heap.size 27 #[.slice hs.a0 hs.n0 hs.c0, .slice hs.a1 hs.n1 hs.c1, .bool hs.b, .slice hs.a2 hs.n2 hs.c2]) := YSa.out.belowS hb
                  have RXb : Hid (RdD wb hx (crashD WD K)) := RXa.out.below hb
                  have YXb : Hid (Box wb gx 27 #[.slice hx.a0 hx.n0 hx.c0, .slice hx.a1 hx.n1 hx.c1, .bool hx.b, .slice hx.a2 hx.n2 hx.c2]) := YXa.out.belowS hb
                  clear Ba RDa YDa RWa YWa RSa YSa RXa YXa
                  have HBb : Hid (Below wz.heap.size wz wb) := HBa.out.trans (hb.mono HBa.out.size)
                  clear hb v0 v1 v2 v3 HBa
                  obtain ⟨v0, v1, v2, v3⟩ := box4 YXb.out
                  go_wp2_with fail
                  refine (CR.out wb hx (crashD WD K) k2 (ok_crash OKW.out K) (by rw [show (crashD WD K).S.length = WD.S.length from settle_len _ _, HLW.out]; exact hlt) RXb.out).mono ?_
                  rintro e wc ⟨rfl, hb⟩
                  have Bc : Hid (Below w.heap.size w wc) := Bb.out.trans (Below.mono hb Bb.out.size)
                  have RDc : Hid (RdD wc hd D) := RDb.out.below hb
                  have YDc : Hid (Box wc w1.heap.size 27 #[.slice hd.a0 hd.n0 hd.c0, .slice hd.a1 hd.n1 hd.c1, .bool hd.b, .slice hd.a2 hd.n2 hd.c2]) := YDb.out.belowS hb
                  have RWc : Hid (RdD wc hw WD) := RWb.out.below hb
                  have YWc : Hid (Box wc w4.heap.size 27 #[.slice hw.a0 hw.n0 hw.c0, .slice hw.a1 hw.n1 hw.c1, .bool hw.b, .slice hw.a2 hw.n2 hw.c2]) := YWb.out.belowS hb
                  have RSc : Hid (RdD wc hs (syncD WD)) := RSb.out.below hb
                  have YSc : Hid (Box wc w9.heap.size 27 #[.slice hs.a0 hs.n0 hs.c0, .slice hs.a1 hs.n1 hs.c1, .bool hs.b, .slice hs.a2 hs.n2 hs.c2]) := YSb.out.belowS hb
                  have RXc : Hid (RdD wc hx (crashD WD K)) := RXb.out.below hb
                  have YXc : Hid (Box wc gx 27 #[.slice hx.a0 hx.n0 hx.c0, .slice hx.a1 hx.n1 hx.c1, .bool hx.b, .slice hx.a2 hx.n2 hx.c2]) := YXb.out.belowS hb
                  clear Bb RDb YDb RWb YWb RSb YSb RXb YXb
                  have HBC : Hid (Below wz.heap.size wz wc) := HBb.out.trans (hb.mono HBb.out.size)
                  clear hb v0 v1 v2 v3 HBb
                  have hor := crash_or OKW.out K (j := k2) (by rw [HLW.out]; exact hlt)
                  rw [← hS.out] at hor
                  obtain ⟨y, hy⟩ : ∃ y, readT (crashD WD K) k2 = y := ⟨_, rfl⟩
                  obtain ⟨sx, hsx⟩ : ∃ x, D.S.getD k2 ⟨#[]⟩ = x := ⟨_, rfl⟩
                  rw [hy, hsx] at hor
                  rw [hy]
                  have HOR : Hid (y = sx ∨ ∃ i, i < WD.C.length ∧ (WD.C.getD i dP).1 = (k2 : Int) ∧ (WD.C.getD i dP).2 = y) := hor
                  have RPC : Hid (RdP wc hw.a1 hw.n1 WD.C) := RWc.out.2.2.1
                  obtain ⟨bS, oS, eS, _, hcS⟩ := RDc.out.2.1.2 (by omega)
                  have hck : wc.cell? ⟨bS, oS + k2, none⟩ = some (.string sx) := by rw [← hsx, hcS k2 hlt]; exact map_get _ _ _ _ (by omega)
                  obtain ⟨v0, v1, v2, v3⟩ := box4 YDc.out
                  obtain ⟨x0, x1, x2, x3⟩ := box4 YWc.out
                  rw [eS] at v0
                  clear hy hsx hor hcS
                  go_wp2
                  go_loop [29, 30] (fun s j => ∃ (b : Bool) (j2 : Nat), s = .bool b ∧ j = .int .i64 (j2 : Int) ∧ j2 ≤ hw.n1 ∧ Hid (y = sx → b = true) ∧ Hid (∀ t, t < j2 → (WD.C.getD t dP).1 = (k2 : Int) → (WD.C.getD t dP).2 = y → b = true)) (fun _ j => hw.n1 - (intOf j).toNat)
                  case atStart =>
                    refine ⟨_, 0, rfl, rfl, by omega, ?_, ?_⟩
                    · intro e; rw [e]; simp
                    · intro t ht; exact absurd ht (by omega)
                  case round =>
                    as_aux_lemma =>
                      obtain ⟨b, j2, rfl, rfl, hj2, HY0, HQ⟩ := hrel
                      by_cases hlj : j2 < hw.n1
                      · cases b with
                        | true =>
                          go_wp2
                          go_round
                          case rel => exact ⟨true, j2 + 1, rfl, by go_num, by omega, fun _ => rfl, fun _ _ _ _ => rfl⟩
                          case measure => simp [intOf]; omega
                        | false =>
                          obtain ⟨bC, oC, eC, _, hcC⟩ := RPC.out.2 (by omega)
                          obtain ⟨c0, c1⟩ := hcC j2 hlj
                          obtain ⟨⟨pa, pt⟩, hp⟩ : ∃ p, p = WD.C.getD j2 dP := ⟨_, rfl⟩
                          rw [← hp] at c0 c1
                          simp only at c0 c1
                          rw [eC] at x1
                          have HP : Hid ((pa, pt) = WD.C.getD j2 dP) := hp
                          clear hp hcC
                          by_cases e1 : pa = (k2 : Int)
                          · subst e1
                            by_cases e2 : pt.toList = y.toList
                            · have g1 : (pt.toList == y.toList) = true := by rw [e2]; simp
                              go_wp2
                              go_round
                              case rel => exact ⟨true, j2 + 1, rfl, by go_num, by omega, fun _ => rfl, fun _ _ _ _ => rfl⟩
                              case measure => simp [intOf]; omega
                            · have g1 : (pt.toList == y.toList) = false := by simp [e2]
                              have HE : Hid (pt ≠ y) := fun e => e2 (by rw [e])
                              go_wp2
                              go_round
                              case rel => exact ⟨false, j2 + 1, rfl, by go_num, by omega, HY0, fun t ht ha hd => if e : t = j2 then (HE.out (by rw [e, ← HP.out] at hd; exact hd)).elim else HQ.out t (by omega) ha hd⟩
                              case measure => simp [intOf]; omega
                          · have g1 : (pa == (k2 : Int)) = false := by simp [e1]
                            have HE : Hid (pa ≠ (k2 : Int)) := e1
                            go_wp2
                            go_round
                            case rel => exact ⟨false, j2 + 1, rfl, by go_num, by omega, HY0, fun t ht ha hd => if e : t = j2 then (HE.out (by rw [e, ← HP.out] at ha; exact ha)).elim else HQ.out t (by omega) ha hd⟩
                            case measure => simp [intOf]; omega
                      · have hb : b = true := by
                          rcases HOR.out with e | ⟨t, ht, ha, hd⟩
                          · exact HY0.out e
                          · exact HQ.out t (by omega) ha hd
                        subst hb
                        go_wp2
                        go_roundw
                        case rel => exact ⟨k2 + 1, by omega, by go_num, HBC⟩
                        case measure => simp [intOf]; omega
                · have e : k2 = hd.n0 := by omega
                  subst e
                  obtain ⟨v0, v1, v2, v3⟩ := box4 YDl.out
                  obtain ⟨x0, x1, x2, x3⟩ := box4 YWl.out
                  go_wp2_with fail
                  refine (c_implOK hw WD wl RWl.out FW.out).mono ?_
                  rintro e wa ⟨rfl, hb⟩
                  rw [OKW.out]
                  have Ba : Hid (Below w.heap.size w wa) := Bl.out.trans (Below.mono hb Bl.out.size)
                  have RDa : Hid (RdD wa hd D) := RDl.out.below hb
                  have YDa : Hid (Box wa w1.heap.size 27 #[.slice hd.a0 hd.n0 hd.c0, .slice hd.a1 hd.n1 hd.c1, .bool hd.b, .slice hd.a2 hd.n2 hd.c2]) := YDl.out.belowS hb
                  have RWa : Hid (RdD wa hw WD) := RWl.out.below hb
                  have YWa : Hid (Box wa w4.heap.size 27 #[.slice hw.a0 hw.n0 hw.c0, .slice hw.a1 hw.n1 hw.c1, .bool hw.b, .slice hw.a2 hw.n2 hw.c2]) := YWl.out.belowS hb
                  have RSa : Hid (RdD wa hs (syncD WD)) := RSl.out.below hb
                  have YSa : Hid (Box wa w9.heap.size 27 #[.slice hs.a0 hs.n0 hs.c0, .slice hs.a1 hs.n1 hs.c1, .bool hs.b, .slice hs.a2 hs.n2 hs.c2]) := YSl.out.belowS hb
                  have RXa : Hid (RdD wa hx (crashD WD K)) := RXl.out.below hb
                  have YXa : Hid (Box wa gx 27 #[.slice hx.a0 hx.n0 hx.c0, .slice hx.a1 hx.n1 hx.c1, .bool hx.b, .slice hx.a2 hx.n2 hx.c2]) := YXl.out.belowS hb
                  clear Bl RDl YDl RWl YWl RSl YSl RXl YXl
                  clear hb v0 v1 v2 v3 x0 x1 x2 x3
                  obtain ⟨v0, v1, v2, v3⟩ := box4 YSa.out
                  go_wp2_with fail
                  refine (c_implOK hs (syncD WD) wa RSa.out (ok_fit (ok_sync OKW.out))).mono ?_
                  rintro e wb ⟨rfl, hb⟩
                  rw [ok_sync OKW.out]
                  have Bb : Hid (Below w.heap.size w wb) := Ba.out.trans (Below.mono hb Ba.out.size)
                  have RDb : Hid (RdD wb hd D) := RDa.out.below hb
                  have YDb : Hid (Box wb w1.heap.size 27 #[.slice hd.a0 hd.n0 hd.c0, .slice hd.a1 hd.n1 hd.c1, .bool hd.b, .slice hd.a2 hd.n2 hd.c2]) := YDa.out.belowS hb
                  have RWb : Hid (RdD wb hw WD) := RWa.out.below hb
                  have YWb : Hid (Box wb w4.heap.size 27 #[.slice hw.a0 hw.n0 hw.c0, .slice hw.a1 hw.n1 hw.c1, .bool hw.b, .slice hw.a2 hw.n2 hw.c2]) := YWa.out.belowS hb
                  have RSb : Hid (RdD wb hs (syncD WD)) := RSa.out.below hb
                  have YSb : Hid (Box wb w9.heap.size 27 #[.slice hs.a0 hs.n0 hs.c0, .slice hs.a1 hs.n1 hs.c1, .bool hs.b, .slice hs.a2 hs.n2 hs.c2]) := YSa.out.belowS hb
                  have RXb : Hid (RdD wb hx (crashD WD K)) := RXa.out.below hb
                  have YXb : Hid (Box wb gx 27 #[.slice hx.a0 hx.n0 hx.c0, .slice hx.a1 hx.n1 hx.c1, .bool hx.b, .slice hx.a2 hx.n2 hx.c2]) := YXa.out.belowS hb
                  clear Ba RDa YDa RWa YWa RSa YSa RXa YXa
                  clear hb v0 v1 v2 v3
                  obtain ⟨v0, v1, v2, v3⟩ := box4 YXb.out
                  go_wp2_with fail
                  refine (c_implOK hx (crashD WD K) wb RXb.out (ok_fit (ok_crash OKW.out K))).mono ?_
                  rintro e wc ⟨rfl, hb⟩
                  rw [ok_crash OKW.out K]
                  have Bc : Hid (Below w.heap.size w wc) := Bb.out.trans (Below.mono hb Bb.out.size)
                  have RDc : Hid (RdD wc hd D) := RDb.out.below hb
                  have YDc : Hid (Box wc w1.heap.size 27 #[.slice hd.a0 hd.n0 hd.c0, .slice hd.a1 hd.n1 hd.c1, .bool hd.b, .slice hd.a2 hd.n2 hd.c2]) := YDb.out.belowS hb
                  have RWc : Hid (RdD wc hw WD) := RWb.out.below hb
                  have YWc : Hid (Box wc w4.heap.size 27 #[.slice hw.a0 hw.n0 hw.c0, .slice hw.a1 hw.n1 hw.c1, .bool hw.b, .slice hw.a2 hw.n2 hw.c2]) := YWb.out.belowS hb
                  have RSc : Hid (RdD wc hs (syncD WD)) := RSb.out.below hb
                  have YSc : Hid (Box wc w9.heap.size 27 #[.slice hs.a0 hs.n0 hs.c0, .slice hs.a1 hs.n1 hs.c1, .bool hs.b, .slice hs.a2 hs.n2 hs.c2]) := YSb.out.belowS hb
                  have RXc : Hid (RdD wc hx (crashD WD K)) := RXb.out.below hb
                  have YXc : Hid (Box wc gx 27 #[.slice hx.a0 hx.n0 hx.c0, .slice hx.a1 hx.n1 hx.c1, .bool hx.b, .slice hx.a2 hx.n2 hx.c2]) := YXb.out.belowS hb
                  clear Bb RDb YDb RWb YWb RSb YSb RXb YXb
                  clear hb v0 v1 v2 v3
                  have z1 : hx.n1 = 0 := RXc.out.l1.symm
                  have z2 : hs.n1 = 0 := by rw [← RSc.out.l1, sync_none]; rfl
                  obtain ⟨v0, v1, v2, v3⟩ := box4 YXc.out
                  obtain ⟨x0, x1, x2, x3⟩ := box4 YSc.out
                  rw [z1] at v1
                  rw [z2] at x1
                  go_wp2
                  go_ret
                  exact ⟨rfl, Bc.out⟩
          · rw [hA2]
            go_wp2
            go_loopw [22] (fun i wl => ∃ k2 : Nat, k2 ≤ hd.n0 ∧ i = .int .i64 (k2 : Int) ∧ Hid (Below wz.heap.size wz wl)) (fun i _ => hd.n0 - (intOf i).toNat)
            case atStart => exact ⟨0, by omega, rfl, Below.refl _ _⟩
            case round =>
              as_aux_lemma =>
                rename World => wl
                obtain ⟨k2, hk2, rfl, HBL⟩ := hrel
                have Bl : Hid (Below w.heap.size w wl) := Br.out.trans (Below.mono HBL.out Br.out.size)
                have RDl : Hid (RdD wl hd D) := RDr.out.below HBL.out
                have YDl : Hid (Box wl w1.heap.size 27 #[.slice hd.a0 hd.n0 hd.c0, .slice hd.a1 hd.n1 hd.c1, .bool hd.b, .slice hd.a2 hd.n2 hd.c2]) := YDr.out.belowS HBL.out
                have RWl : Hid (RdD wl hw WD) := RWr.out.below HBL.out
                have YWl : Hid (Box wl w4.heap.size 27 #[.slice hw.a0 hw.n0 hw.c0, .slice hw.a1 hw.n1 hw.c1, .bool hw.b, .slice hw.a2 hw.n2 hw.c2]) := YWr.out.belowS HBL.out
                have RSl : Hid (RdD wl hs (syncD WD)) := RSr.out.below HBL.out
                have YSl : Hid (Box wl w9.heap.size 27 #[.slice hs.a0 hs.n0 hs.c0, .slice hs.a1 hs.n1 hs.c1, .bool hs.b, .slice hs.a2 hs.n2 hs.c2]) := YSr.out.belowS HBL.out
                have RXl : Hid (RdD wl hx (crashD WD K)) := RXr.out.below HBL.out
                have YXl : Hid (Box wl gx 27 #[.slice hx.a0 hx.n0 hx.c0, .slice hx.a1 hx.n1 hx.c1, .bool hx.b, .slice hx.a2 hx.n2 hx.c2]) := YXr.out.belowS HBL.out
                by_cases hlt : k2 < hd.n0
                · obtain ⟨v0, v1, v2, v3⟩ := box4 YDl.out
                  obtain ⟨x0, x1, x2, x3⟩ := box4 YWl.out
                  go_wp2_with fail
                  refine (CR.out wl hw WD k2 OKW.out (by rw [HLW.out]; exact hlt) RWl.out).mono ?_
                  rintro e wa ⟨rfl, hb⟩
                  have Ba : Hid (Below w.heap.size w wa) := Bl.out.trans (Below.mono hb Bl.out.size)
                  have RDa : Hid (RdD wa hd D) := RDl.out.below hb
                  have YDa : Hid (Box wa w1.heap.size 27 #[.slice hd.a0 hd.n0 hd.c0, .slice hd.a1 hd.n1 hd.c1, .bool hd.b, .slice hd.a2 hd.n2 hd.c2]) := YDl.out.belowS hb
                  have RWa : Hid (RdD wa hw WD) := RWl.out.below hb
                  have YWa : Hid (Box wa w4.heap.size 27 #[.slice hw.a0 hw.n0 hw.c0, .slice hw.a1 hw.n1 hw.c1, .bool hw.b, .slice hw.a2 hw.n2 hw.c2]) := YWl.out.belowS hb
                  have RSa : Hid (RdD wa hs (syncD WD)) := RSl.out.below hb
                  have YSa : Hid (Box wa w9.heap.size 27 #[.slice hs.a0 hs.n0 hs.c0, .slice hs.a1 hs.n1 hs.c1, .bool hs.b, .slice hs.a2 hs.n2 hs.c2]) := YSl.out.belowS hb
                  have RXa : Hid (RdD wa hx (crashD WD K)) := RXl.out.below hb
                  have YXa : Hid (Box wa gx 27 #[.slice hx.a0 hx.n0 hx.c0, .slice hx.a1 hx.n1 hx.c1, .bool hx.b, .slice hx.a2 hx.n2 hx.c2]) := YXl.out.belowS hb
                  clear Bl RDl YDl RWl YWl RSl YSl RXl YXl
                  have HBa : Hid (Below wz.heap.size wz wa) := HBL.out.trans (hb.mono HBL.out.size)
                  clear hb v0 v1 v2 v3 x0 x1 x2 x3 HBL
                  obtain ⟨v0, v1, v2, v3⟩ := box4 YSa.out
                  go_wp2_with fail
                  refine (CR.out wa hs (syncD WD) k2 (ok_sync OKW.out) (by rw [sync_len, HLW.out]; exact hlt) RSa.out).mono ?_
                  rintro e wb ⟨rfl, hb⟩
                  have Bb : Hid (Below w.heap.size w wb) := Ba.out.trans (Below.mono hb Ba.out.size)
                  have RDb : Hid (RdD wb hd D) := RDa.out.below hb
                  have YDb : Hid (Box wb w1.heap.size 27 #[.slice hd.a0 hd.n0 hd.c0, .slice hd.a1 hd.n1 hd.c1, .bool hd.b, .slice hd.a2 hd.n2 hd.c2]) := YDa.out.belowS hb
                  have RWb : Hid (RdD wb hw WD) := RWa.out.below hb
                  have YWb : Hid (Box wb w4.heap.size 27 #[.slice hw.a0 hw.n0 hw.c0, .slice hw.a1 hw.n1 hw.c1, .bool hw.b, .slice hw.a2 hw.n2 hw.c2]) := YWa.out.belowS hb
                  have RSb : Hid (RdD wb hs (syncD WD)) := RSa.out.below hb
                  have YSb : Hid (Box wb w9.heap.size 27 #[.slice hs.a0 hs.n0 hs.c0, .slice hs.a1 hs.n1 hs.c1, .bool hs.b, .slice hs.a2 hs.n2 hs.c2]) := YSa.out.belowS hb
                  have RXb : Hid (RdD wb hx (crashD WD K)) := RXa.out.below hb
                  have YXb : Hid (Box wb gx 27 #[.slice hx.a0 hx.n0 hx.c0, .slice hx.a1 hx.n1 hx.c1, .bool hx.b, .slice hx.a2 hx.n2 hx.c2]) := YXa.out.belowS hb
                  clear Ba RDa YDa RWa YWa RSa YSa RXa YXa
                  have HBb : Hid (Below wz.heap.size wz wb) := HBa.out.trans (hb.mono HBa.out.size)
                  clear hb v0 v1 v2 v3 HBa
                  obtain ⟨v0, v1, v2, v3⟩ := box4 YXb.out
                  go_wp2_with fail
                  refine (CR.out wb hx (crashD WD K) k2 (ok_crash OKW.out K) (by rw [show (crashD WD K).S.length = WD.S.length from settle_len _ _, HLW.out]; exact hlt) RXb.out).mono ?_
                  rintro e wc ⟨rfl, hb⟩
                  have Bc : Hid (Below w.heap.size w wc) := Bb.out.trans (Below.mono hb Bb.out.size)
                  have RDc : Hid (RdD wc hd D) := RDb.out.below hb
                  have YDc : Hid (Box wc w1.heap.size 27 #[.slice hd.a0 hd.n0 hd.c0, .slice hd.a1 hd.n1 hd.c1, .bool hd.b, .slice hd.a2 hd.n2 hd.c2]) := YDb.out.belowS hb
                  have RWc : Hid (RdD wc hw WD) := RWb.out.below hb
                  have YWc : Hid (Box wc w4.heap.size 27 #[.slice hw.a0 hw.n0 hw.c0, .slice hw.a1 hw.n1 hw.c1, .bool hw.b, .slice hw.a2 hw.n2 hw.c2]) := YWb.out.belowS hb
                  have RSc : Hid (RdD wc hs (syncD WD)) := RSb.out.below hb
                  have YSc : Hid (Box wc w9.heap.size 27 #[.slice hs.a0 hs.n0 hs.c0, .slice hs.a1 hs.n1 hs.c1, .bool hs.b, .slice hs.a2 hs.n2 hs.c2]) := YSb.out.belowS hb
                  have RXc : Hid (RdD wc hx (crashD WD K)) := RXb.out.below hb
                  have YXc : Hid (Box wc gx 27 #[.slice hx.a0 hx.n0 hx.c0, .slice hx.a1 hx.n1 hx.c1, .bool hx.b, .slice hx.a2 hx.n2 hx.c2]) := YXb.out.belowS hb
                  clear Bb RDb YDb RWb YWb RSb YSb RXb YXb
                  have HBC : Hid (Below wz.heap.size wz wc) := HBb.out.trans (hb.mono HBb.out.size)
                  clear hb v0 v1 v2 v3 HBb
                  have hor := crash_or OKW.out K (j := k2) (by rw [HLW.out]; exact hlt)
                  rw [← hS.out] at hor
                  obtain ⟨y, hy⟩ : ∃ y, readT (crashD WD K) k2 = y := ⟨_, rfl⟩
                  obtain ⟨sx, hsx⟩ : ∃ x, D.S.getD k2 ⟨#[]⟩ = x := ⟨_, rfl⟩
                  rw [hy, hsx] at hor
                  rw [hy]
                  have HOR : Hid (y = sx ∨ ∃ i, i < WD.C.length ∧ (WD.C.getD i dP).1 = (k2 : Int) ∧ (WD.C.getD i dP).2 = y) := hor
                  have RPC : Hid (RdP wc hw.a1 hw.n1 WD.C) := RWc.out.2.2.1
                  obtain ⟨bS, oS, eS, _, hcS⟩ := RDc.out.2.1.2 (by omega)
                  have hck : wc.cell? ⟨bS, oS + k2, none⟩ = some (.string sx) := by rw [← hsx, hcS k2 hlt]; exact map_get _ _ _ _ (by omega)
                  obtain ⟨v0, v1, v2, v3⟩ := box4 YDc.out
                  obtain ⟨x0, x1, x2, x3⟩ := box4 YWc.out
                  rw [eS] at v0
                  clear hy hsx hor hcS
                  rw [sync_rd OKW.out hA2 (by rw [HLW.out]; exact hlt)]
                  obtain ⟨ya, hya⟩ : ∃ y, readT WD k2 = y := ⟨_, rfl⟩
                  rw [hya]
                  have hne : (ya.toList == ya.toList) = true := by simp
                  clear hya
                  go_wp2
                  go_loop [29, 30] (fun s j => ∃ (b : Bool) (j2 : Nat), s = .bool b ∧ j = .int .i64 (j2 : Int) ∧ j2 ≤ hw.n1 ∧ Hid (y = sx → b = true) ∧ Hid (∀ t, t < j2 → (WD.C.getD t dP).1 = (k2 : Int) → (WD.C.getD t dP).2 = y → b = true)) (fun _ j => hw.n1 - (intOf j).toNat)
                  case atStart =>
                    refine ⟨_, 0, rfl, rfl, by omega, ?_, ?_⟩
                    · intro e; rw [e]; simp
                    · intro t ht; exact absurd ht (by omega)
                  case round =>
                    as_aux_lemma =>
                      obtain ⟨b, j2, rfl, rfl, hj2, HY0, HQ⟩ := hrel
                      by_cases hlj : j2 < hw.n1
                      · cases b with
                        | true =>
                          go_wp2
                          go_round
                          case rel => exact ⟨true, j2 + 1, rfl, by go_num, by omega, fun _ => rfl, fun _ _ _ _ => rfl⟩
                          case measure => simp [intOf]; omega
                        | false =>
                          obtain ⟨bC, oC, eC, _, hcC⟩ := RPC.out.2 (by omega)
                          obtain ⟨c0, c1⟩ := hcC j2 hlj
                          obtain ⟨⟨pa, pt⟩, hp⟩ : ∃ p, p = WD.C.getD j2 dP := ⟨_, rfl⟩
                          rw [← hp] at c0 c1
                          simp only at c0 c1
                          rw [eC] at x1
                          have HP : Hid ((pa, pt) = WD.C.getD j2 dP) := hp
                          clear hp hcC
                          by_cases e1 : pa = (k2 : Int)
                          · subst e1
                            by_cases e2 : pt.toList = y.toList
                            · have g1 : (pt.toList == y.toList) = true := by rw [e2]; simp
                              go_wp2
                              go_round
                              case rel => exact ⟨true, j2 + 1, rfl, by go_num, by omega, fun _ => rfl, fun _ _ _ _ => rfl⟩
                              case measure => simp [intOf]; omega
                            · have g1 : (pt.toList == y.toList) = false := by simp [e2]
                              have HE : Hid (pt ≠ y) := fun e => e2 (by rw [e])
                              go_wp2
                              go_round
                              case rel => exact ⟨false, j2 + 1, rfl, by go_num, by omega, HY0, fun t ht ha hd => if e : t = j2 then (HE.out (by rw [e, ← HP.out] at hd; exact hd)).elim else HQ.out t (by omega) ha hd⟩
                              case measure => simp [intOf]; omega
                          · have g1 : (pa == (k2 : Int)) = false := by simp [e1]
                            have HE : Hid (pa ≠ (k2 : Int)) := e1
                            go_wp2
                            go_round
                            case rel => exact ⟨false, j2 + 1, rfl, by go_num, by omega, HY0, fun t ht ha hd => if e : t = j2 then (HE.out (by rw [e, ← HP.out] at ha; exact ha)).elim else HQ.out t (by omega) ha hd⟩
                            case measure => simp [intOf]; omega
                      · have hb : b = true := by
                          rcases HOR.out with e | ⟨t, ht, ha, hd⟩
                          · exact HY0.out e
                          · exact HQ.out t (by omega) ha hd
                        subst hb
                        go_wp2
                        go_roundw
                        case rel => exact ⟨k2 + 1, by omega, by go_num, HBC⟩
                        case measure => simp [intOf]; omega
                · have e : k2 = hd.n0 := by omega
                  subst e
                  obtain ⟨v0, v1, v2, v3⟩ := box4 YDl.out
                  obtain ⟨x0, x1, x2, x3⟩ := box4 YWl.out
                  go_wp2_with fail
                  refine (c_implOK hw WD wl RWl.out FW.out).mono ?_
                  rintro e wa ⟨rfl, hb⟩
                  rw [OKW.out]
                  have Ba : Hid (Below w.heap.size w wa) := Bl.out.trans (Below.mono hb Bl.out.size)
                  have RDa : Hid (RdD wa hd D) := RDl.out.below hb
                  have YDa : Hid (Box wa w1.heap.size 27 #[.slice hd.a0 hd.n0 hd.c0, .slice hd.a1 hd.n1 hd.c1, .bool hd.b, .slice hd.a2 hd.n2 hd.c2]) := YDl.out.belowS hb
                  have RWa : Hid (RdD wa hw WD) := RWl.out.below hb
                  have YWa : Hid (Box wa w4.heap.size 27 #[.slice hw.a0 hw.n0 hw.c0, .slice hw.a1 hw.n1 hw.c1, .bool hw.b, .slice hw.a2 hw.n2 hw.c2]) := YWl.out.belowS hb
                  have RSa : Hid (RdD wa hs (syncD WD)) := RSl.out.below hb
                  have YSa : Hid (Box wa w9.heap.size 27 #[.slice hs.a0 hs.n0 hs.c0, .slice hs.a1 hs.n1 hs.c1, .bool hs.b, .slice hs.a2 hs.n2 hs.c2]) := YSl.out.belowS hb
                  have RXa : Hid (RdD wa hx (crashD WD K)) := RXl.out.below hb
                  have YXa : Hid (Box wa gx 27 #[.slice hx.a0 hx.n0 hx.c0, .slice hx.a1 hx.n1 hx.c1, .bool hx.b, .slice hx.a2 hx.n2 hx.c2]) := YXl.out.belowS hb
                  clear Bl RDl YDl RWl YWl RSl YSl RXl YXl
                  clear hb v0 v1 v2 v3 x0 x1 x2 x3
                  obtain ⟨v0, v1, v2, v3⟩ := box4 YSa.out
                  go_wp2_with fail
                  refine (c_implOK hs (syncD WD) wa RSa.out (ok_fit (ok_sync OKW.out))).mono ?_
                  rintro e wb ⟨rfl, hb⟩
                  rw [ok_sync OKW.out]
                  have Bb : Hid (Below w.heap.size w wb) := Ba.out.trans (Below.mono hb Ba.out.size)
                  have RDb : Hid (RdD wb hd D) := RDa.out.below hb
                  have YDb : Hid (Box wb w1.heap.size 27 #[.slice hd.a0 hd.n0 hd.c0, .slice hd.a1 hd.n1 hd.c1, .bool hd.b, .slice hd.a2 hd.n2 hd.c2]) := YDa.out.belowS hb
                  have RWb : Hid (RdD wb hw WD) := RWa.out.below hb
                  have YWb : Hid (Box wb w4.heap.size 27 #[.slice hw.a0 hw.n0 hw.c0, .slice hw.a1 hw.n1 hw.c1, .bool hw.b, .slice hw.a2 hw.n2 hw.c2]) := YWa.out.belowS hb
                  have RSb : Hid (RdD wb hs (syncD WD)) := RSa.out.below hb
                  have YSb : Hid (Box wb w9.heap.size 27 #[.slice hs.a0 hs.n0 hs.c0, .slice hs.a1 hs.n1 hs.c1, .bool hs.b, .slice hs.a2 hs.n2 hs.c2]) := YSa.out.belowS hb
                  have RXb : Hid (RdD wb hx (crashD WD K)) := RXa.out.below hb
                  have YXb : Hid (Box wb gx 27 #[.slice hx.a0 hx.n0 hx.c0, .slice hx.a1 hx.n1 hx.c1, .bool hx.b, .slice hx.a2 hx.n2 hx.c2]) := YXa.out.belowS hb
                  clear Ba RDa YDa RWa YWa RSa YSa RXa YXa
                  clear hb v0 v1 v2 v3
                  obtain ⟨v0, v1, v2, v3⟩ := box4 YXb.out
                  go_wp2_with fail
                  refine (c_implOK hx (crashD WD K) wb RXb.out (ok_fit (ok_crash OKW.out K))).mono ?_
                  rintro e wc ⟨rfl, hb⟩
                  rw [ok_crash OKW.out K]
                  have Bc : Hid (Below w.heap.size w wc) := Bb.out.trans (Below.mono hb Bb.out.size)
                  have RDc : Hid (RdD wc hd D) := RDb.out.below hb
                  have YDc : Hid (Box wc w1.heap.size 27 #[.slice hd.a0 hd.n0 hd.c0, .slice hd.a1 hd.n1 hd.c1, .bool hd.b, .slice hd.a2 hd.n2 hd.c2]) := YDb.out.belowS hb
                  have RWc : Hid (RdD wc hw WD) := RWb.out.below hb
                  have YWc : Hid (Box wc w4.heap.size 27 #[.slice hw.a0 hw.n0 hw.c0, .slice hw.a1 hw.n1 hw.c1, .bool hw.b, .slice hw.a2 hw.n2 hw.c2]) := YWb.out.belowS hb
                  have RSc : Hid (RdD wc hs (syncD WD)) := RSb.out.below hb
                  have YSc : Hid (Box wc w9.heap.size 27 #[.slice hs.a0 hs.n0 hs.c0, .slice hs.a1 hs.n1 hs.c1, .bool hs.b, .slice hs.a2 hs.n2 hs.c2]) := YSb.out.belowS hb
                  have RXc : Hid (RdD wc hx (crashD WD K)) := RXb.out.below hb
                  have YXc : Hid (Box wc gx 27 #[.slice hx.a0 hx.n0 hx.c0, .slice hx.a1 hx.n1 hx.c1, .bool hx.b, .slice hx.a2 hx.n2 hx.c2]) := YXb.out.belowS hb
                  clear Bb RDb YDb RWb YWb RSb YSb RXb YXb
                  clear hb v0 v1 v2 v3
                  have z1 : hx.n1 = 0 := RXc.out.l1.symm
                  have z2 : hs.n1 = 0 := by rw [← RSc.out.l1, sync_none]; rfl
                  obtain ⟨v0, v1, v2, v3⟩ := box4 YXc.out
                  obtain ⟨x0, x1, x2, x3⟩ := box4 YSc.out
                  rw [z1] at v1
                  rw [z2] at x1
                  go_wp2
                  go_ret
                  exact ⟨rfl, Bc.out⟩
end Go.Proofs.Ytefbaemcdfmhpaa
