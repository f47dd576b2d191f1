/-
  The walk of the law of ReadRecord.
-/
import Derived.Test.YtbjefhdacfijpaaDoorRc
namespace Go.Proofs.YtbjefhdacfijpaaDoor
open Go Go.RowKit
attribute [local go_sem ↓] Go.wp_at_zero Go.wp_at_succ


set_option maxRecDepth 100000 in
set_option maxHeartbeats 4000000 in
theorem c_eqR (e l t k p n g s : Int) (b a : ByteArray) (w : World) :
    Calls Tryd.prog 21 #[.agg #[.int .i64 e, .int .i64 l, .int .i64 t, .int .i64 k, .int .i64 p, .int .i64 n, .int .i64 g, .int .i64 s, .string b, .string a], .agg #[.int .i64 e, .int .i64 l, .int .i64 t, .int .i64 k, .int .i64 p, .int .i64 n, .int .i64 g, .int .i64 s, .string b, .string a]] w fun e' w' => e' = .returned (.bool true) ∧ Below w.heap.size w w' := by
  go_enter Tryd.func21, Tryd.ntmps21
  go_wp2
  go_ret
  exact ⟨rfl, ((Below.refl _ _).alloc (Nat.le_refl _) _).alloc (by simp) _⟩
set_option maxRecDepth 100000 in
set_option maxHeartbeats 8000000 in
theorem law_FnExactReadRecord (sa : Option Addr) (sn cap : Nat) (zs : List Int) (e l t k p n g s : Int) (b a : ByteArray) (c : Int) (w : World) (hr : RdV w sa sn (zs.map (Value.int .u8))) (hm : sn ≤ maxLen)
    (cs : sn ≤ 1048576 → ∀ (W : World) (a2 : Option Addr) (c2 : Nat), Below w.heap.size w W → RdV W a2 sn (zs.map (Value.int .u8)) → sn ≤ c2 → Calls Tryd.prog 18 #[.slice a2 sn c2] W fun e' w' => e' = .returned (.tuple #[.agg #[.int .i64 e, .int .i64 l, .int .i64 t, .int .i64 k, .int .i64 p, .int .i64 n, .int .i64 g, .int .i64 s, .string b, .string a], .int .i64 c]) ∧ Below W.heap.size W w')
    (ci : sn ≤ 1048576 → ∀ (W : World) (a2 : Option Addr) (c2 : Nat), Below w.heap.size w W → RdV W a2 sn (zs.map (Value.int .u8)) → sn ≤ c2 → Calls Tryd.prog 20 #[.slice a2 sn c2] W fun e' w' => e' = .returned (.tuple #[.agg #[.int .i64 e, .int .i64 l, .int .i64 t, .int .i64 k, .int .i64 p, .int .i64 n, .int .i64 g, .int .i64 s, .string b, .string a], .int .i64 c]) ∧ Below W.heap.size W w') :
    Calls Tryd.prog 4 #[.slice sa sn cap] w fun e' w' => e' = .returned (.bool true) ∧ Below w.heap.size w w' := by
  unfold maxLen at hm
  have HR : Hid (RdV w sa sn (zs.map (Value.int .u8))) := hr
  clear hr
  by_cases hbig : 1048576 < sn
  · go_enter Tryd.func4, Tryd.ntmps4
    go_wp2
    go_ret
    exact ⟨rfl, Below.refl _ _⟩
  have hn : sn ≤ 1048576 := by omega
  have CS : Hid (∀ (W : World) (a2 : Option Addr) (c2 : Nat), Below w.heap.size w W → RdV W a2 sn (zs.map (Value.int .u8)) → sn ≤ c2 → Calls Tryd.prog 18 #[.slice a2 sn c2] W fun e' w' => e' = .returned (.tuple #[.agg #[.int .i64 e, .int .i64 l, .int .i64 t, .int .i64 k, .int .i64 p, .int .i64 n, .int .i64 g, .int .i64 s, .string b, .string a], .int .i64 c]) ∧ Below W.heap.size W w') := cs hn
  have CI : Hid (∀ (W : World) (a2 : Option Addr) (c2 : Nat), Below w.heap.size w W → RdV W a2 sn (zs.map (Value.int .u8)) → sn ≤ c2 → Calls Tryd.prog 20 #[.slice a2 sn c2] W fun e' w' => e' = .returned (.tuple #[.agg #[.int .i64 e, .int .i64 l, .int .i64 t, .int .i64 k, .int .i64 p, .int .i64 n, .int .i64 g, .int .i64 s, .string b, .string a], .int .i64 c]) ∧ Below W.heap.size W w') := ci hn
  have TB : Hid (∀ W, Below w.heap.size w W → Calls Tryd.prog 19 #[.slice sa sn cap] W fun e w' => e = .returned (.slice (some ⟨W.heap.size, 0, none⟩) sn sn) ∧ w'.ownsRow W.heap.size 5 1 (.slice (some ⟨W.heap.size, 0, none⟩) sn sn) sn (zs.map (Value.int .u8)) ∧ Below W.heap.size W w') := fun W hW => c_toB sa sn cap zs W (HR.out.below hW) hn
  have B0 : Hid (Below w.heap.size w w) := Below.refl _ _
  have hcc : (c != c) = false := by simp
  clear cs ci HR
  go_enter Tryd.func4, Tryd.ntmps4
  go_wp2_with fail
  refine (TB.out w B0.out).mono ?_
  rintro e' w1 ⟨rfl, o1, hb⟩
  have T1 : Hid (RdV w1 (some ⟨w.heap.size, 0, none⟩) sn (zs.map (Value.int .u8))) := RdV.own o1
  clear o1
  have B1 : Hid (Below w.heap.size w w1) := B0.out.trans (hb.mono B0.out.size)
  have q0_1 : w.heap.size ≤ w1.heap.size := hb.size
  clear B0 hb 
  go_wp2_with fail
  refine (CS.out w1 _ sn B1.out T1.out (Nat.le_refl _)).mono ?_
  rintro e' w2 ⟨rfl, hb⟩
  clear T1
  have B2 : Hid (Below w.heap.size w w2) := B1.out.trans (hb.mono B1.out.size)
  have q1_2 : w1.heap.size ≤ w2.heap.size := hb.size
  clear B1 hb 
  obtain ⟨w3, hw3⟩ : ∃ W, w2.alloc (.cells #[.int .i64 e, .int .i64 l, .int .i64 t, .int .i64 k, .int .i64 p, .int .i64 n, .int .i64 g, .int .i64 s, .string b, .string a] 28) = W := ⟨_, rfl⟩
  have hb : Below w2.heap.size w2 w3 := by rw [← hw3]; exact (Below.refl _ _).alloc (Nat.le_refl _) _
  have YW3 : Hid (Box w3 w2.heap.size 28 #[.int .i64 e, .int .i64 l, .int .i64 t, .int .i64 k, .int .i64 p, .int .i64 n, .int .i64 g, .int .i64 s, .string b, .string a]) := by have := Box.new w2 #[.int .i64 e, .int .i64 l, .int .i64 t, .int .i64 k, .int .i64 p, .int .i64 n, .int .i64 g, .int .i64 s, .string b, .string a] 28; rwa [hw3] at this
  have B3 : Hid (Below w.heap.size w w3) := B2.out.trans (hb.mono B2.out.size)
  have q2_3 : w2.heap.size ≤ w3.heap.size := hb.size
  clear B2 hb 
  go_wp2_with fail
  refine (TB.out w3 B3.out).mono ?_
  rintro e' w4 ⟨rfl, o4, hb⟩
  have OX4 : Hid (w4.ownsRow w3.heap.size 5 1 (.slice (some ⟨w3.heap.size, 0, none⟩) sn sn) sn (zs.map (Value.int .u8))) := o4
  clear o4
  have B4 : Hid (Below w.heap.size w w4) := B3.out.trans (hb.mono B3.out.size)
  have YW4 : Hid (Box w4 w2.heap.size 28 #[.int .i64 e, .int .i64 l, .int .i64 t, .int .i64 k, .int .i64 p, .int .i64 n, .int .i64 g, .int .i64 s, .string b, .string a]) := YW3.out.belowS hb
  have q3_4 : w3.heap.size ≤ w4.heap.size := hb.size
  clear B3 YW3 hb 
  go_wp2_with fail
  refine (CI.out w4 _ sn B4.out (RdV.own OX4.out) (Nat.le_refl _)).mono ?_
  rintro e' w5 ⟨rfl, hb⟩
  have B5 : Hid (Below w.heap.size w w5) := B4.out.trans (hb.mono B4.out.size)
  have YW5 : Hid (Box w5 w2.heap.size 28 #[.int .i64 e, .int .i64 l, .int .i64 t, .int .i64 k, .int .i64 p, .int .i64 n, .int .i64 g, .int .i64 s, .string b, .string a]) := YW4.out.belowS hb
  have OX5 : Hid (w5.ownsRow w3.heap.size 5 1 (.slice (some ⟨w3.heap.size, 0, none⟩) sn sn) sn (zs.map (Value.int .u8))) := own_below OX4.out hb
  have q4_5 : w4.heap.size ≤ w5.heap.size := hb.size
  clear B4 YW4 OX4 hb 
  obtain ⟨w6, hw6⟩ : ∃ W, w5.alloc (.cells #[.int .i64 e, .int .i64 l, .int .i64 t, .int .i64 k, .int .i64 p, .int .i64 n, .int .i64 g, .int .i64 s, .string b, .string a] 28) = W := ⟨_, rfl⟩
  have hb : Below w5.heap.size w5 w6 := by rw [← hw6]; exact (Below.refl _ _).alloc (Nat.le_refl _) _
  have YG6 : Hid (Box w6 w5.heap.size 28 #[.int .i64 e, .int .i64 l, .int .i64 t, .int .i64 k, .int .i64 p, .int .i64 n, .int .i64 g, .int .i64 s, .string b, .string a]) := by have := Box.new w5 #[.int .i64 e, .int .i64 l, .int .i64 t, .int .i64 k, .int .i64 p, .int .i64 n, .int .i64 g, .int .i64 s, .string b, .string a] 28; rwa [hw6] at this
  have B6 : Hid (Below w.heap.size w w6) := B5.out.trans (hb.mono B5.out.size)
  have YW6 : Hid (Box w6 w2.heap.size 28 #[.int .i64 e, .int .i64 l, .int .i64 t, .int .i64 k, .int .i64 p, .int .i64 n, .int .i64 g, .int .i64 s, .string b, .string a]) := YW5.out.belowS hb
  have OX6 : Hid (w6.ownsRow w3.heap.size 5 1 (.slice (some ⟨w3.heap.size, 0, none⟩) sn sn) sn (zs.map (Value.int .u8))) := own_below OX5.out hb
  have q5_6 : w5.heap.size ≤ w6.heap.size := hb.size
  clear B5 YW5 OX5 hb 
  obtain ⟨v0, v1, v2, v3, v4, v5, v6, v7, v8, v9⟩ := box10 YG6.out
  obtain ⟨u0, u1, u2, u3, u4, u5, u6, u7, u8, u9⟩ := box10 YW6.out
  go_wp2_with fail
  refine (c_eqR e l t k p n g s b a w6).mono ?_
  rintro e' w7 ⟨rfl, hb⟩
  have B7 : Hid (Below w.heap.size w w7) := B6.out.trans (hb.mono B6.out.size)
  have YW7 : Hid (Box w7 w2.heap.size 28 #[.int .i64 e, .int .i64 l, .int .i64 t, .int .i64 k, .int .i64 p, .int .i64 n, .int .i64 g, .int .i64 s, .string b, .string a]) := YW6.out.belowS hb
  have OX7 : Hid (w7.ownsRow w3.heap.size 5 1 (.slice (some ⟨w3.heap.size, 0, none⟩) sn sn) sn (zs.map (Value.int .u8))) := own_below OX6.out hb
  have YG7 : Hid (Box w7 w5.heap.size 28 #[.int .i64 e, .int .i64 l, .int .i64 t, .int .i64 k, .int .i64 p, .int .i64 n, .int .i64 g, .int .i64 s, .string b, .string a]) := YG6.out.belowS hb
  have q6_7 : w6.heap.size ≤ w7.heap.size := hb.size
  clear B6 YW6 OX6 YG6 hb v0 v1 v2 v3 v4 v5 v6 v7 v8 v9 u0 u1 u2 u3 u4 u5 u6 u7 u8 u9
  go_wp2_with fail
  refine (TB.out w7 B7.out).mono ?_
  rintro e' w8 ⟨rfl, o8, hb⟩
  have T8 : Hid (RdV w8 (some ⟨w7.heap.size, 0, none⟩) sn (zs.map (Value.int .u8))) := RdV.own o8
  clear o8
  have B8 : Hid (Below w.heap.size w w8) := B7.out.trans (hb.mono B7.out.size)
  have YW8 : Hid (Box w8 w2.heap.size 28 #[.int .i64 e, .int .i64 l, .int .i64 t, .int .i64 k, .int .i64 p, .int .i64 n, .int .i64 g, .int .i64 s, .string b, .string a]) := YW7.out.belowS hb
  have OX8 : Hid (w8.ownsRow w3.heap.size 5 1 (.slice (some ⟨w3.heap.size, 0, none⟩) sn sn) sn (zs.map (Value.int .u8))) := own_below OX7.out hb
  have YG8 : Hid (Box w8 w5.heap.size 28 #[.int .i64 e, .int .i64 l, .int .i64 t, .int .i64 k, .int .i64 p, .int .i64 n, .int .i64 g, .int .i64 s, .string b, .string a]) := YG7.out.belowS hb
  have q7_8 : w7.heap.size ≤ w8.heap.size := hb.size
  clear B7 YW7 OX7 YG7 hb 
  go_wp2_with fail
  refine (c_eqB (some ⟨w3.heap.size, 0, none⟩) (some ⟨w7.heap.size, 0, none⟩) sn sn sn sn zs zs w8 (RdV.own OX8.out) T8.out hn hn).mono ?_
  rintro e' w9 ⟨rfl, qq, hq⟩
  rw [decide_eq_true (rfl : zs = zs)]
  have hb : Below w8.heap.size w8 w9 := by rw [hq]; exact below_drewN (Below.refl _ _) qq
  clear hq
  have B9 : Hid (Below w.heap.size w w9) := B8.out.trans (hb.mono B8.out.size)
  have YW9 : Hid (Box w9 w2.heap.size 28 #[.int .i64 e, .int .i64 l, .int .i64 t, .int .i64 k, .int .i64 p, .int .i64 n, .int .i64 g, .int .i64 s, .string b, .string a]) := YW8.out.belowS hb
  have OX9 : Hid (w9.ownsRow w3.heap.size 5 1 (.slice (some ⟨w3.heap.size, 0, none⟩) sn sn) sn (zs.map (Value.int .u8))) := own_below OX8.out hb
  have YG9 : Hid (Box w9 w5.heap.size 28 #[.int .i64 e, .int .i64 l, .int .i64 t, .int .i64 k, .int .i64 p, .int .i64 n, .int .i64 g, .int .i64 s, .string b, .string a]) := YG8.out.belowS hb
  have q8_9 : w8.heap.size ≤ w9.heap.size := hb.size
  clear B8 YW8 OX8 YG8 hb 
  go_wp2
  go_ret
  exact ⟨rfl, B9.out⟩

end Go.Proofs.YtbjefhdacfijpaaDoor
