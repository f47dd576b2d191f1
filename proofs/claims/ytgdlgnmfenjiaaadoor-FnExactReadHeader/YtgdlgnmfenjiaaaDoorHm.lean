/-
  The walk of the law of ReadHeader.
-/
import Derived.Test.YtgdlgnmfenjiaaaDoorHu
namespace Go.Proofs.YtgdlgnmfenjiaaaDoor
open Go Go.RowKit
attribute [local go_sem ↓] Go.wp_at_zero Go.wp_at_succ


set_option maxRecDepth 100000 in
set_option maxHeartbeats 8000000 in
theorem law_FnExactReadHeader (a : Option Addr) (n cap : Nat) (zs : List Int) (r c : Int) (w : World) (hr : RdV w a n (zs.map (Value.int .u8))) (hm : n ≤ maxLen)
    (cs : n ≤ 1048576 → ∀ (W : World) (a2 : Option Addr) (c2 : Nat), Below w.heap.size w W → RdV W a2 n (zs.map (Value.int .u8)) → n ≤ c2 → Calls Tryd.prog 36 #[.slice a2 n c2] W fun e w' => e = .returned (.tuple #[.int .i64 r, .int .i64 c]) ∧ Below W.heap.size W w')
    (ci : n ≤ 1048576 → ∀ (W : World) (a2 : Option Addr) (c2 : Nat), Below w.heap.size w W → RdV W a2 n (zs.map (Value.int .u8)) → n ≤ c2 → Calls Tryd.prog 37 #[.slice a2 n c2] W fun e w' => e = .returned (.tuple #[.int .i64 r, .int .i64 c]) ∧ Below W.heap.size W w') :
    Calls Tryd.prog 8 #[.slice a n cap] w fun e w' => e = .returned (.bool true) ∧ Below w.heap.size w w' := by
  unfold maxLen at hm
  have HR : Hid (RdV w a n (zs.map (Value.int .u8))) := hr
  clear hr
  by_cases hbig : 1048576 < n
  · go_enter Tryd.func8, Tryd.ntmps8
    go_wp2
    go_ret
    exact ⟨rfl, Below.refl _ _⟩
  have hn : n ≤ 1048576 := by omega
  have CS : Hid (∀ (W : World) (a2 : Option Addr) (c2 : Nat), Below w.heap.size w W → RdV W a2 n (zs.map (Value.int .u8)) → n ≤ c2 → Calls Tryd.prog 36 #[.slice a2 n c2] W fun e w' => e = .returned (.tuple #[.int .i64 r, .int .i64 c]) ∧ Below W.heap.size W w') := cs hn
  have CI : Hid (∀ (W : World) (a2 : Option Addr) (c2 : Nat), Below w.heap.size w W → RdV W a2 n (zs.map (Value.int .u8)) → n ≤ c2 → Calls Tryd.prog 37 #[.slice a2 n c2] W fun e w' => e = .returned (.tuple #[.int .i64 r, .int .i64 c]) ∧ Below W.heap.size W w') := ci hn
  have TB : Hid (∀ W, Below w.heap.size w W → Calls Tryd.prog 23 #[.slice a n cap] W fun e w' => e = .returned (.slice (some ⟨W.heap.size, 0, none⟩) n n) ∧ w'.ownsRow W.heap.size 5 1 (.slice (some ⟨W.heap.size, 0, none⟩) n n) n (zs.map (Value.int .u8)) ∧ Below W.heap.size W w') := fun W hW => c_toB a n cap zs W (HR.out.below hW) hn
  have B0 : Hid (Below w.heap.size w w) := Below.refl _ _
  have hcc : (c != c) = false := by simp
  have hrr : (r != r) = false := by simp
  clear cs ci HR
  go_enter Tryd.func8, Tryd.ntmps8
  go_wp2_with fail
  refine (TB.out w B0.out).mono ?_
  rintro e w1 ⟨rfl, o1, hb⟩
  have T1 : Hid (RdV w1 (some ⟨w.heap.size, 0, none⟩) n (zs.map (Value.int .u8))) := RdV.own o1
  clear o1
  have B1 : Hid (Below w.heap.size w w1) := B0.out.trans (hb.mono B0.out.size)
  have q0_1 : w.heap.size ≤ w1.heap.size := hb.size
  clear B0 hb 
  go_wp2_with fail
  refine (CS.out w1 _ n B1.out T1.out (Nat.le_refl _)).mono ?_
  rintro e w2 ⟨rfl, hb⟩
  clear T1
  have B2 : Hid (Below w.heap.size w w2) := B1.out.trans (hb.mono B1.out.size)
  have q1_2 : w1.heap.size ≤ w2.heap.size := hb.size
  clear B1 hb 
  go_wp2_with fail
  refine (TB.out w2 B2.out).mono ?_
  rintro e w3 ⟨rfl, o3, hb⟩
  have OX3 : Hid (w3.ownsRow w2.heap.size 5 1 (.slice (some ⟨w2.heap.size, 0, none⟩) n n) n (zs.map (Value.int .u8))) := o3
  clear o3
  have B3 : Hid (Below w.heap.size w w3) := B2.out.trans (hb.mono B2.out.size)
  have q2_3 : w2.heap.size ≤ w3.heap.size := hb.size
  clear B2 hb 
  go_wp2_with fail
  refine (CI.out w3 _ n B3.out (RdV.own OX3.out) (Nat.le_refl _)).mono ?_
  rintro e w4 ⟨rfl, hb⟩
  have B4 : Hid (Below w.heap.size w w4) := B3.out.trans (hb.mono B3.out.size)
  have OX4 : Hid (w4.ownsRow w2.heap.size 5 1 (.slice (some ⟨w2.heap.size, 0, none⟩) n n) n (zs.map (Value.int .u8))) := own_below OX3.out hb
  have q3_4 : w3.heap.size ≤ w4.heap.size := hb.size
  clear B3 OX3 hb 
  go_wp2_with fail
  refine (TB.out w4 B4.out).mono ?_
  rintro e w5 ⟨rfl, o5, hb⟩
  have T5 : Hid (RdV w5 (some ⟨w4.heap.size, 0, none⟩) n (zs.map (Value.int .u8))) := RdV.own o5
  clear o5
  have B5 : Hid (Below w.heap.size w w5) := B4.out.trans (hb.mono B4.out.size)
  have OX5 : Hid (w5.ownsRow w2.heap.size 5 1 (.slice (some ⟨w2.heap.size, 0, none⟩) n n) n (zs.map (Value.int .u8))) := own_below OX4.out hb
  have q4_5 : w4.heap.size ≤ w5.heap.size := hb.size
  clear B4 OX4 hb 
  go_wp2_with fail
  refine (c_eqB (some ⟨w2.heap.size, 0, none⟩) (some ⟨w4.heap.size, 0, none⟩) n n n n zs zs w5 (RdV.own OX5.out) T5.out hn hn).mono ?_
  rintro e w6 ⟨rfl, qq, hq⟩
  rw [decide_eq_true (rfl : zs = zs)]
  have hb : Below w5.heap.size w5 w6 := by rw [hq]; exact below_drewN (Below.refl _ _) qq
  clear hq
  have B6 : Hid (Below w.heap.size w w6) := B5.out.trans (hb.mono B5.out.size)
  have OX6 : Hid (w6.ownsRow w2.heap.size 5 1 (.slice (some ⟨w2.heap.size, 0, none⟩) n n) n (zs.map (Value.int .u8))) := own_below OX5.out hb
  have q5_6 : w5.heap.size ≤ w6.heap.size := hb.size
  clear B5 OX5 hb 
  go_wp2
  go_ret
  exact ⟨rfl, B6.out⟩

end Go.Proofs.YtgdlgnmfenjiaaaDoor
