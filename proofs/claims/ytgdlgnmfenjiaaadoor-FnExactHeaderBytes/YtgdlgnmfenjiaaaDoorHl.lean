/-
  The walk of the law of HeaderBytes.
-/
import Derived.Test.YtgdlgnmfenjiaaaDoorHs
namespace Go.Proofs.YtgdlgnmfenjiaaaDoor
open Go Go.RowKit
attribute [local go_sem ↓] Go.wp_at_zero Go.wp_at_succ


set_option maxRecDepth 100000 in
set_option maxHeartbeats 8000000 in
theorem law_FnExactHeaderBytes (n : Int) (R : List Int) (c : Int) (w : World) (fr : R.length ≤ 1048576)
    (cs : ∀ (W : World), Below w.heap.size w W → Calls Tryd.prog 34 #[.int .i64 n] W fun e w' => (∃ ha hc, e = .returned (.tuple #[.slice ha R.length hc, .int .i64 c]) ∧ RdV w' ha R.length (R.map (Value.int .u8)) ∧ ∀ x : Addr, ha = some x → x.block < w'.heap.size) ∧ Below W.heap.size W w')
    (ci : ∀ (W : World), Below w.heap.size w W → Calls Tryd.prog 35 #[.int .i64 n] W fun e w' => (∃ ha hc, e = .returned (.tuple #[.slice ha R.length hc, .int .i64 c]) ∧ w'.ownsRow W.heap.size 5 1 (.slice ha R.length hc) R.length (R.map (Value.int .u8))) ∧ Below W.heap.size W w') :
    Calls Tryd.prog 7 #[.int .i64 n] w fun e w' => e = .returned (.bool true) ∧ Below w.heap.size w w' := by
  have CS : Hid (∀ (W : World), Below w.heap.size w W → Calls Tryd.prog 34 #[.int .i64 n] W fun e w' => (∃ ha hc, e = .returned (.tuple #[.slice ha R.length hc, .int .i64 c]) ∧ RdV w' ha R.length (R.map (Value.int .u8)) ∧ ∀ x : Addr, ha = some x → x.block < w'.heap.size) ∧ Below W.heap.size W w') := cs
  have CI : Hid (∀ (W : World), Below w.heap.size w W → Calls Tryd.prog 35 #[.int .i64 n] W fun e w' => (∃ ha hc, e = .returned (.tuple #[.slice ha R.length hc, .int .i64 c]) ∧ w'.ownsRow W.heap.size 5 1 (.slice ha R.length hc) R.length (R.map (Value.int .u8))) ∧ Below W.heap.size W w') := ci
  have B0 : Hid (Below w.heap.size w w) := Below.refl _ _
  have hcc : (c != c) = false := by simp
  clear cs ci
  go_enter Tryd.func7, Tryd.ntmps7
  go_wp2_with fail
  refine (CS.out w B0.out).mono ?_
  rintro e w1 ⟨⟨xa, xc, rfl, ow, gx⟩, hb⟩
  have OW1 : Hid (RdV w1 xa R.length (R.map (Value.int .u8))) := ow
  have Gx : Hid (∀ x : Addr, xa = some x → x.block < w1.heap.size) := gx
  clear ow gx
  have B1 : Hid (Below w.heap.size w w1) := B0.out.trans (hb.mono B0.out.size)
  have q0_1 : w.heap.size ≤ w1.heap.size := hb.size
  clear B0 hb 
  go_wp2_with fail
  refine (CI.out w1 B1.out).mono ?_
  rintro e w2 ⟨⟨ya, yc, rfl, ow⟩, hb⟩
  have OG2 : Hid (w2.ownsRow w1.heap.size 5 1 (.slice ya R.length yc) R.length (R.map (Value.int .u8))) := ow
  have Gy : Hid (∀ g, (Value.slice ya R.length yc).ownBlock = some g → w1.heap.size ≤ g ∧ g < w2.heap.size) := ow.lt
  clear ow
  have B2 : Hid (Below w.heap.size w w2) := B1.out.trans (hb.mono B1.out.size)
  have OW2 : Hid (RdV w2 xa R.length (R.map (Value.int .u8))) := OW1.out.below hb
  have q1_2 : w1.heap.size ≤ w2.heap.size := hb.size
  clear B1 OW1 hb 
  go_wp2_with fail
  refine (c_eqB ya xa R.length yc R.length xc R R w2 (RdV.own OG2.out) OW2.out fr fr).mono ?_
  rintro e w3 ⟨rfl, qq, hq⟩
  rw [decide_eq_true (rfl : R = R)]
  have hb : Below w2.heap.size w2 w3 := by rw [hq]; exact below_drewN (Below.refl _ _) qq
  clear hq
  have B3 : Hid (Below w.heap.size w w3) := B2.out.trans (hb.mono B2.out.size)
  have OW3 : Hid (RdV w3 xa R.length (R.map (Value.int .u8))) := OW2.out.below hb
  have OG3 : Hid (w3.ownsRow w1.heap.size 5 1 (.slice ya R.length yc) R.length (R.map (Value.int .u8))) := own_below OG2.out hb
  have q2_3 : w2.heap.size ≤ w3.heap.size := hb.size
  clear B2 OW2 OG2 hb 
  go_wp2_with fail
  refine (c_markB w1.heap.size (.slice ya R.length yc) R.length 1 _ w3 OG3.out (by omega) (by omega)).mono ?_
  rintro e w4 ⟨rfl, om, hgr⟩
  have hi : Inn w1.heap.size w2.heap.size w3 w4 := Inn.of_grown hgr (fun g e => Gy.out g e)
  have OM4 : Hid (w4.ownsRow w1.heap.size 5 1 (.slice ya R.length yc) R.length (marksB 1 R.length)) := om
  have OW4 : Hid (RdV w4 xa R.length (R.map (Value.int .u8))) := OW3.out.grown hgr (fun x hx he => by have h1 := Gx.out x hx; have h2 := Gy.out x.block he.symm; omega)
  clear om hgr OW3
  have B4 : Hid (Below w.heap.size w w4) := B3.out.trans (hi.below (by omega) (by omega))
  have q3_4 : w3.heap.size ≤ w4.heap.size := hi.size
  clear hi B3 OG3
  have hmm : (((1 + R.length : Nat) : Int) != ((1 + R.length : Nat) : Int)) = false := by simp
  go_wp2_with fail
  refine (c_heldB ya R.length yc 1 w4 (RdV.own OM4.out) (by omega) (by omega)).mono ?_
  rintro e w5 ⟨rfl, hq⟩
  have hb : Below w4.heap.size w4 w5 := by rw [hq]; exact Below.refl _ _
  clear hq
  have B5 : Hid (Below w.heap.size w w5) := B4.out.trans (hb.mono B4.out.size)
  have OW5 : Hid (RdV w5 xa R.length (R.map (Value.int .u8))) := OW4.out.below hb
  have OM5 : Hid (w5.ownsRow w1.heap.size 5 1 (.slice ya R.length yc) R.length (marksB 1 R.length)) := own_below OM4.out hb
  have q4_5 : w4.heap.size ≤ w5.heap.size := hb.size
  clear B4 OW4 OM4 hb 
  go_wp2_with fail
  refine (CI.out w5 B5.out).mono ?_
  rintro e w6 ⟨⟨za, zc, rfl, ow⟩, hb⟩
  have OZ6 : Hid (w6.ownsRow w5.heap.size 5 1 (.slice za R.length zc) R.length (R.map (Value.int .u8))) := ow
  have Gz : Hid (∀ g, (Value.slice za R.length zc).ownBlock = some g → w5.heap.size ≤ g ∧ g < w6.heap.size) := ow.lt
  clear ow
  have B6 : Hid (Below w.heap.size w w6) := B5.out.trans (hb.mono B5.out.size)
  have OW6 : Hid (RdV w6 xa R.length (R.map (Value.int .u8))) := OW5.out.below hb
  have OM6 : Hid (w6.ownsRow w1.heap.size 5 1 (.slice ya R.length yc) R.length (marksB 1 R.length)) := own_below OM5.out hb
  have q5_6 : w5.heap.size ≤ w6.heap.size := hb.size
  clear B5 OW5 OM5 hb 
  go_wp2_with fail
  refine (c_eqB za xa R.length zc R.length xc R R w6 (RdV.own OZ6.out) OW6.out fr fr).mono ?_
  rintro e w7 ⟨rfl, qq, hq⟩
  rw [decide_eq_true (rfl : R = R)]
  have hb : Below w6.heap.size w6 w7 := by rw [hq]; exact below_drewN (Below.refl _ _) qq
  clear hq
  have B7 : Hid (Below w.heap.size w w7) := B6.out.trans (hb.mono B6.out.size)
  have OW7 : Hid (RdV w7 xa R.length (R.map (Value.int .u8))) := OW6.out.below hb
  have OM7 : Hid (w7.ownsRow w1.heap.size 5 1 (.slice ya R.length yc) R.length (marksB 1 R.length)) := own_below OM6.out hb
  have OZ7 : Hid (w7.ownsRow w5.heap.size 5 1 (.slice za R.length zc) R.length (R.map (Value.int .u8))) := own_below OZ6.out hb
  have q6_7 : w6.heap.size ≤ w7.heap.size := hb.size
  clear B6 OW6 OM6 OZ6 hb 
  go_wp2_with fail
  refine (c_heldB ya R.length yc 1 w7 (RdV.own OM7.out) (by omega) (by omega)).mono ?_
  rintro e w8 ⟨rfl, hq⟩
  have hb : Below w7.heap.size w7 w8 := by rw [hq]; exact Below.refl _ _
  clear hq
  have B8 : Hid (Below w.heap.size w w8) := B7.out.trans (hb.mono B7.out.size)
  have OW8 : Hid (RdV w8 xa R.length (R.map (Value.int .u8))) := OW7.out.below hb
  have OM8 : Hid (w8.ownsRow w1.heap.size 5 1 (.slice ya R.length yc) R.length (marksB 1 R.length)) := own_below OM7.out hb
  have OZ8 : Hid (w8.ownsRow w5.heap.size 5 1 (.slice za R.length zc) R.length (R.map (Value.int .u8))) := own_below OZ7.out hb
  have q7_8 : w7.heap.size ≤ w8.heap.size := hb.size
  clear B7 OW7 OM7 OZ7 hb 
  go_wp2
  go_ret
  exact ⟨rfl, B8.out⟩

end Go.Proofs.YtgdlgnmfenjiaaaDoor
