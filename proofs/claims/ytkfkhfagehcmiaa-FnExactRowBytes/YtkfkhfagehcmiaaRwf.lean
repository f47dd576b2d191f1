/-
  The walk of the law of RowBytes.
-/
import Derived.Test.YtkfkhfagehcmiaaRwe
namespace Go.Proofs.Ytkfkhfagehcmiaa
open Go Go.RowKit
attribute [local go_sem ↓] Go.wp_at_zero Go.wp_at_succ

set_option maxRecDepth 100000 in
set_option maxHeartbeats 4000000 in
theorem law_FnExactRowBytes (b i : Int) (u v : VV) (w : World) (h1 : u.2.2.size ≤ maxLen) (h2 : v.2.2.size ≤ maxLen) :
    Calls Try.prog 10 #[.int .i64 b, .agg #[.int .i64 i, .int .i64 u.1, .int .i64 u.2.1, .string u.2.2, .int .i64 v.1, .int .i64 v.2.1, .string v.2.2]] w fun e w' => e = .returned (.bool true) ∧ Below w.heap.size w w' := by
  obtain ⟨V, hV⟩ : ∃ V, w.alloc (.cells #[.int .i64 i, .int .i64 u.1, .int .i64 u.2.1, .string u.2.2, .int .i64 v.1, .int .i64 v.2.1, .string v.2.2] 55) = V := ⟨_, rfl⟩
  have BV : Hid (Below w.heap.size w V) := by unfold Hid; rw [← hV]; exact (Below.refl _ _).alloc (Nat.le_refl _) _
  have XV : Hid (Box V w.heap.size 55 #[.int .i64 i, .int .i64 u.1, .int .i64 u.2.1, .string u.2.2, .int .i64 v.1, .int .i64 v.2.1, .string v.2.2]) := by unfold Hid; rw [← hV]; exact Box.new _ _ _
  obtain ⟨x0, x1, x2, x3, x4, x5, x6⟩ := box7 XV.out
  have H1 : Hid (u.2.2.size ≤ maxLen) := h1
  have H2 : Hid (v.2.2.size ≤ maxLen) := h2
  clear h1 h2
  go_enter Try.func10, Try.ntmps10
  go_wp2_with fail
  refine (c_szRow i u v _ H1.out H2.out).mono ?_
  rintro e w1 ⟨⟨r, rfl, hr⟩, hb⟩
  have HR : Hid (0 ≤ r → u.2.2.size ≤ 1048576 ∧ v.2.2.size ≤ 1048576) := hr
  clear hr hV x0 x1 x2 x3 x4 x5 x6
  have B1 : Hid (Below w.heap.size w w1) := BV.out.trans (hb.mono BV.out.size)
  have X1 : Hid (Box w1 w.heap.size 55 #[.int .i64 i, .int .i64 u.1, .int .i64 u.2.1, .string u.2.2, .int .i64 v.1, .int .i64 v.2.1, .string v.2.2]) := XV.out.belowS hb
  have lw1 : w.heap.size < w1.heap.size := X1.out.lt
  clear hb BV XV
  by_cases hneg : r < 0
  · go_wp2
    go_ret
    exact ⟨rfl, B1.out⟩
  obtain ⟨s1, s2⟩ := HR.out (by omega)
  have HS : Hid (u.2.2.size ≤ 1048576 ∧ v.2.2.size ≤ 1048576) := ⟨s1, s2⟩
  obtain ⟨R, hR⟩ : ∃ R, resB b i u v = R := ⟨_, rfl⟩
  obtain ⟨c, hc⟩ : ∃ c, errB b i u v = c := ⟨_, rfl⟩
  have fr : R.length ≤ 1048576 := by rw [← hR]; exact resB_len b i u v
  have CT : Hid (∀ W : World, Calls Try.prog 39 #[.agg #[.int .i64 i, .int .i64 u.1, .int .i64 u.2.1, .string u.2.2, .int .i64 v.1, .int .i64 v.2.1, .string v.2.2]] W fun e w' => e = .returned (.agg #[.int .i64 i, .int .i64 u.1, .int .i64 u.2.1, .string u.2.2, .int .i64 v.1, .int .i64 v.2.1, .string v.2.2]) ∧ Below W.heap.size W w') := fun W => c_toRow i u v W
  have CS : Hid (∀ W : World, Calls Try.prog 38 #[.int .i64 b, .agg #[.int .i64 i, .int .i64 u.1, .int .i64 u.2.1, .string u.2.2, .int .i64 v.1, .int .i64 v.2.1, .string v.2.2]] W fun e w' => (∃ ha hc, e = .returned (.tuple #[.slice ha R.length hc, .int .i64 c]) ∧ RdV w' ha R.length (R.map (Value.int .u8)) ∧ ∀ x : Addr, ha = some x → x.block < w'.heap.size) ∧ Below W.heap.size W w') := fun W => by
    have := c_specRB b i u v W s1 s2
    rw [hR, hc] at this
    exact this
  have CI : Hid (∀ W : World, Calls Try.prog 40 #[.int .i64 b, .agg #[.int .i64 i, .int .i64 u.1, .int .i64 u.2.1, .string u.2.2, .int .i64 v.1, .int .i64 v.2.1, .string v.2.2]] W fun e w' => (∃ ha hc, e = .returned (.tuple #[.slice ha R.length hc, .int .i64 c]) ∧ w'.ownsRow W.heap.size 5 1 (.slice ha R.length hc) R.length (R.map (Value.int .u8))) ∧ Below W.heap.size W w') := fun W => by
    have := c_implRB b i u v W s1 s2
    unfold AnsB at this
    rw [hR, hc] at this
    exact this
  have hcc : (c != c) = false := by simp
  clear hR hc s1 s2 HR H1 H2
  obtain ⟨x0, x1, x2, x3, x4, x5, x6⟩ := box7 X1.out
  go_wp2_with fail
  refine (CT.out _).mono ?_
  rintro e w2 ⟨rfl, hb⟩
  have B2 : Hid (Below w.heap.size w w2) := B1.out.trans (hb.mono B1.out.size)
  have X2 : Hid (Box w2 w.heap.size 55 #[.int .i64 i, .int .i64 u.1, .int .i64 u.2.1, .string u.2.2, .int .i64 v.1, .int .i64 v.2.1, .string v.2.2]) := X1.out.belowS hb
  have q1_2 : w1.heap.size ≤ w2.heap.size := hb.size
  clear B1 X1 hb x0 x1 x2 x3 x4 x5 x6
  go_wp2_with fail
  refine (CS.out w2).mono ?_
  rintro e w3 ⟨⟨xa, xc, rfl, ow, gx⟩, hb⟩
  have OW3 : Hid (RdV w3 xa R.length (R.map (Value.int .u8))) := ow
  have Gx : Hid (∀ x : Addr, xa = some x → x.block < w3.heap.size) := gx
  clear ow gx
  have B3 : Hid (Below w.heap.size w w3) := B2.out.trans (hb.mono B2.out.size)
  have X3 : Hid (Box w3 w.heap.size 55 #[.int .i64 i, .int .i64 u.1, .int .i64 u.2.1, .string u.2.2, .int .i64 v.1, .int .i64 v.2.1, .string v.2.2]) := X2.out.belowS hb
  have q2_3 : w2.heap.size ≤ w3.heap.size := hb.size
  clear B2 X2 hb 
  obtain ⟨x0, x1, x2, x3, x4, x5, x6⟩ := box7 X3.out
  go_wp2_with fail
  refine (CT.out _).mono ?_
  rintro e w4 ⟨rfl, hb⟩
  have B4 : Hid (Below w.heap.size w w4) := B3.out.trans (hb.mono B3.out.size)
  have X4 : Hid (Box w4 w.heap.size 55 #[.int .i64 i, .int .i64 u.1, .int .i64 u.2.1, .string u.2.2, .int .i64 v.1, .int .i64 v.2.1, .string v.2.2]) := X3.out.belowS hb
  have OW4 : Hid (RdV w4 xa R.length (R.map (Value.int .u8))) := OW3.out.below hb
  have q3_4 : w3.heap.size ≤ w4.heap.size := hb.size
  clear B3 X3 OW3 hb x0 x1 x2 x3 x4 x5 x6
  go_wp2_with fail
  refine (CI.out w4).mono ?_
  rintro e w5 ⟨⟨ya, yc, rfl, ow⟩, hb⟩
  have OG5 : Hid (w5.ownsRow w4.heap.size 5 1 (.slice ya R.length yc) R.length (R.map (Value.int .u8))) := ow
  have Gy : Hid (∀ g, (Value.slice ya R.length yc).ownBlock = some g → w4.heap.size ≤ g ∧ g < w5.heap.size) := ow.lt
  clear ow
  have B5 : Hid (Below w.heap.size w w5) := B4.out.trans (hb.mono B4.out.size)
  have X5 : Hid (Box w5 w.heap.size 55 #[.int .i64 i, .int .i64 u.1, .int .i64 u.2.1, .string u.2.2, .int .i64 v.1, .int .i64 v.2.1, .string v.2.2]) := X4.out.belowS hb
  have OW5 : Hid (RdV w5 xa R.length (R.map (Value.int .u8))) := OW4.out.below hb
  have q4_5 : w4.heap.size ≤ w5.heap.size := hb.size
  clear B4 X4 OW4 hb 
  go_wp2_with fail
  refine (c_eqB ya xa R.length yc R.length xc R R w5 (RdV.own OG5.out) OW5.out fr fr).mono ?_
  rintro e w6 ⟨rfl, qq, hq⟩
  rw [decide_eq_true (rfl : R = R)]
  have hb : Below w5.heap.size w5 w6 := by rw [hq]; exact below_drewN (Below.refl _ _) qq
  clear hq
  have B6 : Hid (Below w.heap.size w w6) := B5.out.trans (hb.mono B5.out.size)
  have X6 : Hid (Box w6 w.heap.size 55 #[.int .i64 i, .int .i64 u.1, .int .i64 u.2.1, .string u.2.2, .int .i64 v.1, .int .i64 v.2.1, .string v.2.2]) := X5.out.belowS hb
  have OW6 : Hid (RdV w6 xa R.length (R.map (Value.int .u8))) := OW5.out.below hb
  have OG6 : Hid (w6.ownsRow w4.heap.size 5 1 (.slice ya R.length yc) R.length (R.map (Value.int .u8))) := own_below OG5.out hb
  have q5_6 : w5.heap.size ≤ w6.heap.size := hb.size
  clear B5 X5 OW5 OG5 hb 
  go_wp2_with fail
  refine (c_markB w4.heap.size (.slice ya R.length yc) R.length 1 _ w6 OG6.out (by omega) (by omega)).mono ?_
  rintro e w7 ⟨rfl, om, hgr⟩
  have hi : Inn w4.heap.size w5.heap.size w6 w7 := Inn.of_grown hgr (fun g e => Gy.out g e)
  have OM7 : Hid (w7.ownsRow w4.heap.size 5 1 (.slice ya R.length yc) R.length (marksB 1 R.length)) := om
  have OW7 : Hid (RdV w7 xa R.length (R.map (Value.int .u8))) := OW6.out.grown hgr (fun x hx he => by have h1 := Gx.out x hx; have h2 := Gy.out x.block he.symm; omega)
  clear om hgr OW6
  have B7 : Hid (Below w.heap.size w w7) := B6.out.trans (hi.below (by omega) (by omega))
  have X7 : Hid (Box w7 w.heap.size 55 #[.int .i64 i, .int .i64 u.1, .int .i64 u.2.1, .string u.2.2, .int .i64 v.1, .int .i64 v.2.1, .string v.2.2]) := X6.out.innO hi (by omega)
  have q6_7 : w6.heap.size ≤ w7.heap.size := hi.size
  clear hi B6 X6 OG6
  have hmm : (((1 + R.length : Nat) : Int) != ((1 + R.length : Nat) : Int)) = false := by simp
  go_wp2_with fail
  refine (c_heldB ya R.length yc 1 w7 (RdV.own OM7.out) (by omega) (by omega)).mono ?_
  rintro e w8 ⟨rfl, hq⟩
  have hb : Below w7.heap.size w7 w8 := by rw [hq]; exact Below.refl _ _
  clear hq
  have B8 : Hid (Below w.heap.size w w8) := B7.out.trans (hb.mono B7.out.size)
  have X8 : Hid (Box w8 w.heap.size 55 #[.int .i64 i, .int .i64 u.1, .int .i64 u.2.1, .string u.2.2, .int .i64 v.1, .int .i64 v.2.1, .string v.2.2]) := X7.out.belowS hb
  have OW8 : Hid (RdV w8 xa R.length (R.map (Value.int .u8))) := OW7.out.below hb
  have OM8 : Hid (w8.ownsRow w4.heap.size 5 1 (.slice ya R.length yc) R.length (marksB 1 R.length)) := own_below OM7.out hb
  have q7_8 : w7.heap.size ≤ w8.heap.size := hb.size
  clear B7 X7 OW7 OM7 hb 
  obtain ⟨x0, x1, x2, x3, x4, x5, x6⟩ := box7 X8.out
  go_wp2_with fail
  refine (CT.out _).mono ?_
  rintro e w9 ⟨rfl, hb⟩
  have B9 : Hid (Below w.heap.size w w9) := B8.out.trans (hb.mono B8.out.size)
  have X9 : Hid (Box w9 w.heap.size 55 #[.int .i64 i, .int .i64 u.1, .int .i64 u.2.1, .string u.2.2, .int .i64 v.1, .int .i64 v.2.1, .string v.2.2]) := X8.out.belowS hb
  have OW9 : Hid (RdV w9 xa R.length (R.map (Value.int .u8))) := OW8.out.below hb
  have OM9 : Hid (w9.ownsRow w4.heap.size 5 1 (.slice ya R.length yc) R.length (marksB 1 R.length)) := own_below OM8.out hb
  have q8_9 : w8.heap.size ≤ w9.heap.size := hb.size
  clear B8 X8 OW8 OM8 hb x0 x1 x2 x3 x4 x5 x6
  go_wp2_with fail
  refine (CI.out w9).mono ?_
  rintro e w10 ⟨⟨za, zc, rfl, ow⟩, hb⟩
  have OZ10 : Hid (w10.ownsRow w9.heap.size 5 1 (.slice za R.length zc) R.length (R.map (Value.int .u8))) := ow
  have Gz : Hid (∀ g, (Value.slice za R.length zc).ownBlock = some g → w9.heap.size ≤ g ∧ g < w10.heap.size) := ow.lt
  clear ow
  have B10 : Hid (Below w.heap.size w w10) := B9.out.trans (hb.mono B9.out.size)
  have X10 : Hid (Box w10 w.heap.size 55 #[.int .i64 i, .int .i64 u.1, .int .i64 u.2.1, .string u.2.2, .int .i64 v.1, .int .i64 v.2.1, .string v.2.2]) := X9.out.belowS hb
  have OW10 : Hid (RdV w10 xa R.length (R.map (Value.int .u8))) := OW9.out.below hb
  have OM10 : Hid (w10.ownsRow w4.heap.size 5 1 (.slice ya R.length yc) R.length (marksB 1 R.length)) := own_below OM9.out hb
  have q9_10 : w9.heap.size ≤ w10.heap.size := hb.size
  clear B9 X9 OW9 OM9 hb 
  go_wp2_with fail
  refine (c_eqB za xa R.length zc R.length xc R R w10 (RdV.own OZ10.out) OW10.out fr fr).mono ?_
  rintro e w11 ⟨rfl, qq, hq⟩
  rw [decide_eq_true (rfl : R = R)]
  have hb : Below w10.heap.size w10 w11 := by rw [hq]; exact below_drewN (Below.refl _ _) qq
  clear hq
  have B11 : Hid (Below w.heap.size w w11) := B10.out.trans (hb.mono B10.out.size)
  have X11 : Hid (Box w11 w.heap.size 55 #[.int .i64 i, .int .i64 u.1, .int .i64 u.2.1, .string u.2.2, .int .i64 v.1, .int .i64 v.2.1, .string v.2.2]) := X10.out.belowS hb
  have OW11 : Hid (RdV w11 xa R.length (R.map (Value.int .u8))) := OW10.out.below hb
  have OM11 : Hid (w11.ownsRow w4.heap.size 5 1 (.slice ya R.length yc) R.length (marksB 1 R.length)) := own_below OM10.out hb
  have OZ11 : Hid (w11.ownsRow w9.heap.size 5 1 (.slice za R.length zc) R.length (R.map (Value.int .u8))) := own_below OZ10.out hb
  have q10_11 : w10.heap.size ≤ w11.heap.size := hb.size
  clear B10 X10 OW10 OM10 OZ10 hb 
  go_wp2_with fail
  refine (c_heldB ya R.length yc 1 w11 (RdV.own OM11.out) (by omega) (by omega)).mono ?_
  rintro e w12 ⟨rfl, hq⟩
  have hb : Below w11.heap.size w11 w12 := by rw [hq]; exact Below.refl _ _
  clear hq
  have B12 : Hid (Below w.heap.size w w12) := B11.out.trans (hb.mono B11.out.size)
  have X12 : Hid (Box w12 w.heap.size 55 #[.int .i64 i, .int .i64 u.1, .int .i64 u.2.1, .string u.2.2, .int .i64 v.1, .int .i64 v.2.1, .string v.2.2]) := X11.out.belowS hb
  have OW12 : Hid (RdV w12 xa R.length (R.map (Value.int .u8))) := OW11.out.below hb
  have OM12 : Hid (w12.ownsRow w4.heap.size 5 1 (.slice ya R.length yc) R.length (marksB 1 R.length)) := own_below OM11.out hb
  have OZ12 : Hid (w12.ownsRow w9.heap.size 5 1 (.slice za R.length zc) R.length (R.map (Value.int .u8))) := own_below OZ11.out hb
  have q11_12 : w11.heap.size ≤ w12.heap.size := hb.size
  clear B11 X11 OW11 OM11 OZ11 hb 
  go_wp2
  go_ret
  exact ⟨rfl, B12.out⟩

end Go.Proofs.Ytkfkhfagehcmiaa
