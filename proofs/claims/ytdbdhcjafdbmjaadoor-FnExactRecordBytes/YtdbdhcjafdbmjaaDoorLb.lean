/-
  The walk of the law of RecordBytes.
-/
import Derived.Test.YtdbdhcjafdbmjaaDoorRc
import Derived.Test.YtdbdhcjafdbmjaaDoorSh
namespace Go.Proofs.YtdbdhcjafdbmjaaDoor
open Go Go.RowKit
attribute [local go_sem ↓] Go.wp_at_zero Go.wp_at_succ


set_option maxRecDepth 100000 in
set_option maxHeartbeats 8000000 in
theorem law_FnExactRecordBytes (e l t k p n g s : Int) (b a : ByteArray) (R : List Int) (c : Int) (w : World) (hbs : b.size ≤ maxLen) (has : a.size ≤ maxLen) (fr : R.length ≤ 1048576)
    (cs : b.size ≤ 1048576 ∧ a.size ≤ 1048576 → ∀ (W : World), Below w.heap.size w W → Calls Tryd.prog 12 #[.agg #[.int .i64 e, .int .i64 l, .int .i64 t, .int .i64 k, .int .i64 p, .int .i64 n, .int .i64 g, .int .i64 s, .string b, .string a]] W fun e' w' => (∃ ha hc, e' = .returned (.tuple #[.slice ha R.length hc, .int .i64 c]) ∧ w'.ownsRow W.heap.size 5 1 (.slice ha R.length hc) R.length (R.map (Value.int .u8))) ∧ Below W.heap.size W w')
    (ci : b.size ≤ 1048576 ∧ a.size ≤ 1048576 → ∀ (W : World), Below w.heap.size w W → Calls Tryd.prog 14 #[.agg #[.int .i64 e, .int .i64 l, .int .i64 t, .int .i64 k, .int .i64 p, .int .i64 n, .int .i64 g, .int .i64 s, .string b, .string a]] W fun e' w' => (∃ ha hc, e' = .returned (.tuple #[.slice ha R.length hc, .int .i64 c]) ∧ w'.ownsRow W.heap.size 5 1 (.slice ha R.length hc) R.length (R.map (Value.int .u8))) ∧ Below W.heap.size W w') :
    Calls Tryd.prog 3 #[.agg #[.int .i64 e, .int .i64 l, .int .i64 t, .int .i64 k, .int .i64 p, .int .i64 n, .int .i64 g, .int .i64 s, .string b, .string a]] w fun e' w' => e' = .returned (.bool true) ∧ Below w.heap.size w w' := by
  obtain ⟨w1, hV⟩ : ∃ V, w.alloc (.cells #[.int .i64 e, .int .i64 l, .int .i64 t, .int .i64 k, .int .i64 p, .int .i64 n, .int .i64 g, .int .i64 s, .string b, .string a] 23) = V := ⟨_, rfl⟩
  have B1 : Hid (Below w.heap.size w w1) := by unfold Hid; rw [← hV]; exact (Below.refl _ _).alloc (Nat.le_refl _) _
  have X1 : Hid (Box w1 w.heap.size 23 #[.int .i64 e, .int .i64 l, .int .i64 t, .int .i64 k, .int .i64 p, .int .i64 n, .int .i64 g, .int .i64 s, .string b, .string a]) := by unfold Hid; rw [← hV]; exact Box.new _ _ _
  have SZ : Hid (∀ W, Calls Tryd.prog 11 #[.agg #[.int .i64 e, .int .i64 l, .int .i64 t, .int .i64 k, .int .i64 p, .int .i64 n, .int .i64 g, .int .i64 s, .string b, .string a], .int .i64 1048576] W fun e' w' => (∃ z : Int, e' = .returned (.int .i64 z) ∧ (0 ≤ z → b.size ≤ 1048576 ∧ a.size ≤ 1048576)) ∧ Below W.heap.size W w') := fun W => c_szR e l t k p n g s b a 1048576 W hbs has (by omega) (by omega)
  have TR : Hid (∀ W, Calls Tryd.prog 13 #[.agg #[.int .i64 e, .int .i64 l, .int .i64 t, .int .i64 k, .int .i64 p, .int .i64 n, .int .i64 g, .int .i64 s, .string b, .string a]] W fun e' w' => e' = .returned (.agg #[.int .i64 e, .int .i64 l, .int .i64 t, .int .i64 k, .int .i64 p, .int .i64 n, .int .i64 g, .int .i64 s, .string b, .string a]) ∧ Below W.heap.size W w') := fun W => c_toR e l t k p n g s b a W
  have CI0 : Hid (b.size ≤ 1048576 ∧ a.size ≤ 1048576 → ∀ (W : World), Below w.heap.size w W → Calls Tryd.prog 14 #[.agg #[.int .i64 e, .int .i64 l, .int .i64 t, .int .i64 k, .int .i64 p, .int .i64 n, .int .i64 g, .int .i64 s, .string b, .string a]] W fun e' w' => (∃ ha hc, e' = .returned (.tuple #[.slice ha R.length hc, .int .i64 c]) ∧ w'.ownsRow W.heap.size 5 1 (.slice ha R.length hc) R.length (R.map (Value.int .u8))) ∧ Below W.heap.size W w') := ci
  have CS0 : Hid (b.size ≤ 1048576 ∧ a.size ≤ 1048576 → ∀ (W : World), Below w.heap.size w W → Calls Tryd.prog 12 #[.agg #[.int .i64 e, .int .i64 l, .int .i64 t, .int .i64 k, .int .i64 p, .int .i64 n, .int .i64 g, .int .i64 s, .string b, .string a]] W fun e' w' => (∃ ha hc, e' = .returned (.tuple #[.slice ha R.length hc, .int .i64 c]) ∧ w'.ownsRow W.heap.size 5 1 (.slice ha R.length hc) R.length (R.map (Value.int .u8))) ∧ Below W.heap.size W w') := cs
  have hcc : (c != c) = false := by simp
  clear hbs has cs ci
  obtain ⟨v0, v1, v2, v3, v4, v5, v6, v7, v8, v9⟩ := box10 X1.out
  have q01 : w.heap.size < w1.heap.size := X1.out.lt
  go_enter Tryd.func3, Tryd.ntmps3
  go_wp2_with fail
  refine (SZ.out w1).mono ?_
  rintro e' w2 ⟨⟨z, rfl, hz⟩, hb⟩
  have HZ : Hid (0 ≤ z → b.size ≤ 1048576 ∧ a.size ≤ 1048576) := hz
  clear hz SZ hV
  clear v0 v1 v2 v3 v4 v5 v6 v7 v8 v9
  have B2 : Hid (Below w.heap.size w w2) := B1.out.trans (hb.mono B1.out.size)
  have X2 : Hid (Box w2 w.heap.size 23 #[.int .i64 e, .int .i64 l, .int .i64 t, .int .i64 k, .int .i64 p, .int .i64 n, .int .i64 g, .int .i64 s, .string b, .string a]) := X1.out.belowS hb
  have q1_2 : w1.heap.size ≤ w2.heap.size := hb.size
  clear B1 X1 hb 
  by_cases hz : z < 0
  · go_wp2
    go_ret
    exact ⟨rfl, B2.out⟩
  have CS : Hid (∀ (W : World), Below w.heap.size w W → Calls Tryd.prog 12 #[.agg #[.int .i64 e, .int .i64 l, .int .i64 t, .int .i64 k, .int .i64 p, .int .i64 n, .int .i64 g, .int .i64 s, .string b, .string a]] W fun e' w' => (∃ ha hc, e' = .returned (.tuple #[.slice ha R.length hc, .int .i64 c]) ∧ w'.ownsRow W.heap.size 5 1 (.slice ha R.length hc) R.length (R.map (Value.int .u8))) ∧ Below W.heap.size W w') := CS0.out (HZ.out (by omega))
  have CI : Hid (∀ (W : World), Below w.heap.size w W → Calls Tryd.prog 14 #[.agg #[.int .i64 e, .int .i64 l, .int .i64 t, .int .i64 k, .int .i64 p, .int .i64 n, .int .i64 g, .int .i64 s, .string b, .string a]] W fun e' w' => (∃ ha hc, e' = .returned (.tuple #[.slice ha R.length hc, .int .i64 c]) ∧ w'.ownsRow W.heap.size 5 1 (.slice ha R.length hc) R.length (R.map (Value.int .u8))) ∧ Below W.heap.size W w') := CI0.out (HZ.out (by omega))
  clear HZ CS0 CI0
  obtain ⟨v0, v1, v2, v3, v4, v5, v6, v7, v8, v9⟩ := box10 X2.out
  go_wp2_with fail
  refine (TR.out w2).mono ?_
  rintro e' w3 ⟨rfl, hb⟩
  have B3 : Hid (Below w.heap.size w w3) := B2.out.trans (hb.mono B2.out.size)
  have X3 : Hid (Box w3 w.heap.size 23 #[.int .i64 e, .int .i64 l, .int .i64 t, .int .i64 k, .int .i64 p, .int .i64 n, .int .i64 g, .int .i64 s, .string b, .string a]) := X2.out.belowS hb
  have q2_3 : w2.heap.size ≤ w3.heap.size := hb.size
  clear B2 X2 hb v0 v1 v2 v3 v4 v5 v6 v7 v8 v9
  go_wp2_with fail
  refine (CS.out w3 B3.out).mono ?_
  rintro e w4 ⟨⟨xa, xc, rfl, ow⟩, hb⟩
  have OW4 : Hid (w4.ownsRow w3.heap.size 5 1 (.slice xa R.length xc) R.length (R.map (Value.int .u8))) := ow
  have Gx : Hid (∀ g, (Value.slice xa R.length xc).ownBlock = some g → w3.heap.size ≤ g ∧ g < w4.heap.size) := ow.lt
  clear ow
  have B4 : Hid (Below w.heap.size w w4) := B3.out.trans (hb.mono B3.out.size)
  have X4 : Hid (Box w4 w.heap.size 23 #[.int .i64 e, .int .i64 l, .int .i64 t, .int .i64 k, .int .i64 p, .int .i64 n, .int .i64 g, .int .i64 s, .string b, .string a]) := X3.out.belowS hb
  have q3_4 : w3.heap.size ≤ w4.heap.size := hb.size
  clear B3 X3 hb 
  obtain ⟨v0, v1, v2, v3, v4, v5, v6, v7, v8, v9⟩ := box10 X4.out
  go_wp2_with fail
  refine (TR.out w4).mono ?_
  rintro e' w5 ⟨rfl, hb⟩
  have B5 : Hid (Below w.heap.size w w5) := B4.out.trans (hb.mono B4.out.size)
  have X5 : Hid (Box w5 w.heap.size 23 #[.int .i64 e, .int .i64 l, .int .i64 t, .int .i64 k, .int .i64 p, .int .i64 n, .int .i64 g, .int .i64 s, .string b, .string a]) := X4.out.belowS hb
  have OW5 : Hid (w5.ownsRow w3.heap.size 5 1 (.slice xa R.length xc) R.length (R.map (Value.int .u8))) := own_below OW4.out hb
  have q4_5 : w4.heap.size ≤ w5.heap.size := hb.size
  clear B4 X4 OW4 hb v0 v1 v2 v3 v4 v5 v6 v7 v8 v9
  go_wp2_with fail
  refine (CI.out w5 B5.out).mono ?_
  rintro e w6 ⟨⟨ya, yc, rfl, ow⟩, hb⟩
  have OG6 : Hid (w6.ownsRow w5.heap.size 5 1 (.slice ya R.length yc) R.length (R.map (Value.int .u8))) := ow
  have Gy : Hid (∀ g, (Value.slice ya R.length yc).ownBlock = some g → w5.heap.size ≤ g ∧ g < w6.heap.size) := ow.lt
  clear ow
  have B6 : Hid (Below w.heap.size w w6) := B5.out.trans (hb.mono B5.out.size)
  have X6 : Hid (Box w6 w.heap.size 23 #[.int .i64 e, .int .i64 l, .int .i64 t, .int .i64 k, .int .i64 p, .int .i64 n, .int .i64 g, .int .i64 s, .string b, .string a]) := X5.out.belowS hb
  have OW6 : Hid (w6.ownsRow w3.heap.size 5 1 (.slice xa R.length xc) R.length (R.map (Value.int .u8))) := own_below OW5.out hb
  have q5_6 : w5.heap.size ≤ w6.heap.size := hb.size
  clear B5 X5 OW5 hb 
  go_wp2_with fail
  refine (c_eqB ya xa R.length yc R.length xc R R w6 (RdV.own OG6.out) (RdV.own OW6.out) fr fr).mono ?_
  rintro e w7 ⟨rfl, qq, hq⟩
  rw [decide_eq_true (rfl : R = R)]
  have hb : Below w6.heap.size w6 w7 := by rw [hq]; exact below_drewN (Below.refl _ _) qq
  clear hq
  have B7 : Hid (Below w.heap.size w w7) := B6.out.trans (hb.mono B6.out.size)
  have X7 : Hid (Box w7 w.heap.size 23 #[.int .i64 e, .int .i64 l, .int .i64 t, .int .i64 k, .int .i64 p, .int .i64 n, .int .i64 g, .int .i64 s, .string b, .string a]) := X6.out.belowS hb
  have OW7 : Hid (w7.ownsRow w3.heap.size 5 1 (.slice xa R.length xc) R.length (R.map (Value.int .u8))) := own_below OW6.out hb
  have OG7 : Hid (w7.ownsRow w5.heap.size 5 1 (.slice ya R.length yc) R.length (R.map (Value.int .u8))) := own_below OG6.out hb
  have q6_7 : w6.heap.size ≤ w7.heap.size := hb.size
  clear B6 X6 OW6 OG6 hb 
  go_wp2_with fail
  refine (c_markB w5.heap.size (.slice ya R.length yc) R.length 1 _ w7 OG7.out (by omega) (by omega)).mono ?_
  rintro e w8 ⟨rfl, om, hgr⟩
  have hi : Inn w5.heap.size w6.heap.size w7 w8 := Inn.of_grown hgr (fun g e => Gy.out g e)
  have OM8 : Hid (w8.ownsRow w5.heap.size 5 1 (.slice ya R.length yc) R.length (marksB 1 R.length)) := om
  clear om hgr
  have B8 : Hid (Below w.heap.size w w8) := B7.out.trans (hi.below (by omega) (by omega))
  have X8 : Hid (Box w8 w.heap.size 23 #[.int .i64 e, .int .i64 l, .int .i64 t, .int .i64 k, .int .i64 p, .int .i64 n, .int .i64 g, .int .i64 s, .string b, .string a]) := X7.out.innO hi (by omega)
  have OW8 : Hid (w8.ownsRow w3.heap.size 5 1 (.slice xa R.length xc) R.length (R.map (Value.int .u8))) := own_same OW7.out fun g e => hi.block g (OW7.out.lt g e).2 (by have := Gx.out g e; omega)
  have q7_8 : w7.heap.size ≤ w8.heap.size := hi.size
  clear hi B7 X7 OW7 OG7
  have hmm : (((1 + R.length : Nat) : Int) != ((1 + R.length : Nat) : Int)) = false := by simp
  go_wp2_with fail
  refine (c_heldB ya R.length yc 1 w8 (RdV.own OM8.out) (by omega) (by omega)).mono ?_
  rintro e w9 ⟨rfl, hq⟩
  have hb : Below w8.heap.size w8 w9 := by rw [hq]; exact Below.refl _ _
  clear hq
  have B9 : Hid (Below w.heap.size w w9) := B8.out.trans (hb.mono B8.out.size)
  have X9 : Hid (Box w9 w.heap.size 23 #[.int .i64 e, .int .i64 l, .int .i64 t, .int .i64 k, .int .i64 p, .int .i64 n, .int .i64 g, .int .i64 s, .string b, .string a]) := X8.out.belowS hb
  have OW9 : Hid (w9.ownsRow w3.heap.size 5 1 (.slice xa R.length xc) R.length (R.map (Value.int .u8))) := own_below OW8.out hb
  have OM9 : Hid (w9.ownsRow w5.heap.size 5 1 (.slice ya R.length yc) R.length (marksB 1 R.length)) := own_below OM8.out hb
  have q8_9 : w8.heap.size ≤ w9.heap.size := hb.size
  clear B8 X8 OW8 OM8 hb 
  obtain ⟨v0, v1, v2, v3, v4, v5, v6, v7, v8, v9⟩ := box10 X9.out
  go_wp2_with fail
  refine (TR.out w9).mono ?_
  rintro e' w10 ⟨rfl, hb⟩
  have B10 : Hid (Below w.heap.size w w10) := B9.out.trans (hb.mono B9.out.size)
  have X10 : Hid (Box w10 w.heap.size 23 #[.int .i64 e, .int .i64 l, .int .i64 t, .int .i64 k, .int .i64 p, .int .i64 n, .int .i64 g, .int .i64 s, .string b, .string a]) := X9.out.belowS hb
  have OW10 : Hid (w10.ownsRow w3.heap.size 5 1 (.slice xa R.length xc) R.length (R.map (Value.int .u8))) := own_below OW9.out hb
  have OM10 : Hid (w10.ownsRow w5.heap.size 5 1 (.slice ya R.length yc) R.length (marksB 1 R.length)) := own_below OM9.out hb
  have q9_10 : w9.heap.size ≤ w10.heap.size := hb.size
  clear B9 X9 OW9 OM9 hb v0 v1 v2 v3 v4 v5 v6 v7 v8 v9
  go_wp2_with fail
  refine (CI.out w10 B10.out).mono ?_
  rintro e w11 ⟨⟨za, zc, rfl, ow⟩, hb⟩
  have OZ11 : Hid (w11.ownsRow w10.heap.size 5 1 (.slice za R.length zc) R.length (R.map (Value.int .u8))) := ow
  have Gz : Hid (∀ g, (Value.slice za R.length zc).ownBlock = some g → w10.heap.size ≤ g ∧ g < w11.heap.size) := ow.lt
  clear ow
  have B11 : Hid (Below w.heap.size w w11) := B10.out.trans (hb.mono B10.out.size)
  have X11 : Hid (Box w11 w.heap.size 23 #[.int .i64 e, .int .i64 l, .int .i64 t, .int .i64 k, .int .i64 p, .int .i64 n, .int .i64 g, .int .i64 s, .string b, .string a]) := X10.out.belowS hb
  have OW11 : Hid (w11.ownsRow w3.heap.size 5 1 (.slice xa R.length xc) R.length (R.map (Value.int .u8))) := own_below OW10.out hb
  have OM11 : Hid (w11.ownsRow w5.heap.size 5 1 (.slice ya R.length yc) R.length (marksB 1 R.length)) := own_below OM10.out hb
  have q10_11 : w10.heap.size ≤ w11.heap.size := hb.size
  clear B10 X10 OW10 OM10 hb 
  go_wp2_with fail
  refine (c_eqB za xa R.length zc R.length xc R R w11 (RdV.own OZ11.out) (RdV.own OW11.out) fr fr).mono ?_
  rintro e w12 ⟨rfl, qq, hq⟩
  rw [decide_eq_true (rfl : R = R)]
  have hb : Below w11.heap.size w11 w12 := by rw [hq]; exact below_drewN (Below.refl _ _) qq
  clear hq
  have B12 : Hid (Below w.heap.size w w12) := B11.out.trans (hb.mono B11.out.size)
  have X12 : Hid (Box w12 w.heap.size 23 #[.int .i64 e, .int .i64 l, .int .i64 t, .int .i64 k, .int .i64 p, .int .i64 n, .int .i64 g, .int .i64 s, .string b, .string a]) := X11.out.belowS hb
  have OW12 : Hid (w12.ownsRow w3.heap.size 5 1 (.slice xa R.length xc) R.length (R.map (Value.int .u8))) := own_below OW11.out hb
  have OM12 : Hid (w12.ownsRow w5.heap.size 5 1 (.slice ya R.length yc) R.length (marksB 1 R.length)) := own_below OM11.out hb
  have OZ12 : Hid (w12.ownsRow w10.heap.size 5 1 (.slice za R.length zc) R.length (R.map (Value.int .u8))) := own_below OZ11.out hb
  have q11_12 : w11.heap.size ≤ w12.heap.size := hb.size
  clear B11 X11 OW11 OM11 OZ11 hb 
  go_wp2_with fail
  refine (c_heldB ya R.length yc 1 w12 (RdV.own OM12.out) (by omega) (by omega)).mono ?_
  rintro e w13 ⟨rfl, hq⟩
  have hb : Below w12.heap.size w12 w13 := by rw [hq]; exact Below.refl _ _
  clear hq
  have B13 : Hid (Below w.heap.size w w13) := B12.out.trans (hb.mono B12.out.size)
  have X13 : Hid (Box w13 w.heap.size 23 #[.int .i64 e, .int .i64 l, .int .i64 t, .int .i64 k, .int .i64 p, .int .i64 n, .int .i64 g, .int .i64 s, .string b, .string a]) := X12.out.belowS hb
  have OW13 : Hid (w13.ownsRow w3.heap.size 5 1 (.slice xa R.length xc) R.length (R.map (Value.int .u8))) := own_below OW12.out hb
  have OM13 : Hid (w13.ownsRow w5.heap.size 5 1 (.slice ya R.length yc) R.length (marksB 1 R.length)) := own_below OM12.out hb
  have OZ13 : Hid (w13.ownsRow w10.heap.size 5 1 (.slice za R.length zc) R.length (R.map (Value.int .u8))) := own_below OZ12.out hb
  have q12_13 : w12.heap.size ≤ w13.heap.size := hb.size
  clear B12 X12 OW12 OM12 OZ12 hb 
  go_wp2
  go_ret
  exact ⟨rfl, B13.out⟩

end Go.Proofs.YtdbdhcjafdbmjaaDoor
