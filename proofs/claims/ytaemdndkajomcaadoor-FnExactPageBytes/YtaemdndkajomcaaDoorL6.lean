/-
  The walk of the law of PageBytes.
-/
import Derived.Test.YtaemdndkajomcaaDoorPv
namespace Go.Proofs.YtaemdndkajomcaaDoor
open Go Go.RowKit
attribute [local go_sem ↓] Go.wp_at_zero Go.wp_at_succ


set_option maxHeartbeats 8000000 in
theorem law_FnExactPageBytes (h : HG) (D : DG) (no : Int) (R : List Int) (c : Int) (w : World) (r : RdG w h D) (m0 : h.n ≤ maxLen) (s0 : ∀ s ∈ D.S, s.size ≤ maxLen)
    (fr : FitG D → (R.length ≤ 1048576 ∧ ∀ z ∈ R, 0 ≤ z ∧ z < 256))
    (cs : FitG D → ∀ (W : World) (h2 : HG), Below w.heap.size w W → RdG W h2 D → SrcG h2 → Calls Tryd.prog 25 #[.int .i64 no, .agg #[.int .i64 h2.l, .slice h2.a h2.n h2.c]] W fun e w' => (∃ ha hc, e = .returned (.tuple #[.slice ha R.length hc, .int .i64 c]) ∧ w'.ownsRow W.heap.size 5 1 (.slice ha R.length hc) R.length (R.map (Value.int .u8))) ∧ Below W.heap.size W w')
    (ci : FitG D → ∀ (W : World) (h2 : HG), Below w.heap.size w W → RdG W h2 D → SrcG h2 → Calls Tryd.prog 24 #[.int .i64 no, .agg #[.int .i64 h2.l, .slice h2.a h2.n h2.c]] W fun e w' => (∃ ha hc, e = .returned (.tuple #[.slice ha R.length hc, .int .i64 c]) ∧ w'.ownsRow W.heap.size 5 1 (.slice ha R.length hc) R.length (R.map (Value.int .u8))) ∧ Below W.heap.size W w') :
    Calls Tryd.prog 6 #[.int .i64 no, .agg #[.int .i64 h.l, .slice h.a h.n h.c]] w fun e w' => e = .returned (.bool true) ∧ Below w.heap.size w w' := by
  have RR : Hid (RdG w h D) := r
  have C : Hid (∀ W, RdG W h D → Calls Tryd.prog 33 #[.agg #[.int .i64 h.l, .slice h.a h.n h.c], .int .i64 1048576] W fun e w' => (∃ z : Int, e = .returned (.int .i64 z) ∧ (0 ≤ z → FitG D)) ∧ Below W.heap.size W w') := fun W hW => c_szPage h D 1048576 W hW m0 s0 (by omega) (by omega)
  have C33 : Hid (FitG D → ∀ W, Below w.heap.size w W → Calls Tryd.prog 34 #[.agg #[.int .i64 h.l, .slice h.a h.n h.c]] W fun e w' => (∃ h' : HG, e = .returned (.agg #[.int .i64 h'.l, .slice h'.a h'.n h'.c]) ∧ OwnG w' W.heap.size w'.heap.size h' D) ∧ Below W.heap.size W w') := fun hf W hW => c_toPage h D W (r.below hW) hf
  have CS0 : Hid (FitG D → ∀ (W : World) (h2 : HG), Below w.heap.size w W → RdG W h2 D → SrcG h2 → Calls Tryd.prog 25 #[.int .i64 no, .agg #[.int .i64 h2.l, .slice h2.a h2.n h2.c]] W fun e w' => (∃ ha hc, e = .returned (.tuple #[.slice ha R.length hc, .int .i64 c]) ∧ w'.ownsRow W.heap.size 5 1 (.slice ha R.length hc) R.length (R.map (Value.int .u8))) ∧ Below W.heap.size W w') := cs
  have CI0 : Hid (FitG D → ∀ (W : World) (h2 : HG), Below w.heap.size w W → RdG W h2 D → SrcG h2 → Calls Tryd.prog 24 #[.int .i64 no, .agg #[.int .i64 h2.l, .slice h2.a h2.n h2.c]] W fun e w' => (∃ ha hc, e = .returned (.tuple #[.slice ha R.length hc, .int .i64 c]) ∧ w'.ownsRow W.heap.size 5 1 (.slice ha R.length hc) R.length (R.map (Value.int .u8))) ∧ Below W.heap.size W w') := ci
  have FR0 : Hid (FitG D → (R.length ≤ 1048576 ∧ ∀ z ∈ R, 0 ≤ z ∧ z < 256)) := fr
  clear r m0 s0 cs ci fr
  obtain ⟨w0, hw0⟩ : ∃ W, w.alloc (.cells #[.int .i64 h.l, .slice h.a h.n h.c] 58) = W := ⟨_, rfl⟩
  have B0 : Hid (Below w.heap.size w w0) := by unfold Hid; rw [← hw0]; exact (Below.refl _ _).alloc (Nat.le_refl _) _
  have X0 : Hid (Box w0 w.heap.size 58 #[.int .i64 h.l, .slice h.a h.n h.c]) := by unfold Hid; rw [← hw0]; exact Box.new _ _ _
  obtain ⟨v0, v1⟩ := box2 X0.out
  go_enter Tryd.func6, Tryd.ntmps6
  go_wp2_with fail
  refine (C.out _ (RR.out.below B0.out)).mono ?_
  rintro e w1 ⟨⟨z, rfl, hz⟩, hb⟩
  have B1 : Hid (Below w.heap.size w w1) := B0.out.trans (hb.mono B0.out.size)
  have X1 : Hid (Box w1 w.heap.size 58 #[.int .i64 h.l, .slice h.a h.n h.c]) := X0.out.belowS hb
  clear hb B0 X0 C v0 v1 hw0
  by_cases hneg : z < 0
  · clear hz
    go_wp2
    go_ret
    exact ⟨rfl, B1.out⟩
  have FD : FitG D := hz (by omega)
  have F : Hid (FitG D) := FD
  have CS : Hid (∀ (W : World) (h2 : HG), Below w.heap.size w W → RdG W h2 D → SrcG h2 → Calls Tryd.prog 25 #[.int .i64 no, .agg #[.int .i64 h2.l, .slice h2.a h2.n h2.c]] W fun e w' => (∃ ha hc, e = .returned (.tuple #[.slice ha R.length hc, .int .i64 c]) ∧ w'.ownsRow W.heap.size 5 1 (.slice ha R.length hc) R.length (R.map (Value.int .u8))) ∧ Below W.heap.size W w') := CS0.out FD
  have CI : Hid (∀ (W : World) (h2 : HG), Below w.heap.size w W → RdG W h2 D → SrcG h2 → Calls Tryd.prog 24 #[.int .i64 no, .agg #[.int .i64 h2.l, .slice h2.a h2.n h2.c]] W fun e w' => (∃ ha hc, e = .returned (.tuple #[.slice ha R.length hc, .int .i64 c]) ∧ w'.ownsRow W.heap.size 5 1 (.slice ha R.length hc) R.length (R.map (Value.int .u8))) ∧ Below W.heap.size W w') := CI0.out FD
  have FR : Hid (R.length ≤ 1048576 ∧ ∀ z ∈ R, 0 ≤ z ∧ z < 256) := FR0.out FD
  clear hz FD CS0 CI0 FR0
  have q01 : w.heap.size < w1.heap.size := X1.out.lt
  obtain ⟨v0, v1⟩ := box2 X1.out
  go_wp2_with fail
  refine (C33.out F.out w1 B1.out).mono ?_
  rintro e w2 ⟨⟨h2, rfl, o2⟩, hb⟩
  have T2 : Hid (RdG w2 h2 D) := o2.rd
  have TH2 : Hid (SrcG h2) := o2.src
  clear o2
  have B2 : Hid (Below w.heap.size w w2) := B1.out.trans (hb.mono B1.out.size)
  have X2 : Hid (Box w2 w.heap.size 58 #[.int .i64 h.l, .slice h.a h.n h.c]) := X1.out.belowS hb
  have q12 : w1.heap.size ≤ w2.heap.size := hb.size
  clear B1 X1 hb v0 v1
  go_wp2_with fail
  refine (CS.out w2 h2 B2.out T2.out TH2.out).mono ?_
  rintro e w3 ⟨⟨wa, wc, rfl, ow⟩, hb⟩
  have OW3 : Hid (w3.ownsRow w2.heap.size 5 1 (.slice wa R.length wc) R.length (R.map (Value.int .u8))) := ow
  have Gw : Hid (∀ g, (Value.slice wa R.length wc).ownBlock = some g → w2.heap.size ≤ g ∧ g < w3.heap.size) := ow.lt
  clear ow
  have B3 : Hid (Below w.heap.size w w3) := B2.out.trans (hb.mono B2.out.size)
  have X3 : Hid (Box w3 w.heap.size 58 #[.int .i64 h.l, .slice h.a h.n h.c]) := X2.out.belowS hb
  have q23 : w2.heap.size ≤ w3.heap.size := hb.size
  clear B2 X2 hb 
  clear T2 TH2
  obtain ⟨v0, v1⟩ := box2 X3.out
  go_wp2_with fail
  refine (C33.out F.out w3 B3.out).mono ?_
  rintro e w4 ⟨⟨hx, rfl, ox⟩, hb⟩
  have OX4 : Hid (OwnG w4 w3.heap.size w4.heap.size hx D) := ox
  have XH : Hid (SrcG hx) := ox.src
  clear ox
  have B4 : Hid (Below w.heap.size w w4) := B3.out.trans (hb.mono B3.out.size)
  have X4 : Hid (Box w4 w.heap.size 58 #[.int .i64 h.l, .slice h.a h.n h.c]) := X3.out.belowS hb
  have OW4 : Hid (w4.ownsRow w2.heap.size 5 1 (.slice wa R.length wc) R.length (R.map (Value.int .u8))) := own_below OW3.out hb
  have q34 : w3.heap.size ≤ w4.heap.size := hb.size
  clear B3 X3 OW3 hb v0 v1
  obtain ⟨w5, hw5⟩ : ∃ W, w4.alloc (.cells #[.int .i64 hx.l, .slice hx.a hx.n hx.c] 41) = W := ⟨_, rfl⟩
  have hb : Below w4.heap.size w4 w5 := by rw [← hw5]; exact (Below.refl _ _).alloc (Nat.le_refl _) _
  have YX5 : Hid (Box w5 w4.heap.size 41 #[.int .i64 hx.l, .slice hx.a hx.n hx.c]) := by have := Box.new w4 #[.int .i64 hx.l, .slice hx.a hx.n hx.c] 41; rwa [hw5] at this
  have B5 : Hid (Below w.heap.size w w5) := B4.out.trans (hb.mono B4.out.size)
  have X5 : Hid (Box w5 w.heap.size 58 #[.int .i64 h.l, .slice h.a h.n h.c]) := X4.out.belowS hb
  have OW5 : Hid (w5.ownsRow w2.heap.size 5 1 (.slice wa R.length wc) R.length (R.map (Value.int .u8))) := own_below OW4.out hb
  have OX5 : Hid (OwnG w5 w3.heap.size w4.heap.size hx D) := OX4.out.below hb
  have q45 : w4.heap.size ≤ w5.heap.size := hb.size
  clear B4 X4 OW4 OX4 hb 
  have p5 : w4.heap.size < w5.heap.size := YX5.out.lt
  obtain ⟨v0, v1⟩ := box2 YX5.out
  go_wp2_with fail
  refine (CI.out w5 hx B5.out OX5.out.rd XH.out).mono ?_
  rintro e w6 ⟨⟨ga, gc, rfl, ow⟩, hb⟩
  have OG6 : Hid (w6.ownsRow w5.heap.size 5 1 (.slice ga R.length gc) R.length (R.map (Value.int .u8))) := ow
  have Gg : Hid (∀ g, (Value.slice ga R.length gc).ownBlock = some g → w5.heap.size ≤ g ∧ g < w6.heap.size) := ow.lt
  clear ow
  have B6 : Hid (Below w.heap.size w w6) := B5.out.trans (hb.mono B5.out.size)
  have X6 : Hid (Box w6 w.heap.size 58 #[.int .i64 h.l, .slice h.a h.n h.c]) := X5.out.belowS hb
  have OW6 : Hid (w6.ownsRow w2.heap.size 5 1 (.slice wa R.length wc) R.length (R.map (Value.int .u8))) := own_below OW5.out hb
  have OX6 : Hid (OwnG w6 w3.heap.size w4.heap.size hx D) := OX5.out.below hb
  have YX6 : Hid (Box w6 w4.heap.size 41 #[.int .i64 hx.l, .slice hx.a hx.n hx.c]) := YX5.out.belowS hb
  have q56 : w5.heap.size ≤ w6.heap.size := hb.size
  clear B5 X5 OW5 OX5 YX5 hb 
  clear v0 v1
  have hcc : (c != c) = false := by simp
  go_wp2_with fail
  refine (c_eqB ga wa R.length gc R.length wc R R w6 (RdV.own OG6.out) (RdV.own OW6.out) FR.out.1 FR.out.1).mono ?_
  rintro e w7 ⟨rfl, qq, hq⟩
  rw [decide_eq_true (rfl : R = R)]
  have hb : Below w6.heap.size w6 w7 := by rw [hq]; exact below_drewN (Below.refl _ _) qq
  clear hq
  have B7 : Hid (Below w.heap.size w w7) := B6.out.trans (hb.mono B6.out.size)
  have X7 : Hid (Box w7 w.heap.size 58 #[.int .i64 h.l, .slice h.a h.n h.c]) := X6.out.belowS hb
  have OW7 : Hid (w7.ownsRow w2.heap.size 5 1 (.slice wa R.length wc) R.length (R.map (Value.int .u8))) := own_below OW6.out hb
  have OX7 : Hid (OwnG w7 w3.heap.size w4.heap.size hx D) := OX6.out.below hb
  have YX7 : Hid (Box w7 w4.heap.size 41 #[.int .i64 hx.l, .slice hx.a hx.n hx.c]) := YX6.out.belowS hb
  have OG7 : Hid (w7.ownsRow w5.heap.size 5 1 (.slice ga R.length gc) R.length (R.map (Value.int .u8))) := own_below OG6.out hb
  have q67 : w6.heap.size ≤ w7.heap.size := hb.size
  clear B6 X6 OW6 OX6 YX6 OG6 hb 
  obtain ⟨v0, v1⟩ := box2 X7.out
  obtain ⟨u0, u1⟩ := box2 YX7.out
  go_wp2_with fail
  go_region_held3 (fun x => x.cell? ⟨w.heap.size, 0, none⟩ = some (.int .i64 h.l) ∧ x.cell? ⟨w.heap.size, 1, none⟩ = some (.slice h.a h.n h.c) ∧ x.cell? ⟨w4.heap.size, 0, none⟩ = some (.int .i64 hx.l) ∧ x.cell? ⟨w4.heap.size, 1, none⟩ = some (.slice hx.a hx.n hx.c))
    (first | exact ⟨far6 hb8 (far6 hb7 v0), far6 hb8 (far6 hb7 v1), far6 hb8 (far6 hb7 u0), far6 hb8 (far6 hb7 u1)⟩ | exact ⟨far6 hb7 v0, far6 hb7 v1, far6 hb7 u0, far6 hb7 u1⟩ | go_keep)
    (first | (go_at_call 34; refine (C33.out F.out _ (below_drewN B7.out _)).mono ?_; rintro e wrg ⟨⟨h7, rfl, o7⟩, hb7⟩)
           | (go_at_call 36; refine (c_eqPage hx h7 D _ ((OX7.out.rd.below (below_drewN (Below.refl _ _) _)).below hb7) o7.rd F.out).mono ?_; rintro e w8 ⟨rfl, hb8⟩))
  have hb : Below w7.heap.size w7 w8 := ((Below.refl w7.heap.size w7).drew.trans hb7).trans (hb8.mono hb7.size)
  clear hb7 hb8 o7 v0 v1 u0 u1
  have B8 : Hid (Below w.heap.size w w8) := B7.out.trans (hb.mono B7.out.size)
  have X8 : Hid (Box w8 w.heap.size 58 #[.int .i64 h.l, .slice h.a h.n h.c]) := X7.out.belowS hb
  have OW8 : Hid (w8.ownsRow w2.heap.size 5 1 (.slice wa R.length wc) R.length (R.map (Value.int .u8))) := own_below OW7.out hb
  have OX8 : Hid (OwnG w8 w3.heap.size w4.heap.size hx D) := OX7.out.below hb
  have YX8 : Hid (Box w8 w4.heap.size 41 #[.int .i64 hx.l, .slice hx.a hx.n hx.c]) := YX7.out.belowS hb
  have OG8 : Hid (w8.ownsRow w5.heap.size 5 1 (.slice ga R.length gc) R.length (R.map (Value.int .u8))) := own_below OG7.out hb
  have q78 : w7.heap.size ≤ w8.heap.size := hb.size
  clear B7 X7 OW7 OX7 YX7 OG7 hb 
  have nx0 := OX8.out.rd.len
  have fd0 := F.out.1
  have fr0 := FR.out.1
  obtain ⟨v0, v1⟩ := box2 YX8.out
  go_wp2_with fail
  refine (c_markPage hx D w3.heap.size w4.heap.size w8 OX8.out (by omega)).mono ?_
  rintro e w9 ⟨rfl, om, hi⟩
  clear om v0 v1
  have B9 : Hid (Below w.heap.size w w9) := B8.out.trans (hi.below (by omega) (by omega))
  have X9 : Hid (Box w9 w.heap.size 58 #[.int .i64 h.l, .slice h.a h.n h.c]) := X8.out.innO hi (by omega)
  have OW9 : Hid (w9.ownsRow w2.heap.size 5 1 (.slice wa R.length wc) R.length (R.map (Value.int .u8))) := own_same OW8.out fun g e => hi.block g (OW8.out.lt g e).2 (by have := Gw.out g e; omega)
  have YX9 : Hid (Box w9 w4.heap.size 41 #[.int .i64 hx.l, .slice hx.a hx.n hx.c]) := YX8.out.innO hi (by omega)
  have OG9 : Hid (w9.ownsRow w5.heap.size 5 1 (.slice ga R.length gc) R.length (R.map (Value.int .u8))) := own_same OG8.out fun g e => hi.block g (OG8.out.lt g e).2 (by have := Gg.out g e; omega)
  have q89 : w8.heap.size ≤ w9.heap.size := hi.size
  clear hi B8 X8 OW8 OX8 YX8 OG8
  go_wp2_with fail
  refine (c_eqB ga wa R.length gc R.length wc R R w9 (RdV.own OG9.out) (RdV.own OW9.out) FR.out.1 FR.out.1).mono ?_
  rintro e w10 ⟨rfl, qq, hq⟩
  rw [decide_eq_true (rfl : R = R)]
  have hb : Below w9.heap.size w9 w10 := by rw [hq]; exact below_drewN (Below.refl _ _) qq
  clear hq
  have B10 : Hid (Below w.heap.size w w10) := B9.out.trans (hb.mono B9.out.size)
  have X10 : Hid (Box w10 w.heap.size 58 #[.int .i64 h.l, .slice h.a h.n h.c]) := X9.out.belowS hb
  have OW10 : Hid (w10.ownsRow w2.heap.size 5 1 (.slice wa R.length wc) R.length (R.map (Value.int .u8))) := own_below OW9.out hb
  have YX10 : Hid (Box w10 w4.heap.size 41 #[.int .i64 hx.l, .slice hx.a hx.n hx.c]) := YX9.out.belowS hb
  have OG10 : Hid (w10.ownsRow w5.heap.size 5 1 (.slice ga R.length gc) R.length (R.map (Value.int .u8))) := own_below OG9.out hb
  have q910 : w9.heap.size ≤ w10.heap.size := hb.size
  clear B9 X9 OW9 YX9 OG9 hb 
  go_wp2_with fail
  refine (c_markB w5.heap.size (.slice ga R.length gc) R.length 1 _ w10 OG10.out (by omega) (by omega)).mono ?_
  rintro e w11 ⟨rfl, om, hgr⟩
  have hi : Inn w5.heap.size w6.heap.size w10 w11 := Inn.of_grown hgr (fun g e => Gg.out g e)
  have OM11 : Hid (w11.ownsRow w5.heap.size 5 1 (.slice ga R.length gc) R.length (marksB 1 R.length)) := om
  clear om hgr
  have B11 : Hid (Below w.heap.size w w11) := B10.out.trans (hi.below (by omega) (by omega))
  have X11 : Hid (Box w11 w.heap.size 58 #[.int .i64 h.l, .slice h.a h.n h.c]) := X10.out.innO hi (by omega)
  have OW11 : Hid (w11.ownsRow w2.heap.size 5 1 (.slice wa R.length wc) R.length (R.map (Value.int .u8))) := own_same OW10.out fun g e => hi.block g (OW10.out.lt g e).2 (by have := Gw.out g e; omega)
  have YX11 : Hid (Box w11 w4.heap.size 41 #[.int .i64 hx.l, .slice hx.a hx.n hx.c]) := YX10.out.innO hi (by omega)
  have q1011 : w10.heap.size ≤ w11.heap.size := hi.size
  clear hi B10 X10 OW10 YX10 OG10
  have hmm : (((1 + R.length : Nat) : Int) != ((1 + R.length : Nat) : Int)) = false := by simp
  go_wp2_with fail
  refine (c_heldB ga R.length gc 1 w11 (RdV.own OM11.out) (by omega) (by omega)).mono ?_
  rintro e w12 ⟨rfl, hq⟩
  have hb : Below w11.heap.size w11 w12 := by rw [hq]; exact Below.refl _ _
  clear hq
  have B12 : Hid (Below w.heap.size w w12) := B11.out.trans (hb.mono B11.out.size)
  have X12 : Hid (Box w12 w.heap.size 58 #[.int .i64 h.l, .slice h.a h.n h.c]) := X11.out.belowS hb
  have OW12 : Hid (w12.ownsRow w2.heap.size 5 1 (.slice wa R.length wc) R.length (R.map (Value.int .u8))) := own_below OW11.out hb
  have YX12 : Hid (Box w12 w4.heap.size 41 #[.int .i64 hx.l, .slice hx.a hx.n hx.c]) := YX11.out.belowS hb
  have OM12 : Hid (w12.ownsRow w5.heap.size 5 1 (.slice ga R.length gc) R.length (marksB 1 R.length)) := own_below OM11.out hb
  have q1112 : w11.heap.size ≤ w12.heap.size := hb.size
  clear B11 X11 OW11 YX11 OM11 hb 
  obtain ⟨v0, v1⟩ := box2 X12.out
  go_wp2_with fail
  refine (C33.out F.out w12 B12.out).mono ?_
  rintro e w13 ⟨⟨hy, rfl, oy⟩, hb⟩
  have TY : Hid (RdG w13 hy D) := oy.rd
  have TYH : Hid (SrcG hy) := oy.src
  clear oy
  have B13 : Hid (Below w.heap.size w w13) := B12.out.trans (hb.mono B12.out.size)
  have X13 : Hid (Box w13 w.heap.size 58 #[.int .i64 h.l, .slice h.a h.n h.c]) := X12.out.belowS hb
  have OW13 : Hid (w13.ownsRow w2.heap.size 5 1 (.slice wa R.length wc) R.length (R.map (Value.int .u8))) := own_below OW12.out hb
  have YX13 : Hid (Box w13 w4.heap.size 41 #[.int .i64 hx.l, .slice hx.a hx.n hx.c]) := YX12.out.belowS hb
  have OM13 : Hid (w13.ownsRow w5.heap.size 5 1 (.slice ga R.length gc) R.length (marksB 1 R.length)) := own_below OM12.out hb
  have q1213 : w12.heap.size ≤ w13.heap.size := hb.size
  clear B12 X12 OW12 YX12 OM12 hb v0 v1
  go_wp2_with fail
  refine (CI.out w13 hy B13.out TY.out TYH.out).mono ?_
  rintro e w14 ⟨⟨za, zc, rfl, ow⟩, hb⟩
  have OZ14 : Hid (w14.ownsRow w13.heap.size 5 1 (.slice za R.length zc) R.length (R.map (Value.int .u8))) := ow
  have Gz : Hid (∀ g, (Value.slice za R.length zc).ownBlock = some g → w13.heap.size ≤ g ∧ g < w14.heap.size) := ow.lt
  clear ow
  have B14 : Hid (Below w.heap.size w w14) := B13.out.trans (hb.mono B13.out.size)
  have X14 : Hid (Box w14 w.heap.size 58 #[.int .i64 h.l, .slice h.a h.n h.c]) := X13.out.belowS hb
  have OW14 : Hid (w14.ownsRow w2.heap.size 5 1 (.slice wa R.length wc) R.length (R.map (Value.int .u8))) := own_below OW13.out hb
  have YX14 : Hid (Box w14 w4.heap.size 41 #[.int .i64 hx.l, .slice hx.a hx.n hx.c]) := YX13.out.belowS hb
  have OM14 : Hid (w14.ownsRow w5.heap.size 5 1 (.slice ga R.length gc) R.length (marksB 1 R.length)) := own_below OM13.out hb
  have q1314 : w13.heap.size ≤ w14.heap.size := hb.size
  clear B13 X13 OW13 YX13 OM13 hb 
  clear TY TYH
  go_wp2_with fail
  refine (c_eqB za wa R.length zc R.length wc R R w14 (RdV.own OZ14.out) (RdV.own OW14.out) FR.out.1 FR.out.1).mono ?_
  rintro e w15 ⟨rfl, qq, hq⟩
  rw [decide_eq_true (rfl : R = R)]
  have hb : Below w14.heap.size w14 w15 := by rw [hq]; exact below_drewN (Below.refl _ _) qq
  clear hq
  have B15 : Hid (Below w.heap.size w w15) := B14.out.trans (hb.mono B14.out.size)
  have X15 : Hid (Box w15 w.heap.size 58 #[.int .i64 h.l, .slice h.a h.n h.c]) := X14.out.belowS hb
  have OW15 : Hid (w15.ownsRow w2.heap.size 5 1 (.slice wa R.length wc) R.length (R.map (Value.int .u8))) := own_below OW14.out hb
  have YX15 : Hid (Box w15 w4.heap.size 41 #[.int .i64 hx.l, .slice hx.a hx.n hx.c]) := YX14.out.belowS hb
  have OM15 : Hid (w15.ownsRow w5.heap.size 5 1 (.slice ga R.length gc) R.length (marksB 1 R.length)) := own_below OM14.out hb
  have OZ15 : Hid (w15.ownsRow w13.heap.size 5 1 (.slice za R.length zc) R.length (R.map (Value.int .u8))) := own_below OZ14.out hb
  have q1415 : w14.heap.size ≤ w15.heap.size := hb.size
  clear B14 X14 OW14 YX14 OM14 OZ14 hb 
  go_wp2_with fail
  refine (c_heldB ga R.length gc 1 w15 (RdV.own OM15.out) (by omega) (by omega)).mono ?_
  rintro e w16 ⟨rfl, hq⟩
  have hb : Below w15.heap.size w15 w16 := by rw [hq]; exact Below.refl _ _
  clear hq
  have B16 : Hid (Below w.heap.size w w16) := B15.out.trans (hb.mono B15.out.size)
  have X16 : Hid (Box w16 w.heap.size 58 #[.int .i64 h.l, .slice h.a h.n h.c]) := X15.out.belowS hb
  have OW16 : Hid (w16.ownsRow w2.heap.size 5 1 (.slice wa R.length wc) R.length (R.map (Value.int .u8))) := own_below OW15.out hb
  have YX16 : Hid (Box w16 w4.heap.size 41 #[.int .i64 hx.l, .slice hx.a hx.n hx.c]) := YX15.out.belowS hb
  have OM16 : Hid (w16.ownsRow w5.heap.size 5 1 (.slice ga R.length gc) R.length (marksB 1 R.length)) := own_below OM15.out hb
  have OZ16 : Hid (w16.ownsRow w13.heap.size 5 1 (.slice za R.length zc) R.length (R.map (Value.int .u8))) := own_below OZ15.out hb
  have q1516 : w15.heap.size ≤ w16.heap.size := hb.size
  clear B15 X15 OW15 YX15 OM15 OZ15 hb 
  go_wp2
  go_ret
  exact ⟨rfl, B16.out⟩
end Go.Proofs.YtaemdndkajomcaaDoor
