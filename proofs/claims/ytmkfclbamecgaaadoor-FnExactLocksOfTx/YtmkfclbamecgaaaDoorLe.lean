/-
  The walk of the law of LocksOfTx.
-/
import Derived.Test.YtmkfclbamecgaaaDoorLl
import Derived.Test.YtmkfclbamecgaaaDoorLj
import Derived.Deep.RegionHeld3
namespace Go.Proofs.YtmkfclbamecgaaaDoor
open Go Go.RowKit
attribute [local go_sem ↓] Go.wp_at_zero Go.wp_at_succ

set_option maxRecDepth 100000 in
set_option maxHeartbeats 8000000 in
theorem law_FnExactLocksOfTx (h : HL) (vs : List LK) (ws : List WK) (x : Int) (RL : List LK) (RC : Int) (w : World) (r0 : RdL w h vs ws) (m0 : vs.length ≤ maxLen) (m1 : ws.length ≤ maxLen) (fr : RL.length ≤ vs.length)
    (cs : vs.length ≤ 1048576 → ws.length ≤ 1048576 → ∀ (W : World) (h : HL), Below w.heap.size w W → RdL W h vs ws → Calls Tryd.prog 22 #[.agg #[.slice h.a0 vs.length h.c0, .slice h.a1 ws.length h.c1], .int .i64 x] W fun e w' => (∃ ha hc, e = .returned (.tuple #[.slice ha RL.length hc, .int .i64 RC]) ∧ w'.ownsRow W.heap.size 55 4 (.slice ha RL.length hc) RL.length (cellsK RL) ∧ ∀ b, ob ha = some b → W.heap.size ≤ b) ∧ Below W.heap.size W w')
    (ci : vs.length ≤ 1048576 → ws.length ≤ 1048576 → ∀ (W : World) (h : HL), Below w.heap.size w W → RdL W h vs ws → Calls Tryd.prog 23 #[.agg #[.slice h.a0 vs.length h.c0, .slice h.a1 ws.length h.c1], .int .i64 x] W fun e w' => (∃ ha hc, e = .returned (.tuple #[.slice ha RL.length hc, .int .i64 RC]) ∧ w'.ownsRow W.heap.size 55 4 (.slice ha RL.length hc) RL.length (cellsK RL) ∧ ∀ b, ob ha = some b → W.heap.size ≤ b) ∧ Below W.heap.size W w') :
    Calls Tryd.prog 6 #[.agg #[.slice h.a0 vs.length h.c0, .slice h.a1 ws.length h.c1], .int .i64 x] w fun e w' => e = .returned (.bool true) ∧ Below w.heap.size w w' := by
  have R : Hid (RdL w h vs ws) := r0
  have CS0 : Hid (vs.length ≤ 1048576 → ws.length ≤ 1048576 → ∀ (W : World) (h : HL), Below w.heap.size w W → RdL W h vs ws → Calls Tryd.prog 22 #[.agg #[.slice h.a0 vs.length h.c0, .slice h.a1 ws.length h.c1], .int .i64 x] W fun e w' => (∃ ha hc, e = .returned (.tuple #[.slice ha RL.length hc, .int .i64 RC]) ∧ w'.ownsRow W.heap.size 55 4 (.slice ha RL.length hc) RL.length (cellsK RL) ∧ ∀ b, ob ha = some b → W.heap.size ≤ b) ∧ Below W.heap.size W w') := cs
  have CI0 : Hid (vs.length ≤ 1048576 → ws.length ≤ 1048576 → ∀ (W : World) (h : HL), Below w.heap.size w W → RdL W h vs ws → Calls Tryd.prog 23 #[.agg #[.slice h.a0 vs.length h.c0, .slice h.a1 ws.length h.c1], .int .i64 x] W fun e w' => (∃ ha hc, e = .returned (.tuple #[.slice ha RL.length hc, .int .i64 RC]) ∧ w'.ownsRow W.heap.size 55 4 (.slice ha RL.length hc) RL.length (cellsK RL) ∧ ∀ b, ob ha = some b → W.heap.size ≤ b) ∧ Below W.heap.size W w') := ci
  obtain ⟨V, hV⟩ : ∃ V, w.alloc (.cells #[.slice h.a0 vs.length h.c0, .slice h.a1 ws.length h.c1] 28) = V := ⟨_, rfl⟩
  have B : Hid (Below w.heap.size w V) := by unfold Hid; rw [← hV]; exact (Below.refl _ _).alloc (Nat.le_refl _) _
  have X : Hid (Box V w.heap.size 28 #[.slice h.a0 vs.length h.c0, .slice h.a1 ws.length h.c1]) := by unfold Hid; rw [← hV]; exact Box.new _ _ _
  have C := c_szL h vs ws V m0 m1
  clear r0 m0 m1 cs ci
  obtain ⟨x0, x1⟩ := box2 X.out
  go_enter Tryd.func6, Tryd.ntmps6
  go_wp2_with fail
  refine C.mono ?_
  rintro e w1 ⟨⟨z, rfl, hz⟩, hb⟩
  have B1 : Hid (Below w.heap.size w w1) := B.out.trans (hb.mono B.out.size)
  have X1 : Hid (Box w1 w.heap.size 28 #[.slice h.a0 vs.length h.c0, .slice h.a1 ws.length h.c1]) := X.out.belowS hb
  clear hb B X x0 x1 hV
  by_cases hneg : z < 0
  · clear hz
    go_wp2
    go_ret
    exact ⟨rfl, B1.out⟩
  obtain ⟨f0, f1⟩ := hz (by omega)
  have fr1 : RL.length ≤ 1048576 := by omega
  obtain ⟨x0, x1⟩ := box2 X1.out
  have TO : Hid (∀ W, Below w.heap.size w W → Calls Tryd.prog 17 #[.agg #[.slice h.a0 vs.length h.c0, .slice h.a1 ws.length h.c1]] W fun e w' => (∃ h' : HL, e = .returned (.agg #[.slice h'.a0 vs.length h'.c0, .slice h'.a1 ws.length h'.c1]) ∧ OwnL w' W.heap.size h' vs ws) ∧ Below W.heap.size W w') := fun W hW => c_toL h vs ws W (R.out.below hW) f0 f1
  have hneC : (RC != RC) = false := by simp
  go_wp2_with fail
  refine (TO.out w1 B1.out).mono ?_
  rintro e w2 ⟨⟨h2, rfl, o2⟩, hb⟩
  have B2 : Hid (Below w.heap.size w w2) := B1.out.trans (hb.mono B1.out.size)
  have X2 : Hid (Box w2 w.heap.size 28 #[.slice h.a0 vs.length h.c0, .slice h.a1 ws.length h.c1]) := X1.out.belowS hb
  have O2 : Hid (RdL w2 h2 vs ws) := o2.rd
  clear hb o2 X1 B1 x0 x1
  go_wp2_with fail
  refine (CS0.out f0 f1 w2 h2 B2.out O2.out).mono ?_
  rintro e w3 ⟨⟨wa, wc, rfl, ow, lw⟩, hb⟩
  have B3 : Hid (Below w.heap.size w w3) := B2.out.trans (hb.mono B2.out.size)
  have X3 : Hid (Box w3 w.heap.size 28 #[.slice h.a0 vs.length h.c0, .slice h.a1 ws.length h.c1]) := X2.out.belowS hb
  have W3 : Hid (w3.ownsRow w2.heap.size 55 4 (.slice wa RL.length wc) RL.length (cellsK RL)) := ow
  clear hb O2 X2 B2 ow lw
  obtain ⟨x0, x1⟩ := box2 X3.out
  go_wp2_with fail
  refine (TO.out w3 B3.out).mono ?_
  rintro e w4 ⟨⟨h4, rfl, o4⟩, hb⟩
  obtain ⟨w5, hw5⟩ : ∃ W, w4.alloc (.cells #[.slice h4.a0 vs.length h4.c0, .slice h4.a1 ws.length h4.c1] 34) = W := ⟨_, rfl⟩
  have hb5 : Below w4.heap.size w4 w5 := by rw [← hw5]; exact (Below.refl _ _).alloc (Nat.le_refl _) _
  have B5 : Hid (Below w.heap.size w w5) := (B3.out.trans (hb.mono B3.out.size)).trans (hb5.mono (Nat.le_trans B3.out.size hb.size))
  have X5 : Hid (Box w5 w.heap.size 28 #[.slice h.a0 vs.length h.c0, .slice h.a1 ws.length h.c1]) := (X3.out.belowS hb).belowS hb5
  have Y5 : Hid (Box w5 w4.heap.size 34 #[.slice h4.a0 vs.length h4.c0, .slice h4.a1 ws.length h4.c1]) := by unfold Hid; rw [← hw5]; exact Box.new _ _ _
  have O5 : Hid (OwnL w5 w3.heap.size h4 vs ws) := o4.below hb5
  have W5 : Hid (w5.ownsRow w2.heap.size 55 4 (.slice wa RL.length wc) RL.length (cellsK RL)) := own_below (own_below W3.out hb) hb5
  have lwa : Hid (∀ b, ob wa = some b → b < w3.heap.size) := fun b hb' => by obtain ⟨a', c', e', hh⟩ := own_slc W3.out; cases e'; exact (hh b hb').2
  have l4a : Hid (∀ b, ob h4.a0 = some b → w3.heap.size ≤ b ∧ b < w4.heap.size) := fun b hb' => by obtain ⟨a', c', e', hh⟩ := own_slc o4.1; cases e'; exact hh b hb'
  have l4b : Hid (∀ b, ob h4.a1 = some b → w3.heap.size ≤ b ∧ b < w4.heap.size) := fun b hb' => by obtain ⟨a', c', e', hh⟩ := own_slc o4.2.1; cases e'; exact hh b hb'
  have s35 : w3.heap.size ≤ w4.heap.size := hb.size
  have lx5 : w.heap.size < w3.heap.size := X3.out.lt
  have ly5 : w4.heap.size < w5.heap.size := Y5.out.lt
  clear hb hb5 o4 X3 B3 x0 x1 W3
  obtain ⟨y0, y1⟩ := box2 Y5.out
  go_wp2_with fail
  refine (CI0.out f0 f1 w5 h4 B5.out O5.out.rd).mono ?_
  rintro e w6 ⟨⟨ga, gc, rfl, og, lg⟩, hb⟩
  have B6 : Hid (Below w.heap.size w w6) := B5.out.trans (hb.mono B5.out.size)
  have X6 : Hid (Box w6 w.heap.size 28 #[.slice h.a0 vs.length h.c0, .slice h.a1 ws.length h.c1]) := X5.out.belowS hb
  have Y6 : Hid (Box w6 w4.heap.size 34 #[.slice h4.a0 vs.length h4.c0, .slice h4.a1 ws.length h4.c1]) := Y5.out.belowS hb
  have O6 : Hid (OwnL w6 w3.heap.size h4 vs ws) := O5.out.below hb
  have W6 : Hid (w6.ownsRow w2.heap.size 55 4 (.slice wa RL.length wc) RL.length (cellsK RL)) := own_below W5.out hb
  have G6 : Hid (w6.ownsRow w5.heap.size 55 4 (.slice ga RL.length gc) RL.length (cellsK RL)) := og
  have lga : Hid (∀ b, ob ga = some b → w5.heap.size ≤ b) := lg
  have s56 : w5.heap.size ≤ w6.heap.size := hb.size
  clear hb O5 X5 Y5 B5 W5 y0 y1 hw5 og lg
  go_wp2_with fail
  refine (c_eqK ga wa RL.length gc wc RL w6 (RdK.own G6.out) (RdK.own W6.out) fr1).mono ?_
  rintro e w7 ⟨rfl, hb⟩
  have B7 : Hid (Below w.heap.size w w7) := B6.out.trans (hb.mono B6.out.size)
  have X7 : Hid (Box w7 w.heap.size 28 #[.slice h.a0 vs.length h.c0, .slice h.a1 ws.length h.c1]) := X6.out.belowS hb
  have Y7 : Hid (Box w7 w4.heap.size 34 #[.slice h4.a0 vs.length h4.c0, .slice h4.a1 ws.length h4.c1]) := Y6.out.belowS hb
  have O7 : Hid (OwnL w7 w3.heap.size h4 vs ws) := O6.out.below hb
  have W7 : Hid (w7.ownsRow w2.heap.size 55 4 (.slice wa RL.length wc) RL.length (cellsK RL)) := own_below W6.out hb
  have G7 : Hid (w7.ownsRow w5.heap.size 55 4 (.slice ga RL.length gc) RL.length (cellsK RL)) := own_below G6.out hb
  have s67 : w6.heap.size ≤ w7.heap.size := hb.size
  clear hb O6 X6 Y6 B6 W6 G6
  obtain ⟨x0, x1⟩ := box2 X7.out
  obtain ⟨y0, y1⟩ := box2 Y7.out
  go_upto_region 10 with fail
  go_cut [49] (fun s wx => s = .bool false ∧ Hid (Below w7.heap.size w7 wx))
  case first =>
    go_region_held3 (fun x => x.cell? ⟨w.heap.size, 0, none⟩ = some (.slice h.a0 vs.length h.c0) ∧ x.cell? ⟨w.heap.size, 1, none⟩ = some (.slice h.a1 ws.length h.c1) ∧ x.cell? ⟨w4.heap.size, 0, none⟩ = some (.slice h4.a0 vs.length h4.c0) ∧ x.cell? ⟨w4.heap.size, 1, none⟩ = some (.slice h4.a1 ws.length h4.c1))
      (first | go_keep | exact ⟨far6 hb8 x0, far6 hb8 x1, far6 hb8 y0, far6 hb8 y1⟩ | exact ⟨far6 hb9 (far6 hb8 x0), far6 hb9 (far6 hb8 x1), far6 hb9 (far6 hb8 y0), far6 hb9 (far6 hb8 y1)⟩)
      (first | (go_at_call 17; refine (TO.out _ (below_drewN B7.out _)).mono ?_; rintro e w8 ⟨⟨h8, rfl, o8⟩, hb8⟩)
             | (go_at_call 19; refine (c_eqL h4 h8 vs ws _ ((O7.out.rd.below (below_drewN (Below.refl _ _) _)).below hb8) o8.rd f0 f1).mono ?_; rintro e w9 ⟨rfl, hb9⟩))
    all_goals (go_wp2_with fail; go_meet)
    all_goals exact ⟨rfl, ((below_drewN (Below.refl _ _) _).trans hb8).trans (hb9.mono hb8.size)⟩
  case rest =>
    rename World => wx
    obtain ⟨rfl, HBx⟩ := hcut
    have hb := HBx.out
    have Bx : Hid (Below w.heap.size w wx) := B7.out.trans (hb.mono B7.out.size)
    have Xx : Hid (Box wx w.heap.size 28 #[.slice h.a0 vs.length h.c0, .slice h.a1 ws.length h.c1]) := X7.out.belowS hb
    have Yx : Hid (Box wx w4.heap.size 34 #[.slice h4.a0 vs.length h4.c0, .slice h4.a1 ws.length h4.c1]) := Y7.out.belowS hb
    have Ox : Hid (OwnL wx w3.heap.size h4 vs ws) := O7.out.below hb
    have Wx : Hid (wx.ownsRow w2.heap.size 55 4 (.slice wa RL.length wc) RL.length (cellsK RL)) := own_below W7.out hb
    have Gx : Hid (wx.ownsRow w5.heap.size 55 4 (.slice ga RL.length gc) RL.length (cellsK RL)) := own_below G7.out hb
    have s7x : w7.heap.size ≤ wx.heap.size := hb.size
    clear hb HBx O7 X7 Y7 B7 W7 G7 x0 x1 y0 y1
    obtain ⟨y0, y1⟩ := box2 Yx.out
    go_wp2_with fail
    refine (c_markL w3.heap.size h4 vs ws wx Ox.out f0 f1).mono ?_
    rintro e wy ⟨⟨z1, rfl, hz1⟩, hk⟩
    have hz1' : ¬ z1 < 0 := by omega
    have By : Hid (Below w.heap.size w wy) := Bx.out.trans (hk.below Bx.out.size (fun b e => by have := l4a.out b e; omega) (fun b e => by have := l4b.out b e; omega))
    have Xy : Hid (Box wy w.heap.size 28 #[.slice h.a0 vs.length h.c0, .slice h.a1 ws.length h.c1]) := hk.box Xx.out (fun e => by have := l4a.out _ e; omega) (fun e => by have := l4b.out _ e; omega)
    have Wy : Hid (wy.ownsRow w2.heap.size 55 4 (.slice wa RL.length wc) RL.length (cellsK RL)) := hk.own Wx.out (fun b e1 e2 => by have := lwa.out b e1; have := l4a.out b e2; omega) (fun b e1 e2 => by have := lwa.out b e1; have := l4b.out b e2; omega)
    have Gy : Hid (wy.ownsRow w5.heap.size 55 4 (.slice ga RL.length gc) RL.length (cellsK RL)) := hk.own Gx.out (fun b e1 e2 => by have := lga.out b e1; have := l4a.out b e2; omega) (fun b e1 e2 => by have := lga.out b e1; have := l4b.out b e2; omega)
    have sxy : wx.heap.size ≤ wy.heap.size := hk.2.2.2.1
    clear hk y0 y1 Bx Xx Yx Ox Wx Gx hz1
    go_wp2_with fail
    refine (c_eqK ga wa RL.length gc wc RL wy (RdK.own Gy.out) (RdK.own Wy.out) fr1).mono ?_
    rintro e wz ⟨rfl, hb⟩
    have Bz : Hid (Below w.heap.size w wz) := By.out.trans (hb.mono By.out.size)
    have Xz : Hid (Box wz w.heap.size 28 #[.slice h.a0 vs.length h.c0, .slice h.a1 ws.length h.c1]) := Xy.out.belowS hb
    have Wz : Hid (wz.ownsRow w2.heap.size 55 4 (.slice wa RL.length wc) RL.length (cellsK RL)) := own_below Wy.out hb
    have Gz : Hid (wz.ownsRow w5.heap.size 55 4 (.slice ga RL.length gc) RL.length (cellsK RL)) := own_below Gy.out hb
    have syz : wy.heap.size ≤ wz.heap.size := hb.size
    have lwz : Hid (∀ b, ob wa = some b → b < w5.heap.size) := fun b e => by have := lwa.out b e; omega
    clear hb By Xy Wy Gy
    have CM := c_markK w5.heap.size (.slice ga RL.length gc) RL.length 1 RL wz Gz.out (by omega) fr1 (by omega)
    go_wp2_with fail
    refine CM.mono ?_
    rintro e w10 ⟨rfl, o10, hg⟩
    rw [ob_slice] at hg
    have B10 : Hid (Below w.heap.size w w10) := Bz.out.grown hg Bz.out.size (fun k e => by have := lga.out k e; omega)
    have X10 : Hid (Box w10 w.heap.size 28 #[.slice h.a0 vs.length h.c0, .slice h.a1 ws.length h.c1]) := Xz.out.grown hg (fun e => by have := lga.out _ e; omega)
    have W10 : Hid (w10.ownsRow w2.heap.size 55 4 (.slice wa RL.length wc) RL.length (cellsK RL)) := own_same Wz.out (fun g eg => by rw [ob_slice] at eg; exact hg.block g (by have := lwz.out g eg; omega) (fun e => by have := lwz.out g eg; have := lga.out g e.symm; omega))
    have G10 : Hid (w10.ownsRow w5.heap.size 55 4 (.slice ga RL.length gc) RL.length (cellsK (marksK 1 RL.length))) := o10
    have sz10 : wz.heap.size ≤ w10.heap.size := hg.size
    clear hg o10 Bz Xz Wz Gz
    have HH := c_heldK ga RL.length gc 1 w10 (RdK.own G10.out) (by omega) fr1 (by omega)
    have cz : (((1 + RL.length * 4 : Nat) : Nat) : Int) = 1 + (RL.length : Int) * 4 := by omega
    rw [cz] at HH
    have nz : ¬ (1 + (RL.length : Int) * 4) < 0 := by omega
    have nq : ((1 + (RL.length : Int) * 4) != (1 + (RL.length : Int) * 4)) = false := by simp
    go_wp2_with fail
    refine HH.mono ?_
    rintro e wq ⟨rfl, hwq⟩; rw [hwq]; clear hwq
    obtain ⟨x0, x1⟩ := box2 X10.out
    go_wp2_with fail
    refine (TO.out w10 B10.out).mono ?_
    rintro e w11 ⟨⟨h11, rfl, o11⟩, hb⟩
    have B11 : Hid (Below w.heap.size w w11) := B10.out.trans (hb.mono B10.out.size)
    have W11 : Hid (w11.ownsRow w2.heap.size 55 4 (.slice wa RL.length wc) RL.length (cellsK RL)) := own_below W10.out hb
    have G11 : Hid (w11.ownsRow w5.heap.size 55 4 (.slice ga RL.length gc) RL.length (cellsK (marksK 1 RL.length))) := own_below G10.out hb
    have O11 : Hid (RdL w11 h11 vs ws) := o11.rd
    clear hb o11 x0 x1 B10 X10 W10 G10 HH
    go_wp2_with fail
    refine (CI0.out f0 f1 w11 h11 B11.out O11.out).mono ?_
    rintro e w12 ⟨⟨ka, kc, rfl, ok, lk⟩, hb⟩
    have B12 : Hid (Below w.heap.size w w12) := B11.out.trans (hb.mono B11.out.size)
    have W12 : Hid (w12.ownsRow w2.heap.size 55 4 (.slice wa RL.length wc) RL.length (cellsK RL)) := own_below W11.out hb
    have G12 : Hid (w12.ownsRow w5.heap.size 55 4 (.slice ga RL.length gc) RL.length (cellsK (marksK 1 RL.length))) := own_below G11.out hb
    have K12 : Hid (RdK w12 ka RL.length RL) := RdK.own ok
    clear hb ok lk B11 W11 G11 O11
    go_wp2_with fail
    refine (c_eqK ka wa RL.length kc wc RL w12 K12.out (RdK.own W12.out) fr1).mono ?_
    rintro e w13 ⟨rfl, hb⟩
    have B13 : Hid (Below w.heap.size w w13) := B12.out.trans (hb.mono B12.out.size)
    have G13 : Hid (w13.ownsRow w5.heap.size 55 4 (.slice ga RL.length gc) RL.length (cellsK (marksK 1 RL.length))) := own_below G12.out hb
    clear hb B12 W12 G12 K12
    have HH := c_heldK ga RL.length gc 1 w13 (RdK.own G13.out) (by omega) fr1 (by omega)
    rw [cz] at HH
    go_wp2_with fail
    refine HH.mono ?_
    rintro e wq ⟨rfl, hwq⟩; rw [hwq]; clear hwq
    go_wp2
    go_ret
    exact ⟨rfl, B13.out⟩

end Go.Proofs.YtmkfclbamecgaaaDoor
