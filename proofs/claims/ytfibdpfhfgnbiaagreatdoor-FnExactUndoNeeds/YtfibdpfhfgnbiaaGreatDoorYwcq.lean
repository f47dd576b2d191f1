/-
  The walk of the law of EngineOK, over the contracts of its two sides.
-/
import Derived.Test.YtfibdpfhfgnbiaaGreatDoorYwaq
import Derived.Test.YtfibdpfhfgnbiaaGreatDoorZzaq
import Derived.Deep.RegionHeld3
namespace Go.Proofs.YtfibdpfhfgnbiaaGreatDoor
open Go Go.RowKit
attribute [local go_sem ↓] Go.wp_at_zero Go.wp_at_succ

theorem FitS.same {D : DD} {ln : Nat} {L : List DR} {fn : Nat} {F gs : List FF} (h : FitS D ln L fn F) (s : SameF F gs) : FitS D ln L fn gs :=
  ⟨h.1, h.2.1, h.2.2.1, fun i hi => by
    have := s.at i
    simp only [saysF, Prod.mk.injEq] at this
    rw [← this.2.1]
    exact h.2.2.2 i hi⟩
set_option maxRecDepth 100000 in
set_option maxHeartbeats 4000000 in
theorem law_FnExactEngineOK (h : HD) (D : DD) (ep : Int) (la : Option Addr) (ln lc : Nat) (Lg : List DR) (su : Int) (fa : Option Addr) (fn fc : Nat) (F : List FF) (ha : Int) (up : Bool) (ta : Option Addr) (tc : Nat) (T : List X.WK) (k : L.HL) (K : List L.LK) (Wt : List L.WK) (nx : Int) (ok : Bool) (w : World) (r : RdE w h D la ln Lg fa fn F ta T k K Wt) (m : MaxE h D ln Lg fn F T K Wt) (ht : TabH w) (hi : L.FitH w)
    (cs : FitE D ln Lg fn F T K Wt → ∀ (W : World) (h2 : HD) (l2 : Option Addr) (lc2 : Nat) (f2 : Option Addr) (fc2 : Nat) (g2 : List FF) (t2 : Option Addr) (tc2 : Nat) (k2 : L.HL), SameF F g2 → RdE W h2 D l2 ln Lg f2 fn g2 t2 T k2 K Wt → TabH W → L.FitH W → Calls Tryz.prog 14 #[.agg #[.slice h2.a0 h2.n0 h2.c0, .slice h2.a1 h2.n1 h2.c1, .bool h2.b, .slice h2.a2 h2.n2 h2.c2, .int .i64 ep, .slice l2 ln lc2, .int .i64 su, .slice f2 fn fc2, .int .i64 ha, .bool up, .slice t2 T.length tc2, .slice k2.a0 K.length k2.c0, .slice k2.a1 Wt.length k2.c1, .int .i64 nx]] W fun e w' => e = .returned (.bool ok) ∧ Below W.heap.size W w') (ci : FitE D ln Lg fn F T K Wt → ∀ (W : World) (h2 : HD) (l2 : Option Addr) (lc2 : Nat) (f2 : Option Addr) (fc2 : Nat) (g2 : List FF) (t2 : Option Addr) (tc2 : Nat) (k2 : L.HL), SameF F g2 → RdE W h2 D l2 ln Lg f2 fn g2 t2 T k2 K Wt → TabH W → L.FitH W → Calls Tryz.prog 16 #[.agg #[.slice h2.a0 h2.n0 h2.c0, .slice h2.a1 h2.n1 h2.c1, .bool h2.b, .slice h2.a2 h2.n2 h2.c2, .int .i64 ep, .slice l2 ln lc2, .int .i64 su, .slice f2 fn fc2, .int .i64 ha, .bool up, .slice t2 T.length tc2, .slice k2.a0 K.length k2.c0, .slice k2.a1 Wt.length k2.c1, .int .i64 nx]] W fun e w' => e = .returned (.bool ok) ∧ Below W.heap.size W w') :
    Calls Tryz.prog 3 #[.agg #[.slice h.a0 h.n0 h.c0, .slice h.a1 h.n1 h.c1, .bool h.b, .slice h.a2 h.n2 h.c2, .int .i64 ep, .slice la ln lc, .int .i64 su, .slice fa fn fc, .int .i64 ha, .bool up, .slice ta T.length tc, .slice k.a0 K.length k.c0, .slice k.a1 Wt.length k.c1, .int .i64 nx]] w fun e w' => e = .returned (.bool true) ∧ Below w.heap.size w w' := by
  obtain ⟨V, hV⟩ : ∃ V, w.alloc (.cells #[.slice h.a0 h.n0 h.c0, .slice h.a1 h.n1 h.c1, .bool h.b, .slice h.a2 h.n2 h.c2, .int .i64 ep, .slice la ln lc, .int .i64 su, .slice fa fn fc, .int .i64 ha, .bool up, .slice ta T.length tc, .slice k.a0 K.length k.c0, .slice k.a1 Wt.length k.c1, .int .i64 nx] 37) = V := ⟨_, rfl⟩
  have B0 : Hid (Below w.heap.size w V) := by unfold Hid; rw [← hV]; exact (Below.refl _ _).alloc (Nat.le_refl _) _
  have X0 : Hid (Box V w.heap.size 37 #[.slice h.a0 h.n0 h.c0, .slice h.a1 h.n1 h.c1, .bool h.b, .slice h.a2 h.n2 h.c2, .int .i64 ep, .slice la ln lc, .int .i64 su, .slice fa fn fc, .int .i64 ha, .bool up, .slice ta T.length tc, .slice k.a0 K.length k.c0, .slice k.a1 Wt.length k.c1, .int .i64 nx]) := by unfold Hid; rw [← hV]; exact Box.new _ _ _
  have C1 := c_szEN h D ep la ln lc Lg su fa fn fc F ha up ta tc T k K Wt nx 1048576 V (r.below B0.out) m (by omega) (by omega)
  have C2 : Hid (FitE D ln Lg fn F T K Wt → ∀ W, Below w.heap.size w W → Calls Tryz.prog 15 #[.agg #[.slice h.a0 h.n0 h.c0, .slice h.a1 h.n1 h.c1, .bool h.b, .slice h.a2 h.n2 h.c2, .int .i64 ep, .slice la ln lc, .int .i64 su, .slice fa fn fc, .int .i64 ha, .bool up, .slice ta T.length tc, .slice k.a0 K.length k.c0, .slice k.a1 Wt.length k.c1, .int .i64 nx]] W fun e w' => (∃ (h' : HD) (la' : Option Addr) (lc' : Nat) (fa' : Option Addr) (fc' : Nat) (gs : List FF) (ta' : Option Addr) (tc' : Nat) (k' : L.HL), e = .returned (.agg #[.slice h'.a0 h'.n0 h'.c0, .slice h'.a1 h'.n1 h'.c1, .bool h'.b, .slice h'.a2 h'.n2 h'.c2, .int .i64 ep, .slice la' ln lc', .int .i64 su, .slice fa' fn fc', .int .i64 ha, .bool up, .slice ta' T.length tc', .slice k'.a0 K.length k'.c0, .slice k'.a1 Wt.length k'.c1, .int .i64 nx]) ∧ SameF F gs ∧ RdE w' h' D la' ln Lg fa' fn gs ta' T k' K Wt) ∧ Below W.heap.size W w') := fun hf W hW => c_toEN h D ep la ln lc Lg su fa fn fc F ha up ta tc T k K Wt nx W (r.below hW) hf
  have HT : Hid (TabH w) := ht
  have HI : Hid (L.FitH w) := hi
  have CS0 : Hid (FitE D ln Lg fn F T K Wt → ∀ (W : World) (h2 : HD) (l2 : Option Addr) (lc2 : Nat) (f2 : Option Addr) (fc2 : Nat) (g2 : List FF) (t2 : Option Addr) (tc2 : Nat) (k2 : L.HL), SameF F g2 → RdE W h2 D l2 ln Lg f2 fn g2 t2 T k2 K Wt → TabH W → L.FitH W → Calls Tryz.prog 14 #[.agg #[.slice h2.a0 h2.n0 h2.c0, .slice h2.a1 h2.n1 h2.c1, .bool h2.b, .slice h2.a2 h2.n2 h2.c2, .int .i64 ep, .slice l2 ln lc2, .int .i64 su, .slice f2 fn fc2, .int .i64 ha, .bool up, .slice t2 T.length tc2, .slice k2.a0 K.length k2.c0, .slice k2.a1 Wt.length k2.c1, .int .i64 nx]] W fun e w' => e = .returned (.bool ok) ∧ Below W.heap.size W w') := cs
  have CI0 : Hid (FitE D ln Lg fn F T K Wt → ∀ (W : World) (h2 : HD) (l2 : Option Addr) (lc2 : Nat) (f2 : Option Addr) (fc2 : Nat) (g2 : List FF) (t2 : Option Addr) (tc2 : Nat) (k2 : L.HL), SameF F g2 → RdE W h2 D l2 ln Lg f2 fn g2 t2 T k2 K Wt → TabH W → L.FitH W → Calls Tryz.prog 16 #[.agg #[.slice h2.a0 h2.n0 h2.c0, .slice h2.a1 h2.n1 h2.c1, .bool h2.b, .slice h2.a2 h2.n2 h2.c2, .int .i64 ep, .slice l2 ln lc2, .int .i64 su, .slice f2 fn fc2, .int .i64 ha, .bool up, .slice t2 T.length tc2, .slice k2.a0 K.length k2.c0, .slice k2.a1 Wt.length k2.c1, .int .i64 nx]] W fun e w' => e = .returned (.bool ok) ∧ Below W.heap.size W w') := ci
  clear r m ht hi cs ci
  obtain ⟨x0, x1, x2, x3, x4, x5, x6, x7, x8, x9, x10, x11, x12, x13⟩ := box14 X0.out
  go_enter Tryz.func3, Tryz.ntmps3
  go_wp2_with fail
  refine C1.mono ?_
  rintro e w1 ⟨⟨z, rfl, hz, hf⟩, hb⟩
  have B1 : Hid (Below w.heap.size w w1) := B0.out.trans (hb.mono B0.out.size)
  have X1 : Hid (Box w1 w.heap.size 37 #[.slice h.a0 h.n0 h.c0, .slice h.a1 h.n1 h.c1, .bool h.b, .slice h.a2 h.n2 h.c2, .int .i64 ep, .slice la ln lc, .int .i64 su, .slice fa fn fc, .int .i64 ha, .bool up, .slice ta T.length tc, .slice k.a0 K.length k.c0, .slice k.a1 Wt.length k.c1, .int .i64 nx]) := X0.out.belowS hb
  clear hb B0 X0 C1 hV x0 x1 x2 x3 x4 x5 x6 x7 x8 x9 x10 x11 x12 x13
  by_cases hneg : z < 0
  · clear hf
    go_wp2
    go_ret
    exact ⟨rfl, B1.out⟩
  have FS : Hid (FitE D ln Lg fn F T K Wt) := hf (by omega)
  have CS : Hid (∀ (W : World) (h2 : HD) (l2 : Option Addr) (lc2 : Nat) (f2 : Option Addr) (fc2 : Nat) (g2 : List FF) (t2 : Option Addr) (tc2 : Nat) (k2 : L.HL), SameF F g2 → RdE W h2 D l2 ln Lg f2 fn g2 t2 T k2 K Wt → TabH W → L.FitH W → Calls Tryz.prog 14 #[.agg #[.slice h2.a0 h2.n0 h2.c0, .slice h2.a1 h2.n1 h2.c1, .bool h2.b, .slice h2.a2 h2.n2 h2.c2, .int .i64 ep, .slice l2 ln lc2, .int .i64 su, .slice f2 fn fc2, .int .i64 ha, .bool up, .slice t2 T.length tc2, .slice k2.a0 K.length k2.c0, .slice k2.a1 Wt.length k2.c1, .int .i64 nx]] W fun e w' => e = .returned (.bool ok) ∧ Below W.heap.size W w') := CS0.out FS.out
  have CI : Hid (∀ (W : World) (h2 : HD) (l2 : Option Addr) (lc2 : Nat) (f2 : Option Addr) (fc2 : Nat) (g2 : List FF) (t2 : Option Addr) (tc2 : Nat) (k2 : L.HL), SameF F g2 → RdE W h2 D l2 ln Lg f2 fn g2 t2 T k2 K Wt → TabH W → L.FitH W → Calls Tryz.prog 16 #[.agg #[.slice h2.a0 h2.n0 h2.c0, .slice h2.a1 h2.n1 h2.c1, .bool h2.b, .slice h2.a2 h2.n2 h2.c2, .int .i64 ep, .slice l2 ln lc2, .int .i64 su, .slice f2 fn fc2, .int .i64 ha, .bool up, .slice t2 T.length tc2, .slice k2.a0 K.length k2.c0, .slice k2.a1 Wt.length k2.c1, .int .i64 nx]] W fun e w' => e = .returned (.bool ok) ∧ Below W.heap.size W w') := CI0.out FS.out
  clear hf CS0 CI0
  obtain ⟨x0, x1, x2, x3, x4, x5, x6, x7, x8, x9, x10, x11, x12, x13⟩ := box14 X1.out
  go_wp2_with fail
  refine (C2.out FS.out w1 B1.out).mono ?_
  rintro e w2 ⟨⟨h2, l2, lc2, f2, fc2, g2, t2, tc2, k2, rfl, sm2, r2⟩, hb⟩
  have B2 : Hid (Below w.heap.size w w2) := B1.out.trans (hb.mono B1.out.size)
  have X2 : Hid (Box w2 w.heap.size 37 #[.slice h.a0 h.n0 h.c0, .slice h.a1 h.n1 h.c1, .bool h.b, .slice h.a2 h.n2 h.c2, .int .i64 ep, .slice la ln lc, .int .i64 su, .slice fa fn fc, .int .i64 ha, .bool up, .slice ta T.length tc, .slice k.a0 K.length k.c0, .slice k.a1 Wt.length k.c1, .int .i64 nx]) := X1.out.belowS hb
  have C3 : Hid (Calls _ _ _ _ _) := CS.out w2 h2 l2 lc2 f2 fc2 g2 t2 tc2 k2 sm2 r2 (HT.out.below B2.out) (HI.out.below B2.out)
  clear hb B1 X1 x0 x1 x2 x3 x4 x5 x6 x7 x8 x9 x10 x11 x12 x13 r2 sm2 CS
  go_wp2_with fail
  refine C3.out.mono ?_
  rintro e w3 ⟨rfl, hb⟩
  have B3 : Hid (Below w.heap.size w w3) := B2.out.trans (hb.mono B2.out.size)
  have X3 : Hid (Box w3 w.heap.size 37 #[.slice h.a0 h.n0 h.c0, .slice h.a1 h.n1 h.c1, .bool h.b, .slice h.a2 h.n2 h.c2, .int .i64 ep, .slice la ln lc, .int .i64 su, .slice fa fn fc, .int .i64 ha, .bool up, .slice ta T.length tc, .slice k.a0 K.length k.c0, .slice k.a1 Wt.length k.c1, .int .i64 nx]) := X2.out.belowS hb
  clear hb B2 X2 C3
  obtain ⟨x0, x1, x2, x3, x4, x5, x6, x7, x8, x9, x10, x11, x12, x13⟩ := box14 X3.out
  go_wp2_with fail
  refine (C2.out FS.out w3 B3.out).mono ?_
  rintro e w4 ⟨⟨hx, lx, lcx, fx, fcx, gx, tx, tcx, kx, rfl, smx, rx⟩, hb⟩
  have B4 : Hid (Below w.heap.size w w4) := B3.out.trans (hb.mono B3.out.size)
  have X4 : Hid (Box w4 w.heap.size 37 #[.slice h.a0 h.n0 h.c0, .slice h.a1 h.n1 h.c1, .bool h.b, .slice h.a2 h.n2 h.c2, .int .i64 ep, .slice la ln lc, .int .i64 su, .slice fa fn fc, .int .i64 ha, .bool up, .slice ta T.length tc, .slice k.a0 K.length k.c0, .slice k.a1 Wt.length k.c1, .int .i64 nx]) := X3.out.belowS hb
  have RX4 : Hid (RdE w4 hx D lx ln Lg fx fn gx tx T kx K Wt) := rx
  have SMX : Hid (SameF F gx) := smx
  clear hb B3 X3 x0 x1 x2 x3 x4 x5 x6 x7 x8 x9 x10 x11 x12 x13 rx smx
  obtain ⟨w5, hw5⟩ : ∃ W, w4.alloc (.cells #[.slice hx.a0 hx.n0 hx.c0, .slice hx.a1 hx.n1 hx.c1, .bool hx.b, .slice hx.a2 hx.n2 hx.c2, .int .i64 ep, .slice lx ln lcx, .int .i64 su, .slice fx fn fcx, .int .i64 ha, .bool up, .slice tx T.length tcx, .slice kx.a0 K.length kx.c0, .slice kx.a1 Wt.length kx.c1, .int .i64 nx] 53) = W := ⟨_, rfl⟩
  have hb : Below w4.heap.size w4 w5 := by rw [← hw5]; exact (Below.refl _ _).alloc (Nat.le_refl _) _
  have B5 : Hid (Below w.heap.size w w5) := B4.out.trans (hb.mono B4.out.size)
  have X5 : Hid (Box w5 w.heap.size 37 #[.slice h.a0 h.n0 h.c0, .slice h.a1 h.n1 h.c1, .bool h.b, .slice h.a2 h.n2 h.c2, .int .i64 ep, .slice la ln lc, .int .i64 su, .slice fa fn fc, .int .i64 ha, .bool up, .slice ta T.length tc, .slice k.a0 K.length k.c0, .slice k.a1 Wt.length k.c1, .int .i64 nx]) := X4.out.belowS hb
  have Y5 : Hid (Box w5 w4.heap.size 53 #[.slice hx.a0 hx.n0 hx.c0, .slice hx.a1 hx.n1 hx.c1, .bool hx.b, .slice hx.a2 hx.n2 hx.c2, .int .i64 ep, .slice lx ln lcx, .int .i64 su, .slice fx fn fcx, .int .i64 ha, .bool up, .slice tx T.length tcx, .slice kx.a0 K.length kx.c0, .slice kx.a1 Wt.length kx.c1, .int .i64 nx]) := by have := Box.new w4 #[.slice hx.a0 hx.n0 hx.c0, .slice hx.a1 hx.n1 hx.c1, .bool hx.b, .slice hx.a2 hx.n2 hx.c2, .int .i64 ep, .slice lx ln lcx, .int .i64 su, .slice fx fn fcx, .int .i64 ha, .bool up, .slice tx T.length tcx, .slice kx.a0 K.length kx.c0, .slice kx.a1 Wt.length kx.c1, .int .i64 nx] 53; rwa [hw5] at this
  have RX5 : Hid (RdE w5 hx D lx ln Lg fx fn gx tx T kx K Wt) := RX4.out.below hb
  have C5 : Hid (Calls _ _ _ _ _) := CI.out w5 hx lx lcx fx fcx gx tx tcx kx SMX.out RX5.out (HT.out.below B5.out) (HI.out.below B5.out)
  clear hb B4 X4 RX4 CI
  obtain ⟨u0, u1, u2, u3, u4, u5, u6, u7, u8, u9, u10, u11, u12, u13⟩ := box14 Y5.out
  go_wp2_with fail
  refine C5.out.mono ?_
  rintro e w6 ⟨rfl, hb⟩
  have B6 : Hid (Below w.heap.size w w6) := B5.out.trans (hb.mono B5.out.size)
  have X6 : Hid (Box w6 w.heap.size 37 #[.slice h.a0 h.n0 h.c0, .slice h.a1 h.n1 h.c1, .bool h.b, .slice h.a2 h.n2 h.c2, .int .i64 ep, .slice la ln lc, .int .i64 su, .slice fa fn fc, .int .i64 ha, .bool up, .slice ta T.length tc, .slice k.a0 K.length k.c0, .slice k.a1 Wt.length k.c1, .int .i64 nx]) := X5.out.belowS hb
  have Y6 : Hid (Box w6 w4.heap.size 53 #[.slice hx.a0 hx.n0 hx.c0, .slice hx.a1 hx.n1 hx.c1, .bool hx.b, .slice hx.a2 hx.n2 hx.c2, .int .i64 ep, .slice lx ln lcx, .int .i64 su, .slice fx fn fcx, .int .i64 ha, .bool up, .slice tx T.length tcx, .slice kx.a0 K.length kx.c0, .slice kx.a1 Wt.length kx.c1, .int .i64 nx]) := Y5.out.belowS hb
  have RX6 : Hid (RdE w6 hx D lx ln Lg fx fn gx tx T kx K Wt) := RX5.out.below hb
  clear hb B5 X5 Y5 RX5 hw5 u0 u1 u2 u3 u4 u5 u6 u7 u8 u9 u10 u11 u12 u13 C5
  have CE : Hid (∀ W, Below w6.heap.size w6 W → ∀ h7 l7 lc7 f7 fc7 g7 t7 tc7 k7, SameF F g7 → RdE W h7 D l7 ln Lg f7 fn g7 t7 T k7 K Wt → Calls Tryz.prog 17 #[.agg #[.slice hx.a0 hx.n0 hx.c0, .slice hx.a1 hx.n1 hx.c1, .bool hx.b, .slice hx.a2 hx.n2 hx.c2, .int .i64 ep, .slice lx ln lcx, .int .i64 su, .slice fx fn fcx, .int .i64 ha, .bool up, .slice tx T.length tcx, .slice kx.a0 K.length kx.c0, .slice kx.a1 Wt.length kx.c1, .int .i64 nx], .agg #[.slice h7.a0 h7.n0 h7.c0, .slice h7.a1 h7.n1 h7.c1, .bool h7.b, .slice h7.a2 h7.n2 h7.c2, .int .i64 ep, .slice l7 ln lc7, .int .i64 su, .slice f7 fn fc7, .int .i64 ha, .bool up, .slice t7 T.length tc7, .slice k7.a0 K.length k7.c0, .slice k7.a1 Wt.length k7.c1, .int .i64 nx]] W fun e w' => e = .returned (.bool true) ∧ Below W.heap.size W w') := fun W hW h7 l7 lc7 f7 fc7 g7 t7 tc7 k7 s7 o7 =>
    c_eqEN hx h7 D ep lx l7 ln lcx lc7 Lg su fx f7 fn fcx fc7 gx g7 ha up tx t7 tcx tc7 T kx k7 K Wt nx W (RX6.out.below hW) o7 (SMX.out.symm.trans s7) ⟨FS.out.1.same SMX.out, FS.out.2⟩
  have nb : (ok != ok) = false := by simp
  obtain ⟨x0, x1, x2, x3, x4, x5, x6, x7, x8, x9, x10, x11, x12, x13⟩ := box14 X6.out
  obtain ⟨u0, u1, u2, u3, u4, u5, u6, u7, u8, u9, u10, u11, u12, u13⟩ := box14 Y6.out
  go_wp2_with fail
  go_region_held3 (fun x => x.cell? ⟨w.heap.size, 0, none⟩ = some (.slice h.a0 h.n0 h.c0) ∧ x.cell? ⟨w.heap.size, 1, none⟩ = some (.slice h.a1 h.n1 h.c1) ∧ x.cell? ⟨w.heap.size, 2, none⟩ = some (.bool h.b) ∧ x.cell? ⟨w.heap.size, 3, none⟩ = some (.slice h.a2 h.n2 h.c2) ∧ x.cell? ⟨w.heap.size, 4, none⟩ = some (.int .i64 ep) ∧ x.cell? ⟨w.heap.size, 5, none⟩ = some (.slice la ln lc) ∧ x.cell? ⟨w.heap.size, 6, none⟩ = some (.int .i64 su) ∧ x.cell? ⟨w.heap.size, 7, none⟩ = some (.slice fa fn fc) ∧ x.cell? ⟨w.heap.size, 8, none⟩ = some (.int .i64 ha) ∧ x.cell? ⟨w.heap.size, 9, none⟩ = some (.bool up) ∧ x.cell? ⟨w.heap.size, 10, none⟩ = some (.slice ta T.length tc) ∧ x.cell? ⟨w.heap.size, 11, none⟩ = some (.slice k.a0 K.length k.c0) ∧ x.cell? ⟨w.heap.size, 12, none⟩ = some (.slice k.a1 Wt.length k.c1) ∧ x.cell? ⟨w.heap.size, 13, none⟩ = some (.int .i64 nx) ∧ x.cell? ⟨w4.heap.size, 0, none⟩ = some (.slice hx.a0 hx.n0 hx.c0) ∧ x.cell? ⟨w4.heap.size, 1, none⟩ = some (.slice hx.a1 hx.n1 hx.c1) ∧ x.cell? ⟨w4.heap.size, 2, none⟩ = some (.bool hx.b) ∧ x.cell? ⟨w4.heap.size, 3, none⟩ = some (.slice hx.a2 hx.n2 hx.c2) ∧ x.cell? ⟨w4.heap.size, 4, none⟩ = some (.int .i64 ep) ∧ x.cell? ⟨w4.heap.size, 5, none⟩ = some (.slice lx ln lcx) ∧ x.cell? ⟨w4.heap.size, 6, none⟩ = some (.int .i64 su) ∧ x.cell? ⟨w4.heap.size, 7, none⟩ = some (.slice fx fn fcx) ∧ x.cell? ⟨w4.heap.size, 8, none⟩ = some (.int .i64 ha) ∧ x.cell? ⟨w4.heap.size, 9, none⟩ = some (.bool up) ∧ x.cell? ⟨w4.heap.size, 10, none⟩ = some (.slice tx T.length tcx) ∧ x.cell? ⟨w4.heap.size, 11, none⟩ = some (.slice kx.a0 K.length kx.c0) ∧ x.cell? ⟨w4.heap.size, 12, none⟩ = some (.slice kx.a1 Wt.length kx.c1) ∧ x.cell? ⟨w4.heap.size, 13, none⟩ = some (.int .i64 nx))
    (first | exact ⟨far6 hb8 (far6 hb7 x0), far6 hb8 (far6 hb7 x1), far6 hb8 (far6 hb7 x2), far6 hb8 (far6 hb7 x3), far6 hb8 (far6 hb7 x4), far6 hb8 (far6 hb7 x5), far6 hb8 (far6 hb7 x6), far6 hb8 (far6 hb7 x7), far6 hb8 (far6 hb7 x8), far6 hb8 (far6 hb7 x9), far6 hb8 (far6 hb7 x10), far6 hb8 (far6 hb7 x11), far6 hb8 (far6 hb7 x12), far6 hb8 (far6 hb7 x13), far6 hb8 (far6 hb7 u0), far6 hb8 (far6 hb7 u1), far6 hb8 (far6 hb7 u2), far6 hb8 (far6 hb7 u3), far6 hb8 (far6 hb7 u4), far6 hb8 (far6 hb7 u5), far6 hb8 (far6 hb7 u6), far6 hb8 (far6 hb7 u7), far6 hb8 (far6 hb7 u8), far6 hb8 (far6 hb7 u9), far6 hb8 (far6 hb7 u10), far6 hb8 (far6 hb7 u11), far6 hb8 (far6 hb7 u12), far6 hb8 (far6 hb7 u13)⟩ | exact ⟨far6 hb7 x0, far6 hb7 x1, far6 hb7 x2, far6 hb7 x3, far6 hb7 x4, far6 hb7 x5, far6 hb7 x6, far6 hb7 x7, far6 hb7 x8, far6 hb7 x9, far6 hb7 x10, far6 hb7 x11, far6 hb7 x12, far6 hb7 x13, far6 hb7 u0, far6 hb7 u1, far6 hb7 u2, far6 hb7 u3, far6 hb7 u4, far6 hb7 u5, far6 hb7 u6, far6 hb7 u7, far6 hb7 u8, far6 hb7 u9, far6 hb7 u10, far6 hb7 u11, far6 hb7 u12, far6 hb7 u13⟩ | go_keep)
    (first | (go_at_call 15; refine (C2.out FS.out _ (below_drewN B6.out _)).mono ?_; rintro e wa ⟨⟨h7, l7, lc7, f7, fc7, g7, t7, tc7, k7, rfl, s7, o7⟩, hb7⟩)
           | (go_at_call 17; refine (CE.out _ ((Below.refl _ _).drew.trans hb7) h7 l7 lc7 f7 fc7 g7 t7 tc7 k7 s7 o7).mono ?_; rintro e w8 ⟨rfl, hb8⟩))
  have hb : Below w6.heap.size w6 w8 := ((Below.refl w6.heap.size w6).drew.trans hb7).trans (hb8.mono hb7.size)
  have B8 : Hid (Below w.heap.size w w8) := B6.out.trans (hb.mono B6.out.size)
  clear hb hb7 hb8 o7 s7 x0 x1 x2 x3 x4 x5 x6 x7 x8 x9 x10 x11 x12 x13 u0 u1 u2 u3 u4 u5 u6 u7 u8 u9 u10 u11 u12 u13
  go_wp2
  go_ret
  exact ⟨rfl, B8.out⟩

end Go.Proofs.YtfibdpfhfgnbiaaGreatDoor
