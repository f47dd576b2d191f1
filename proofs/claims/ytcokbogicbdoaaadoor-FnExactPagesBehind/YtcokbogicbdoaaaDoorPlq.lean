/-
  The law of PagesBehind.
-/
import Derived.Test.YtcokbogicbdoaaaDoorYtfq
import Derived.Test.YtcokbogicbdoaaaDoorPjq
import Derived.Deep.RegionHeld3
namespace Go.Proofs.YtcokbogicbdoaaaDoor
open Go Go.RowKit
attribute [local go_sem ↓] Go.wp_at_zero Go.wp_at_succ

set_option maxRecDepth 100000 in
set_option maxHeartbeats 2000000 in
theorem law_FnExactPagesBehind (h : HD) (D : DD) (ep : Int) (la : Option Addr) (ln lc : Nat) (L : List DR) (su : Int) (fa : Option Addr) (fn fc : Nat) (F : List FF) (ha : Int) (w : World) (r : RdD w h D) (ht : TabH w) (m0 : h.n0 ≤ maxLen) (m1 : h.n1 ≤ maxLen) (m2 : h.n2 ≤ maxLen) (s0 : ∀ s ∈ D.S, s.size ≤ maxLen) (s1 : ∀ p ∈ D.C, p.2.size ≤ maxLen) (rl : RdQ w la ln L) (hln : ln ≤ maxLen) (hls : ∀ v ∈ L, v.b.size ≤ maxLen ∧ v.a.size ≤ maxLen) (rf : RdF w fa fn F) (hfn : fn ≤ maxLen) (hfs : ∀ i, i < fn → (F.getD i zeroF).h.n ≤ maxLen ∧ ∀ s ∈ (F.getD i zeroF).D.S, s.size ≤ maxLen) :
    Calls Tryd.prog 3 #[.agg #[.slice h.a0 h.n0 h.c0, .slice h.a1 h.n1 h.c1, .bool h.b, .slice h.a2 h.n2 h.c2, .int .i64 ep, .slice la ln lc, .int .i64 su, .slice fa fn fc, .int .i64 ha]] w fun e w' => e = .returned (.bool true) ∧ Below w.heap.size w w' := by
  obtain ⟨V, hV⟩ : ∃ V, w.alloc (.cells #[.slice h.a0 h.n0 h.c0, .slice h.a1 h.n1 h.c1, .bool h.b, .slice h.a2 h.n2 h.c2, .int .i64 ep, .slice la ln lc, .int .i64 su, .slice fa fn fc, .int .i64 ha] 30) = V := ⟨_, rfl⟩
  have B0 : Hid (Below w.heap.size w V) := by unfold Hid; rw [← hV]; exact (Below.refl _ _).alloc (Nat.le_refl _) _
  have X0 : Hid (Box V w.heap.size 30 #[.slice h.a0 h.n0 h.c0, .slice h.a1 h.n1 h.c1, .bool h.b, .slice h.a2 h.n2 h.c2, .int .i64 ep, .slice la ln lc, .int .i64 su, .slice fa fn fc, .int .i64 ha]) := by unfold Hid; rw [← hV]; exact Box.new _ _ _
  have C1 := c_szST h D ep la ln lc L su fa fn fc F ha 1048576 V (r.below B0.out) m0 m1 m2 s0 s1 (rl.below B0.out) hln hls (rf.below B0.out) hfn hfs (by omega) (by omega)
  have C2 : Hid (FitS D ln L fn F → ∀ W, Below w.heap.size w W → Calls Tryd.prog 7 #[.agg #[.slice h.a0 h.n0 h.c0, .slice h.a1 h.n1 h.c1, .bool h.b, .slice h.a2 h.n2 h.c2, .int .i64 ep, .slice la ln lc, .int .i64 su, .slice fa fn fc, .int .i64 ha]] W fun e w' => (∃ (h' : HD) (la' : Option Addr) (lc' : Nat) (fa' : Option Addr) (fc' : Nat) (gs : List FF), e = .returned (.agg #[.slice h'.a0 h'.n0 h'.c0, .slice h'.a1 h'.n1 h'.c1, .bool h'.b, .slice h'.a2 h'.n2 h'.c2, .int .i64 ep, .slice la' ln lc', .int .i64 su, .slice fa' fn fc', .int .i64 ha]) ∧ SameF F gs ∧ OwnS w' W.heap.size w'.heap.size h' D la' ln lc' L fa' fn fc' gs) ∧ Below W.heap.size W w') := fun hf W hW => c_toST h D ep la ln lc L su fa fn fc F ha W (r.below hW) (rl.below hW) (rf.below hW) hf
  have HT : Hid (TabH w) := ht
  have RN : Hid (D.S.length = h.n0) := r.l0
  clear r ht m0 m1 m2 s0 s1 rl hln hls rf hfn hfs
  obtain ⟨x0, x1, x2, x3, x4, x5, x6, x7, x8⟩ := box9 X0.out
  go_enter Tryd.func3, Tryd.ntmps3
  go_wp2_with fail
  refine C1.mono ?_
  rintro e w1 ⟨⟨z, rfl, hz, hf⟩, hb⟩
  have B1 : Hid (Below w.heap.size w w1) := B0.out.trans (hb.mono B0.out.size)
  have X1 : Hid (Box w1 w.heap.size 30 #[.slice h.a0 h.n0 h.c0, .slice h.a1 h.n1 h.c1, .bool h.b, .slice h.a2 h.n2 h.c2, .int .i64 ep, .slice la ln lc, .int .i64 su, .slice fa fn fc, .int .i64 ha]) := X0.out.belowS hb
  clear hb B0 X0 C1 hV x0 x1 x2 x3 x4 x5 x6 x7 x8
  by_cases hneg : z < 0
  · clear hf
    go_wp2
    go_ret
    exact ⟨rfl, B1.out⟩
  have FS : Hid (FitS D ln L fn F) := hf (by omega)
  clear hf
  obtain ⟨x0, x1, x2, x3, x4, x5, x6, x7, x8⟩ := box9 X1.out
  go_wp2_with fail
  refine (C2.out FS.out w1 B1.out).mono ?_
  rintro e w2 ⟨⟨h2, l2, lc2, f2, fc2, g2, rfl, sm2, o2⟩, hb⟩
  have B2 : Hid (Below w.heap.size w w2) := B1.out.trans (hb.mono B1.out.size)
  have X2 : Hid (Box w2 w.heap.size 30 #[.slice h.a0 h.n0 h.c0, .slice h.a1 h.n1 h.c1, .bool h.b, .slice h.a2 h.n2 h.c2, .int .i64 ep, .slice la ln lc, .int .i64 su, .slice fa fn fc, .int .i64 ha]) := X1.out.belowS hb
  obtain ⟨rd2, rq2, rf2⟩ := o2.rd
  have FG := FS.out.same sm2
  have hn2 : h2.n0 = h.n0 := by rw [← rd2.l0, RN.out]
  have C3 := c_specPB h2 D ep l2 ln lc2 L su f2 fn fc2 g2 ha w2 rd2 FG.1 rq2 FG.2.1.1 FG.2.1.2 rf2 FG.2.2.1 FG.2.2.2
  rw [show okST D h2.n0 ep ln L su fn g2 ha = okST D h.n0 ep ln L su fn F ha by rw [okST_same sm2, hn2], behB_same sm2] at C3
  have C3' : Hid (Calls _ _ _ _ _) := C3
  clear hb B1 X1 x0 x1 x2 x3 x4 x5 x6 x7 x8 rd2 rq2 rf2 FG hn2 o2 sm2 C3
  go_wp2_with fail
  refine C3'.out.mono ?_
  rintro e w3 ⟨rfl, hb⟩
  have B3 : Hid (Below w.heap.size w w3) := B2.out.trans (hb.mono B2.out.size)
  have X3 : Hid (Box w3 w.heap.size 30 #[.slice h.a0 h.n0 h.c0, .slice h.a1 h.n1 h.c1, .bool h.b, .slice h.a2 h.n2 h.c2, .int .i64 ep, .slice la ln lc, .int .i64 su, .slice fa fn fc, .int .i64 ha]) := X2.out.belowS hb
  obtain ⟨ok, hok⟩ : ∃ b, b = (okST D h.n0 ep ln L su fn F ha && behB (rdS D.S D.C) F) := ⟨_, rfl⟩
  obtain ⟨kk, hkk⟩ : ∃ b : Int, b = (if okST D h.n0 ep ln L su fn F ha then 0 else 1) := ⟨_, rfl⟩
  rw [← hok, ← hkk]
  have HOK : Hid (ok = (okST D h.n0 ep ln L su fn F ha && behB (rdS D.S D.C) F) ∧ kk = (if okST D h.n0 ep ln L su fn F ha then 0 else 1)) := ⟨hok, hkk⟩
  clear hb B2 X2 C3' hok hkk
  obtain ⟨x0, x1, x2, x3, x4, x5, x6, x7, x8⟩ := box9 X3.out
  go_wp2_with fail
  refine (C2.out FS.out w3 B3.out).mono ?_
  rintro e w4 ⟨⟨hx, lx, lcx, fx, fcx, gx, rfl, smx, ox⟩, hb⟩
  have B4 : Hid (Below w.heap.size w w4) := B3.out.trans (hb.mono B3.out.size)
  have X4 : Hid (Box w4 w.heap.size 30 #[.slice h.a0 h.n0 h.c0, .slice h.a1 h.n1 h.c1, .bool h.b, .slice h.a2 h.n2 h.c2, .int .i64 ep, .slice la ln lc, .int .i64 su, .slice fa fn fc, .int .i64 ha]) := X3.out.belowS hb
  have OX4 : Hid (OwnS w4 w3.heap.size w4.heap.size hx D lx ln lcx L fx fn fcx gx) := ox
  have SMX : Hid (SameF F gx) := smx
  clear hb B3 X3 x0 x1 x2 x3 x4 x5 x6 x7 x8 ox smx
  obtain ⟨w5, hw5⟩ : ∃ W, w4.alloc (.cells #[.slice hx.a0 hx.n0 hx.c0, .slice hx.a1 hx.n1 hx.c1, .bool hx.b, .slice hx.a2 hx.n2 hx.c2, .int .i64 ep, .slice lx ln lcx, .int .i64 su, .slice fx fn fcx, .int .i64 ha] 40) = W := ⟨_, rfl⟩
  have hb : Below w4.heap.size w4 w5 := by rw [← hw5]; exact (Below.refl _ _).alloc (Nat.le_refl _) _
  have B5 : Hid (Below w.heap.size w w5) := B4.out.trans (hb.mono B4.out.size)
  have X5 : Hid (Box w5 w.heap.size 30 #[.slice h.a0 h.n0 h.c0, .slice h.a1 h.n1 h.c1, .bool h.b, .slice h.a2 h.n2 h.c2, .int .i64 ep, .slice la ln lc, .int .i64 su, .slice fa fn fc, .int .i64 ha]) := X4.out.belowS hb
  have Y5 : Hid (Box w5 w4.heap.size 40 #[.slice hx.a0 hx.n0 hx.c0, .slice hx.a1 hx.n1 hx.c1, .bool hx.b, .slice hx.a2 hx.n2 hx.c2, .int .i64 ep, .slice lx ln lcx, .int .i64 su, .slice fx fn fcx, .int .i64 ha]) := by have := Box.new w4 #[.slice hx.a0 hx.n0 hx.c0, .slice hx.a1 hx.n1 hx.c1, .bool hx.b, .slice hx.a2 hx.n2 hx.c2, .int .i64 ep, .slice lx ln lcx, .int .i64 su, .slice fx fn fcx, .int .i64 ha] 40; rwa [hw5] at this
  have OX5 : Hid (OwnS w5 w3.heap.size w4.heap.size hx D lx ln lcx L fx fn fcx gx) := OX4.out.below hb
  clear hb B4 X4 OX4
  obtain ⟨rd5, rq5, rf5⟩ := OX5.out.rd
  have FG := FS.out.same SMX.out
  have hn5 : hx.n0 = h.n0 := by rw [← rd5.l0, RN.out]
  have C5 := c_implPB hx D ep lx ln lcx L su fx fn fcx gx ha w5 rd5 FG.1 rq5 FG.2.1.1 FG.2.1.2 rf5 FG.2.2.1 FG.2.2.2 (HT.out.below B5.out)
  rw [show okST D hx.n0 ep ln L su fn gx ha = okST D h.n0 ep ln L su fn F ha by rw [okST_same SMX.out, hn5], behB_same SMX.out, ← HOK.out.1, ← HOK.out.2] at C5
  have C5' : Hid (Calls _ _ _ _ _) := C5
  clear rd5 rq5 rf5 FG hn5 C5
  obtain ⟨u0, u1, u2, u3, u4, u5, u6, u7, u8⟩ := box9 Y5.out
  go_wp2_with fail
  refine C5'.out.mono ?_
  rintro e w6 ⟨rfl, hb⟩
  have B6 : Hid (Below w.heap.size w w6) := B5.out.trans (hb.mono B5.out.size)
  have X6 : Hid (Box w6 w.heap.size 30 #[.slice h.a0 h.n0 h.c0, .slice h.a1 h.n1 h.c1, .bool h.b, .slice h.a2 h.n2 h.c2, .int .i64 ep, .slice la ln lc, .int .i64 su, .slice fa fn fc, .int .i64 ha]) := X5.out.belowS hb
  have Y6 : Hid (Box w6 w4.heap.size 40 #[.slice hx.a0 hx.n0 hx.c0, .slice hx.a1 hx.n1 hx.c1, .bool hx.b, .slice hx.a2 hx.n2 hx.c2, .int .i64 ep, .slice lx ln lcx, .int .i64 su, .slice fx fn fcx, .int .i64 ha]) := Y5.out.belowS hb
  have OX6 : Hid (OwnS w6 w3.heap.size w4.heap.size hx D lx ln lcx L fx fn fcx gx) := OX5.out.below hb
  clear hb B5 X5 Y5 OX5 hw5 u0 u1 u2 u3 u4 u5 u6 u7 u8
  have CE : Hid (∀ W, Below w6.heap.size w6 W → ∀ h7 l7 lc7 f7 fc7 g7, SameF F g7 → OwnS W w6.heap.size W.heap.size h7 D l7 ln lc7 L f7 fn fc7 g7 → Calls Tryd.prog 9 #[.agg #[.slice hx.a0 hx.n0 hx.c0, .slice hx.a1 hx.n1 hx.c1, .bool hx.b, .slice hx.a2 hx.n2 hx.c2, .int .i64 ep, .slice lx ln lcx, .int .i64 su, .slice fx fn fcx, .int .i64 ha], .agg #[.slice h7.a0 h7.n0 h7.c0, .slice h7.a1 h7.n1 h7.c1, .bool h7.b, .slice h7.a2 h7.n2 h7.c2, .int .i64 ep, .slice l7 ln lc7, .int .i64 su, .slice f7 fn fc7, .int .i64 ha]] W fun e w' => e = .returned (.bool true) ∧ Below W.heap.size W w') := fun W hW h7 l7 lc7 f7 fc7 g7 s7 o7 => by
    obtain ⟨ra, rb, rc⟩ := (OX6.out.below hW).rd
    obtain ⟨rd, re, rf⟩ := o7.rd
    exact c_eqST hx h7 D ep lx l7 ln lcx lc7 L su fx f7 fn fcx fc7 gx g7 ha W ra rd rb re rc rf (SMX.out.symm.trans s7) (FS.out.same SMX.out)
  have nb : (ok != ok) = false := by simp
  have nk : (kk != kk) = false := by simp
  obtain ⟨x0, x1, x2, x3, x4, x5, x6, x7, x8⟩ := box9 X6.out
  obtain ⟨u0, u1, u2, u3, u4, u5, u6, u7, u8⟩ := box9 Y6.out
  go_wp2_with fail
  go_region_held3 (fun x => x.cell? ⟨w.heap.size, 0, none⟩ = some (.slice h.a0 h.n0 h.c0) ∧ x.cell? ⟨w.heap.size, 1, none⟩ = some (.slice h.a1 h.n1 h.c1) ∧ x.cell? ⟨w.heap.size, 2, none⟩ = some (.bool h.b) ∧ x.cell? ⟨w.heap.size, 3, none⟩ = some (.slice h.a2 h.n2 h.c2) ∧ x.cell? ⟨w.heap.size, 4, none⟩ = some (.int .i64 ep) ∧ x.cell? ⟨w.heap.size, 5, none⟩ = some (.slice la ln lc) ∧ x.cell? ⟨w.heap.size, 6, none⟩ = some (.int .i64 su) ∧ x.cell? ⟨w.heap.size, 7, none⟩ = some (.slice fa fn fc) ∧ x.cell? ⟨w.heap.size, 8, none⟩ = some (.int .i64 ha) ∧ x.cell? ⟨w4.heap.size, 0, none⟩ = some (.slice hx.a0 hx.n0 hx.c0) ∧ x.cell? ⟨w4.heap.size, 1, none⟩ = some (.slice hx.a1 hx.n1 hx.c1) ∧ x.cell? ⟨w4.heap.size, 2, none⟩ = some (.bool hx.b) ∧ x.cell? ⟨w4.heap.size, 3, none⟩ = some (.slice hx.a2 hx.n2 hx.c2) ∧ x.cell? ⟨w4.heap.size, 4, none⟩ = some (.int .i64 ep) ∧ x.cell? ⟨w4.heap.size, 5, none⟩ = some (.slice lx ln lcx) ∧ x.cell? ⟨w4.heap.size, 6, none⟩ = some (.int .i64 su) ∧ x.cell? ⟨w4.heap.size, 7, none⟩ = some (.slice fx fn fcx) ∧ x.cell? ⟨w4.heap.size, 8, none⟩ = some (.int .i64 ha))
    (first | exact ⟨far6 hb8 (far6 hb7 x0), far6 hb8 (far6 hb7 x1), far6 hb8 (far6 hb7 x2), far6 hb8 (far6 hb7 x3), far6 hb8 (far6 hb7 x4), far6 hb8 (far6 hb7 x5), far6 hb8 (far6 hb7 x6), far6 hb8 (far6 hb7 x7), far6 hb8 (far6 hb7 x8), far6 hb8 (far6 hb7 u0), far6 hb8 (far6 hb7 u1), far6 hb8 (far6 hb7 u2), far6 hb8 (far6 hb7 u3), far6 hb8 (far6 hb7 u4), far6 hb8 (far6 hb7 u5), far6 hb8 (far6 hb7 u6), far6 hb8 (far6 hb7 u7), far6 hb8 (far6 hb7 u8)⟩ | exact ⟨far6 hb7 x0, far6 hb7 x1, far6 hb7 x2, far6 hb7 x3, far6 hb7 x4, far6 hb7 x5, far6 hb7 x6, far6 hb7 x7, far6 hb7 x8, far6 hb7 u0, far6 hb7 u1, far6 hb7 u2, far6 hb7 u3, far6 hb7 u4, far6 hb7 u5, far6 hb7 u6, far6 hb7 u7, far6 hb7 u8⟩ | go_keep)
    (first | (go_at_call 7; refine (C2.out FS.out _ (below_drewN B6.out _)).mono ?_; rintro e wa ⟨⟨h7, l7, lc7, f7, fc7, g7, rfl, s7, o7⟩, hb7⟩)
           | (go_at_call 9; refine (CE.out _ ((Below.refl _ _).drew.trans hb7) h7 l7 lc7 f7 fc7 g7 s7 o7).mono ?_; rintro e w8 ⟨rfl, hb8⟩))
  have hb : Below w6.heap.size w6 w8 := ((Below.refl w6.heap.size w6).drew.trans hb7).trans (hb8.mono hb7.size)
  have B8 : Hid (Below w.heap.size w w8) := B6.out.trans (hb.mono B6.out.size)
  clear hb hb7 hb8 o7 s7 x0 x1 x2 x3 x4 x5 x6 x7 x8 u0 u1 u2 u3 u4 u5 u6 u7 u8
  go_wp2
  go_ret
  exact ⟨rfl, B8.out⟩

end Go.Proofs.YtcokbogicbdoaaaDoor
