/-
  The walk of the law of DirtyPages.
-/
import Derived.Test.YtkpopingbbaomaaGreatDoorYnjq
import Derived.Test.YtkpopingbbaomaaGreatDoorYngq
import Derived.Deep.RegionHeld3
namespace Go.Proofs.YtkpopingbbaomaaGreatDoor
open Go Go.RowKit
attribute [local go_sem ↓] Go.wp_at_zero Go.wp_at_succ

theorem arF_says2 (last : Int) : ∀ (fs gs : List FF) (tk : List Nat), fs.map saysF = gs.map saysF → arF last tk fs = arF last tk gs
  | [], [], _, _ => rfl
  | [], _ :: _, _, h => by cases h
  | _ :: _, [], _, h => by cases h
  | f :: fs, g :: gs, tk, h => by
    simp only [List.map_cons, List.cons.injEq, saysF, Prod.mk.injEq] at h
    obtain ⟨⟨h1, h2, h3, h4⟩, h5⟩ := h
    show (okFr f.no f.D f.d f.fi last && (!(tk.contains f.no.toNat) && arF last (f.no.toNat :: tk) fs)) = (okFr g.no g.D g.d g.fi last && (!(tk.contains g.no.toNat) && arF last (g.no.toNat :: tk) gs))
    rw [h1, h2, h3, h4, arF_says2 last fs gs _ h5]
theorem okST_same2 {D : DD} {n0 m0 : Nat} {ep : Int} {ln : Nat} {L : List DR} {su : Int} {fn : Nat} {F gs : List FF} {ha : Int} (h : SameF F gs) (e : m0 = n0) : okST D m0 ep ln L su fn gs ha = okST D n0 ep ln L su fn F ha := by
  subst e
  unfold okST
  rw [arF_says2 _ gs F [] h.symm]
theorem FitS.same2 {D : DD} {ln : Nat} {L : List DR} {fn : Nat} {F gs : List FF} (h : FitS D ln L fn F) (s : SameF F gs) : FitS D ln L fn gs :=
  ⟨h.1, h.2.1, h.2.2.1, fun i hi => by
    have := s.at i
    simp only [saysF, Prod.mk.injEq] at this
    rw [← this.2.1]
    exact h.2.2.2 i hi⟩
theorem dtB_says (no : Int) : ∀ (fs gs : List FF), fs.map saysF = gs.map saysF → dtB no fs = dtB no gs
  | [], [], _ => rfl
  | [], _ :: _, h => by cases h
  | _ :: _, [], h => by cases h
  | f :: fs, g :: gs, h => by
    simp only [List.map_cons, List.cons.injEq, saysF, Prod.mk.injEq] at h
    obtain ⟨⟨h1, h2, h3, h4⟩, h5⟩ := h
    show (if f.no = no then f.d else dtB no fs) = (if g.no = no then g.d else dtB no gs)
    rw [h1, h3, dtB_says no fs gs h5]
theorem dpR_same {ok : Bool} {F gs : List FF} (h : SameF F gs) : dpR ok gs = dpR ok F := by
  unfold dpR dpS
  have : dtA gs = dtA F := by funext no; rw [dtA_eq, dtA_eq, dtB_says _ gs F h.symm]
  rw [this]
theorem dpR_len (ok : Bool) (F : List FF) : (dpR ok F).length ≤ 8 := by
  unfold dpR
  split
  · exact dpS_len F 8
  · exact Nat.zero_le _
/-- How great a copy's lists can be. -/
theorem OwnT.fits {w : World} {B E : Nat} {h : HD} {D : DD} {la : Option Addr} {ln lc : Nat} {Lg : List DR} {fa : Option Addr} {fn fc : Nat} {F : List FF} (o : OwnT w B E h D la ln lc Lg fa fn fc F) (hf : FitS D ln Lg fn F) : h.n0 ≤ 1048576 ∧ h.n1 ≤ 1048576 ∧ h.n2 ≤ 1048576 ∧ ∀ f ∈ F, f.h.n ≤ 1048576 := by
  have hr := o.rd
  obtain ⟨d0, d1, l0, l1, f0, f1, p1, hh, o1, o2, o3, o4, o5⟩ := o
  have a0 := hr.1.l0
  have a1 := hr.1.l1
  have a2 : D.K.length = h.n2 := by have := hr.1.2.2.2.1; simpa using this
  have hl := hr.2.2.1
  refine ⟨by have := hf.1.1; omega, by have := hf.1.2.1; omega, by have := hf.1.2.2.1; omega, fun f hm => ?_⟩
  obtain ⟨i, hi, rfl⟩ := List.mem_iff_getElem.1 hm
  have hg := o4 i hi
  have hfg := hf.2.2.2 i (by omega)
  rw [List.getD_eq_getElem?_getD, List.getElem?_eq_getElem hi] at hg hfg
  have hn := hg.2.1.1
  simp only [Option.getD_some, List.length_map, Nat.mul_one] at hn
  have := hfg.1
  simp only [Option.getD_some] at this
  omega
set_option maxRecDepth 100000 in
set_option maxHeartbeats 8000000 in
theorem law_FnExactDirtyPages (h : HD) (D : DD) (ep : Int) (la : Option Addr) (ln lc : Nat) (L : List DR) (su : Int) (fa : Option Addr) (fn fc : Nat) (F : List FF) (ha : Int) (w : World) (r : RdD w h D) (ht : TabH w) (m0 : h.n0 ≤ maxLen) (m1 : h.n1 ≤ maxLen) (m2 : h.n2 ≤ maxLen) (s0 : ∀ s ∈ D.S, s.size ≤ maxLen) (s1 : ∀ p ∈ D.C, p.2.size ≤ maxLen) (rl : RdQ w la ln L) (hln : ln ≤ maxLen) (hls : ∀ v ∈ L, v.b.size ≤ maxLen ∧ v.a.size ≤ maxLen) (rf : RdF w fa fn F) (hfn : fn ≤ maxLen) (hfs : ∀ i, i < fn → (F.getD i zeroF).h.n ≤ maxLen ∧ ∀ s ∈ (F.getD i zeroF).D.S, s.size ≤ maxLen) :
    Calls Tryz.prog 11 #[.agg #[.slice h.a0 h.n0 h.c0, .slice h.a1 h.n1 h.c1, .bool h.b, .slice h.a2 h.n2 h.c2, .int .i64 ep, .slice la ln lc, .int .i64 su, .slice fa fn fc, .int .i64 ha]] w fun e w' => e = .returned (.bool true) ∧ Below w.heap.size w w' := by
  obtain ⟨V, hV⟩ : ∃ V, w.alloc (.cells #[.slice h.a0 h.n0 h.c0, .slice h.a1 h.n1 h.c1, .bool h.b, .slice h.a2 h.n2 h.c2, .int .i64 ep, .slice la ln lc, .int .i64 su, .slice fa fn fc, .int .i64 ha] 30) = V := ⟨_, rfl⟩
  have B0 : Hid (Below w.heap.size w V) := by unfold Hid; rw [← hV]; exact (Below.refl _ _).alloc (Nat.le_refl _) _
  have X0 : Hid (Box V w.heap.size 30 #[.slice h.a0 h.n0 h.c0, .slice h.a1 h.n1 h.c1, .bool h.b, .slice h.a2 h.n2 h.c2, .int .i64 ep, .slice la ln lc, .int .i64 su, .slice fa fn fc, .int .i64 ha]) := by unfold Hid; rw [← hV]; exact Box.new _ _ _
  have C1 := c_szST h D ep la ln lc L su fa fn fc F ha 1048576 V (r.below B0.out) m0 m1 m2 s0 s1 (rl.below B0.out) hln hls (rf.below B0.out) hfn hfs (by omega) (by omega)
  have C2 : Hid (FitS D ln L fn F → ∀ W, Below w.heap.size w W → Calls Tryz.prog 38 #[.agg #[.slice h.a0 h.n0 h.c0, .slice h.a1 h.n1 h.c1, .bool h.b, .slice h.a2 h.n2 h.c2, .int .i64 ep, .slice la ln lc, .int .i64 su, .slice fa fn fc, .int .i64 ha]] W fun e w' => (∃ (h' : HD) (la' : Option Addr) (lc' : Nat) (fa' : Option Addr) (fc' : Nat) (gs : List FF), e = .returned (.agg #[.slice h'.a0 h'.n0 h'.c0, .slice h'.a1 h'.n1 h'.c1, .bool h'.b, .slice h'.a2 h'.n2 h'.c2, .int .i64 ep, .slice la' ln lc', .int .i64 su, .slice fa' fn fc', .int .i64 ha]) ∧ SameF F gs ∧ OwnS w' W.heap.size w'.heap.size h' D la' ln lc' L fa' fn fc' gs ∧ PwF gs) ∧ Below W.heap.size W w') := fun hf W hW => c_toST2 h D ep la ln lc L su fa fn fc F ha W (r.below hW) (rl.below hW) (rf.below hW) hf
  obtain ⟨R, hR⟩ : ∃ R, R = dpR (okST D h.n0 ep ln L su fn F ha) F := ⟨_, rfl⟩
  obtain ⟨cd, hcd⟩ : ∃ c, c = dpC (okST D h.n0 ep ln L su fn F ha) := ⟨_, rfl⟩
  have hRl : R.length ≤ 8 := by rw [hR]; exact dpR_len _ _
  have HT : Hid (TabH w) := ht
  have RN : D.S.length = h.n0 := r.l0
  have CS : Hid (FitS D ln L fn F → ∀ W h2 l2 lc2 f2 fc2 g2, SameF F g2 → RdD W h2 D → RdQ W l2 ln L → RdF W f2 fn g2 → Calls Tryz.prog 44 #[.agg #[.slice h2.a0 h2.n0 h2.c0, .slice h2.a1 h2.n1 h2.c1, .bool h2.b, .slice h2.a2 h2.n2 h2.c2, .int .i64 ep, .slice l2 ln lc2, .int .i64 su, .slice f2 fn fc2, .int .i64 ha]] W fun e w' => (∃ a' c', e = .returned (.tuple #[.slice a' R.length c', .int .i64 cd]) ∧ w'.ownsRow W.heap.size 3 1 (.slice a' R.length c') R.length (R.map (Value.int .i64))) ∧ Below W.heap.size W w') := fun hf W h2 l2 lc2 f2 fc2 g2 sm rd rq rf => by
    have FG := hf.same2 sm
    have C := c_specDP h2 ep l2 ln lc2 su f2 fn fc2 ha D L g2 W rd FG.1 rq FG.2.1.1 FG.2.1.2 rf FG.2.2.1 FG.2.2.2
    rw [okST_same2 sm (rd.l0.symm.trans RN), dpR_same sm, ← hR, ← hcd] at C
    exact C
  have CI : Hid (FitS D ln L fn F → ∀ W h2 l2 lc2 f2 fc2 g2, SameF F g2 → RdD W h2 D → RdQ W l2 ln L → RdF W f2 fn g2 → TabH W → Calls Tryz.prog 45 #[.agg #[.slice h2.a0 h2.n0 h2.c0, .slice h2.a1 h2.n1 h2.c1, .bool h2.b, .slice h2.a2 h2.n2 h2.c2, .int .i64 ep, .slice l2 ln lc2, .int .i64 su, .slice f2 fn fc2, .int .i64 ha]] W fun e w' => (∃ a' c', e = .returned (.tuple #[.slice a' R.length c', .int .i64 cd]) ∧ w'.ownsRow W.heap.size 3 1 (.slice a' R.length c') R.length (R.map (Value.int .i64))) ∧ Below W.heap.size W w') := fun hf W h2 l2 lc2 f2 fc2 g2 sm rd rq rf ht => by
    have FG := hf.same2 sm
    have C := c_implDP h2 ep l2 ln lc2 su f2 fn fc2 ha D L g2 W rd FG.1 rq FG.2.1.1 FG.2.1.2 rf FG.2.2.1 FG.2.2.2 ht
    rw [okST_same2 sm (rd.l0.symm.trans RN), dpR_same sm, ← hR, ← hcd] at C
    exact C
  clear r ht m0 m1 m2 s0 s1 rl hln hls rf hfn hfs hR hcd RN
  obtain ⟨x0, x1, x2, x3, x4, x5, x6, x7, x8⟩ := box9 X0.out
  go_enter Tryz.func11, Tryz.ntmps11
  go_wp2_with fail
  refine C1.mono ?_
  rintro e w1 ⟨⟨z, rfl, hz, hf⟩, hb⟩
  have B1 : Hid (Below w.heap.size w w1) := B0.out.trans (hb.mono B0.out.size)
  have X1 : Hid (Box w1 w.heap.size 30 #[.slice h.a0 h.n0 h.c0, .slice h.a1 h.n1 h.c1, .bool h.b, .slice h.a2 h.n2 h.c2, .int .i64 ep, .slice la ln lc, .int .i64 su, .slice fa fn fc, .int .i64 ha]) := X0.out.belowS hb
  clear hb B0 X0 C1 hV x0 x1 x2 x3 x4 x5 x6 x7 x8
  by_cases hneg : z < 0
  · clear hf
    go_wp2
    go_ret
    exact ⟨rfl, B1.out⟩
  have FS : Hid (FitS D ln L fn F) := hf (by omega)
  clear hf
  obtain ⟨x0, x1, x2, x3, x4, x5, x6, x7, x8⟩ := box9 X1.out
  go_wp2_with fail
  refine (C2.out FS.out w1 B1.out).mono ?_
  rintro e w2 ⟨⟨h2, l2, lc2, f2, fc2, g2, rfl, sm2, o2, _⟩, hb⟩
  have B2 : Hid (Below w.heap.size w w2) := B1.out.trans (hb.mono B1.out.size)
  have X2 : Hid (Box w2 w.heap.size 30 #[.slice h.a0 h.n0 h.c0, .slice h.a1 h.n1 h.c1, .bool h.b, .slice h.a2 h.n2 h.c2, .int .i64 ep, .slice la ln lc, .int .i64 su, .slice fa fn fc, .int .i64 ha]) := X1.out.belowS hb
  obtain ⟨rd2, rq2, rf2⟩ := o2.rd
  have C3 : Hid (Calls _ _ _ _ _) := CS.out FS.out w2 h2 l2 lc2 f2 fc2 g2 sm2 rd2 rq2 rf2
  clear hb B1 X1 x0 x1 x2 x3 x4 x5 x6 x7 x8 rd2 rq2 rf2 o2 sm2 CS
  go_wp2_with fail
  refine C3.out.mono ?_
  rintro e w3 ⟨⟨aw, cw, rfl, ow⟩, hb⟩
  have B3 : Hid (Below w.heap.size w w3) := B2.out.trans (hb.mono B2.out.size)
  have X3 : Hid (Box w3 w.heap.size 30 #[.slice h.a0 h.n0 h.c0, .slice h.a1 h.n1 h.c1, .bool h.b, .slice h.a2 h.n2 h.c2, .int .i64 ep, .slice la ln lc, .int .i64 su, .slice fa fn fc, .int .i64 ha]) := X2.out.belowS hb
  have s3 : w.heap.size < w3.heap.size := X3.out.lt
  have OW3 : Hid (w3.ownsRow 0 3 1 (.slice aw R.length cw) R.length (R.map (Value.int .i64))) := ow.down (Nat.zero_le _)
  have OB3 : Hid (∀ g, ob aw = some g → g < w3.heap.size) := fun g e => by rw [← ob_slice aw R.length cw] at e; exact (ow.lt g e).2
  clear hb B2 X2 C3 ow
  obtain ⟨x0, x1, x2, x3, x4, x5, x6, x7, x8⟩ := box9 X3.out
  go_wp2_with fail
  refine (C2.out FS.out w3 B3.out).mono ?_
  rintro e w4 ⟨⟨hx, lx, lcx, fx, fcx, gx, rfl, smx, ox, px⟩, hb⟩
  have B4 : Hid (Below w.heap.size w w4) := B3.out.trans (hb.mono B3.out.size)
  have X4 : Hid (Box w4 w.heap.size 30 #[.slice h.a0 h.n0 h.c0, .slice h.a1 h.n1 h.c1, .bool h.b, .slice h.a2 h.n2 h.c2, .int .i64 ep, .slice la ln lc, .int .i64 su, .slice fa fn fc, .int .i64 ha]) := X3.out.belowS hb
  have OX4 : Hid (OwnT w4 w3.heap.size w4.heap.size hx D lx ln lcx L fx fn fcx gx) := ox.own px
  have SMX : Hid (SameF F gx) := smx
  have OW4 : Hid (w4.ownsRow 0 3 1 (.slice aw R.length cw) R.length (R.map (Value.int .i64))) := own_below OW3.out hb
  have s4 : w3.heap.size ≤ w4.heap.size := hb.size
  clear hb B3 X3 x0 x1 x2 x3 x4 x5 x6 x7 x8 ox px smx OW3
  obtain ⟨w5, hw5⟩ : ∃ W, w4.alloc (.cells #[.slice hx.a0 hx.n0 hx.c0, .slice hx.a1 hx.n1 hx.c1, .bool hx.b, .slice hx.a2 hx.n2 hx.c2, .int .i64 ep, .slice lx ln lcx, .int .i64 su, .slice fx fn fcx, .int .i64 ha] 46) = W := ⟨_, rfl⟩
  have hb : Below w4.heap.size w4 w5 := by rw [← hw5]; exact (Below.refl _ _).alloc (Nat.le_refl _) _
  have B5 : Hid (Below w.heap.size w w5) := B4.out.trans (hb.mono B4.out.size)
  have X5 : Hid (Box w5 w.heap.size 30 #[.slice h.a0 h.n0 h.c0, .slice h.a1 h.n1 h.c1, .bool h.b, .slice h.a2 h.n2 h.c2, .int .i64 ep, .slice la ln lc, .int .i64 su, .slice fa fn fc, .int .i64 ha]) := X4.out.belowS hb
  have Y5 : Hid (Box w5 w4.heap.size 46 #[.slice hx.a0 hx.n0 hx.c0, .slice hx.a1 hx.n1 hx.c1, .bool hx.b, .slice hx.a2 hx.n2 hx.c2, .int .i64 ep, .slice lx ln lcx, .int .i64 su, .slice fx fn fcx, .int .i64 ha]) := by have := Box.new w4 #[.slice hx.a0 hx.n0 hx.c0, .slice hx.a1 hx.n1 hx.c1, .bool hx.b, .slice hx.a2 hx.n2 hx.c2, .int .i64 ep, .slice lx ln lcx, .int .i64 su, .slice fx fn fcx, .int .i64 ha] 46; rwa [hw5] at this
  have s5 : w4.heap.size < w5.heap.size := Y5.out.lt
  have OX5 : Hid (OwnT w5 w3.heap.size w4.heap.size hx D lx ln lcx L fx fn fcx gx) := OX4.out.below hb
  have OW5 : Hid (w5.ownsRow 0 3 1 (.slice aw R.length cw) R.length (R.map (Value.int .i64))) := own_below OW4.out hb
  obtain ⟨rd5, rq5, rf5⟩ := OX5.out.rd
  have C5 : Hid (Calls _ _ _ _ _) := CI.out FS.out w5 hx lx lcx fx fcx gx SMX.out rd5 rq5 rf5 (HT.out.below B5.out)
  clear hb B4 X4 OX4 OW4 rd5 rq5 rf5
  obtain ⟨u0, u1, u2, u3, u4, u5, u6, u7, u8⟩ := box9 Y5.out
  go_wp2_with fail
  refine C5.out.mono ?_
  rintro e w6 ⟨⟨ag, cg, rfl, og⟩, hb⟩
  have B6 : Hid (Below w.heap.size w w6) := B5.out.trans (hb.mono B5.out.size)
  have X6 : Hid (Box w6 w.heap.size 30 #[.slice h.a0 h.n0 h.c0, .slice h.a1 h.n1 h.c1, .bool h.b, .slice h.a2 h.n2 h.c2, .int .i64 ep, .slice la ln lc, .int .i64 su, .slice fa fn fc, .int .i64 ha]) := X5.out.belowS hb
  have Y6 : Hid (Box w6 w4.heap.size 46 #[.slice hx.a0 hx.n0 hx.c0, .slice hx.a1 hx.n1 hx.c1, .bool hx.b, .slice hx.a2 hx.n2 hx.c2, .int .i64 ep, .slice lx ln lcx, .int .i64 su, .slice fx fn fcx, .int .i64 ha]) := Y5.out.belowS hb
  have OX6 : Hid (OwnT w6 w3.heap.size w4.heap.size hx D lx ln lcx L fx fn fcx gx) := OX5.out.below hb
  have OW6 : Hid (w6.ownsRow 0 3 1 (.slice aw R.length cw) R.length (R.map (Value.int .i64))) := own_below OW5.out hb
  have OG6 : Hid (w6.ownsRow w5.heap.size 3 1 (.slice ag R.length cg) R.length (R.map (Value.int .i64))) := og
  have OBG : Hid (∀ g, ob ag = some g → w5.heap.size ≤ g) := fun g e => by rw [← ob_slice ag R.length cg] at e; exact (og.lt g e).1
  have s6 : w5.heap.size ≤ w6.heap.size := hb.size
  clear hb B5 X5 Y5 OX5 OW5 hw5 og C5 u0 u1 u2 u3 u4 u5 u6 u7 u8
  have CQ : Hid (∀ (W : World) (a c : _), W.ownsRow 0 3 1 (.slice a R.length c) R.length (R.map (Value.int .i64)) → W.ownsRow 0 3 1 (.slice aw R.length cw) R.length (R.map (Value.int .i64)) → Calls Tryz.prog 27 #[.slice a R.length c, .slice aw R.length cw] W fun e w' => e = .returned (.bool true) ∧ ∃ q, w' = W.drewN q) := fun W a c o1 o2 => by
    have C := c_eqI a aw R.length c R.length cw R R W (RdV.own o1) (RdV.own o2) (by omega) (by omega)
    rw [decide_eq_true rfl] at C
    exact C
  have nc : (cd != cd) = false := by simp
  go_wp2_with fail
  refine (CQ.out w6 ag cg (OG6.out.down (Nat.zero_le _)) OW6.out).mono ?_
  rintro e w6' ⟨rfl, q6, hq6⟩
  obtain ⟨v6, hv6⟩ : ∃ v, v = w6' := ⟨_, rfl⟩
  have hb : Below w6.heap.size w6 w6' := by rw [hq6]; exact below_drewN (Below.refl _ _) _
  have B7 : Hid (Below w.heap.size w w6') := B6.out.trans (hb.mono B6.out.size)
  have X7 : Hid (Box w6' w.heap.size 30 #[.slice h.a0 h.n0 h.c0, .slice h.a1 h.n1 h.c1, .bool h.b, .slice h.a2 h.n2 h.c2, .int .i64 ep, .slice la ln lc, .int .i64 su, .slice fa fn fc, .int .i64 ha]) := X6.out.belowS hb
  have Y7 : Hid (Box w6' w4.heap.size 46 #[.slice hx.a0 hx.n0 hx.c0, .slice hx.a1 hx.n1 hx.c1, .bool hx.b, .slice hx.a2 hx.n2 hx.c2, .int .i64 ep, .slice lx ln lcx, .int .i64 su, .slice fx fn fcx, .int .i64 ha]) := Y6.out.belowS hb
  have OX7 : Hid (OwnT w6' w3.heap.size w4.heap.size hx D lx ln lcx L fx fn fcx gx) := OX6.out.below hb
  have OW7 : Hid (w6'.ownsRow 0 3 1 (.slice aw R.length cw) R.length (R.map (Value.int .i64))) := own_below OW6.out hb
  have OG7 : Hid (w6'.ownsRow w5.heap.size 3 1 (.slice ag R.length cg) R.length (R.map (Value.int .i64))) := own_below OG6.out hb
  have s7 : w6.heap.size ≤ w6'.heap.size := hb.size
  clear hb hq6 v6 hv6 B6 X6 Y6 OX6 OW6 OG6
  have CE : Hid (∀ W, Below w6'.heap.size w6' W → ∀ h7 l7 lc7 f7 fc7 g7, SameF F g7 → OwnS W w6'.heap.size W.heap.size h7 D l7 ln lc7 L f7 fn fc7 g7 → Calls Tryz.prog 41 #[.agg #[.slice hx.a0 hx.n0 hx.c0, .slice hx.a1 hx.n1 hx.c1, .bool hx.b, .slice hx.a2 hx.n2 hx.c2, .int .i64 ep, .slice lx ln lcx, .int .i64 su, .slice fx fn fcx, .int .i64 ha], .agg #[.slice h7.a0 h7.n0 h7.c0, .slice h7.a1 h7.n1 h7.c1, .bool h7.b, .slice h7.a2 h7.n2 h7.c2, .int .i64 ep, .slice l7 ln lc7, .int .i64 su, .slice f7 fn fc7, .int .i64 ha]] W fun e w' => e = .returned (.bool true) ∧ Below W.heap.size W w') := fun W hW h7 l7 lc7 f7 fc7 g7 s7 o7 => by
    obtain ⟨ra, rb, rc⟩ := (OX7.out.below hW).rd
    obtain ⟨rd, re, rf⟩ := o7.rd
    exact c_eqST hx h7 D ep lx l7 ln lcx lc7 L su fx f7 fn fcx fc7 gx g7 ha W ra rd rb re rc rf (SMX.out.symm.trans s7) (FS.out.same2 SMX.out)
  obtain ⟨x0, x1, x2, x3, x4, x5, x6, x7, x8⟩ := box9 X7.out
  obtain ⟨u0, u1, u2, u3, u4, u5, u6, u7, u8⟩ := box9 Y7.out
  go_wp2_with fail
  go_region_held3 (fun x => x.cell? ⟨w.heap.size, 0, none⟩ = some (.slice h.a0 h.n0 h.c0) ∧ x.cell? ⟨w.heap.size, 1, none⟩ = some (.slice h.a1 h.n1 h.c1) ∧ x.cell? ⟨w.heap.size, 2, none⟩ = some (.bool h.b) ∧ x.cell? ⟨w.heap.size, 3, none⟩ = some (.slice h.a2 h.n2 h.c2) ∧ x.cell? ⟨w.heap.size, 4, none⟩ = some (.int .i64 ep) ∧ x.cell? ⟨w.heap.size, 5, none⟩ = some (.slice la ln lc) ∧ x.cell? ⟨w.heap.size, 6, none⟩ = some (.int .i64 su) ∧ x.cell? ⟨w.heap.size, 7, none⟩ = some (.slice fa fn fc) ∧ x.cell? ⟨w.heap.size, 8, none⟩ = some (.int .i64 ha) ∧ x.cell? ⟨w4.heap.size, 0, none⟩ = some (.slice hx.a0 hx.n0 hx.c0) ∧ x.cell? ⟨w4.heap.size, 1, none⟩ = some (.slice hx.a1 hx.n1 hx.c1) ∧ x.cell? ⟨w4.heap.size, 2, none⟩ = some (.bool hx.b) ∧ x.cell? ⟨w4.heap.size, 3, none⟩ = some (.slice hx.a2 hx.n2 hx.c2) ∧ x.cell? ⟨w4.heap.size, 4, none⟩ = some (.int .i64 ep) ∧ x.cell? ⟨w4.heap.size, 5, none⟩ = some (.slice lx ln lcx) ∧ x.cell? ⟨w4.heap.size, 6, none⟩ = some (.int .i64 su) ∧ x.cell? ⟨w4.heap.size, 7, none⟩ = some (.slice fx fn fcx) ∧ x.cell? ⟨w4.heap.size, 8, none⟩ = some (.int .i64 ha))
    (first | exact ⟨far6 hb8 (far6 hb7 x0), far6 hb8 (far6 hb7 x1), far6 hb8 (far6 hb7 x2), far6 hb8 (far6 hb7 x3), far6 hb8 (far6 hb7 x4), far6 hb8 (far6 hb7 x5), far6 hb8 (far6 hb7 x6), far6 hb8 (far6 hb7 x7), far6 hb8 (far6 hb7 x8), far6 hb8 (far6 hb7 u0), far6 hb8 (far6 hb7 u1), far6 hb8 (far6 hb7 u2), far6 hb8 (far6 hb7 u3), far6 hb8 (far6 hb7 u4), far6 hb8 (far6 hb7 u5), far6 hb8 (far6 hb7 u6), far6 hb8 (far6 hb7 u7), far6 hb8 (far6 hb7 u8)⟩ | exact ⟨far6 hb7 x0, far6 hb7 x1, far6 hb7 x2, far6 hb7 x3, far6 hb7 x4, far6 hb7 x5, far6 hb7 x6, far6 hb7 x7, far6 hb7 x8, far6 hb7 u0, far6 hb7 u1, far6 hb7 u2, far6 hb7 u3, far6 hb7 u4, far6 hb7 u5, far6 hb7 u6, far6 hb7 u7, far6 hb7 u8⟩ | go_keep)
    (first | (go_at_call 38; refine (C2.out FS.out _ (below_drewN B7.out _)).mono ?_; rintro e wa ⟨⟨h7, l7, lc7, f7, fc7, g7, rfl, s7', o7, _⟩, hb7⟩)
           | (go_at_call 41; refine (CE.out _ ((Below.refl _ _).drew.trans hb7) h7 l7 lc7 f7 fc7 g7 s7' o7).mono ?_; rintro e w8 ⟨rfl, hb8⟩))
  have hb : Below w6'.heap.size w6' w8 := ((Below.refl w6'.heap.size w6').drew.trans hb7).trans (hb8.mono hb7.size)
  have B8 : Hid (Below w.heap.size w w8) := B7.out.trans (hb.mono B7.out.size)
  have X8 : Hid (Box w8 w.heap.size 30 #[.slice h.a0 h.n0 h.c0, .slice h.a1 h.n1 h.c1, .bool h.b, .slice h.a2 h.n2 h.c2, .int .i64 ep, .slice la ln lc, .int .i64 su, .slice fa fn fc, .int .i64 ha]) := X7.out.belowS hb
  have Y8 : Hid (Box w8 w4.heap.size 46 #[.slice hx.a0 hx.n0 hx.c0, .slice hx.a1 hx.n1 hx.c1, .bool hx.b, .slice hx.a2 hx.n2 hx.c2, .int .i64 ep, .slice lx ln lcx, .int .i64 su, .slice fx fn fcx, .int .i64 ha]) := Y7.out.belowS hb
  have OX8 : Hid (OwnT w8 w3.heap.size w4.heap.size hx D lx ln lcx L fx fn fcx gx) := OX7.out.below hb
  have OW8 : Hid (w8.ownsRow 0 3 1 (.slice aw R.length cw) R.length (R.map (Value.int .i64))) := own_below OW7.out hb
  have OG8 : Hid (w8.ownsRow w5.heap.size 3 1 (.slice ag R.length cg) R.length (R.map (Value.int .i64))) := own_below OG7.out hb
  have s8 : w6'.heap.size ≤ w8.heap.size := hb.size
  have FT := OX8.out.fits (FS.out.same2 SMX.out)
  have FSX := FS.out.same2 SMX.out
  have CM : Hid (Calls _ _ _ _ _) := c_markST hx D ep lx ln lcx L su fx fn fcx gx ha w3.heap.size w4.heap.size w8 OX8.out FT.1 FT.2.1 FT.2.2.1 FSX.2.1.1 FSX.2.2.1 FT.2.2.2
  clear hb hb7 hb8 o7 s7' x0 x1 x2 x3 x4 x5 x6 x7 x8 u0 u1 u2 u3 u4 u5 u6 u7 u8 B7 X7 Y7 OX7 OW7 OG7 CE FT FSX
  obtain ⟨u0, u1, u2, u3, u4, u5, u6, u7, u8⟩ := box9 Y8.out
  go_wp2_with fail
  refine CM.out.mono ?_
  rintro e w9 ⟨rfl, _, inn⟩
  have s9 : w8.heap.size ≤ w9.heap.size := inn.size
  have B9 : Hid (Below w.heap.size w w9) := B8.out.trans (inn.below (by omega) (by have := B8.out.size; omega))
  have X9 : Hid (Box w9 w.heap.size 30 #[.slice h.a0 h.n0 h.c0, .slice h.a1 h.n1 h.c1, .bool h.b, .slice h.a2 h.n2 h.c2, .int .i64 ep, .slice la ln lc, .int .i64 su, .slice fa fn fc, .int .i64 ha]) := (inn.block w.heap.size (by omega) (.inl s3)).trans X8.out
  have OW9 : Hid (w9.ownsRow 0 3 1 (.slice aw R.length cw) R.length (R.map (Value.int .i64))) := own_same OW8.out fun g e => by rw [ob_slice] at e; have := OB3.out g e; exact inn.block g (by omega) (.inl this)
  have OG9 : Hid (w9.ownsRow w5.heap.size 3 1 (.slice ag R.length cg) R.length (R.map (Value.int .i64))) := own_same OG8.out fun g e => by rw [ob_slice] at e; have := OBG.out g e; have hl := (OG8.out.lt g (by rw [ob_slice]; exact e)).2; exact inn.block g hl (.inr (by omega))
  obtain ⟨mk, hmk⟩ : ∃ mk, mk = mkE hx ln gx := ⟨_, rfl⟩
  rw [← hmk]
  clear inn CM u0 u1 u2 u3 u4 u5 u6 u7 u8 B8 X8 Y8 OX8 OW8 OG8 hmk
  have cmk : ¬ (mk : Int) < 0 := by omega
  go_wp2_with fail
  refine (CQ.out w9 ag cg (OG9.out.down (Nat.zero_le _)) OW9.out).mono ?_
  rintro e w10 ⟨rfl, q9, hq9⟩
  have hb : Below w9.heap.size w9 w10 := by rw [hq9]; exact below_drewN (Below.refl _ _) _
  have B10 : Hid (Below w.heap.size w w10) := B9.out.trans (hb.mono B9.out.size)
  have X10 : Hid (Box w10 w.heap.size 30 #[.slice h.a0 h.n0 h.c0, .slice h.a1 h.n1 h.c1, .bool h.b, .slice h.a2 h.n2 h.c2, .int .i64 ep, .slice la ln lc, .int .i64 su, .slice fa fn fc, .int .i64 ha]) := X9.out.belowS hb
  have OW10 : Hid (w10.ownsRow 0 3 1 (.slice aw R.length cw) R.length (R.map (Value.int .i64))) := own_below OW9.out hb
  have OG10 : Hid (w10.ownsRow w5.heap.size 3 1 (.slice ag R.length cg) R.length (R.map (Value.int .i64))) := own_below OG9.out hb
  have s10 : w9.heap.size ≤ w10.heap.size := hb.size
  have C11 : Hid (Calls _ _ _ _ _) := c_markI2 w5.heap.size (.slice ag R.length cg) R.length 1 _ w10 OG10.out (by omega) (by omega)
  clear hb hq9 B9 X9 OW9 OG9 cmk
  go_wp2_with fail
  refine C11.out.mono ?_
  rintro e w11 ⟨rfl, og11, gr11⟩
  rw [ob_slice] at gr11
  have s11 : w10.heap.size ≤ w11.heap.size := gr11.size
  have B11 : Hid (Below w.heap.size w w11) := B10.out.grown gr11 B10.out.size (fun g e => by have := OBG.out g e; omega)
  have X11 : Hid (Box w11 w.heap.size 30 #[.slice h.a0 h.n0 h.c0, .slice h.a1 h.n1 h.c1, .bool h.b, .slice h.a2 h.n2 h.c2, .int .i64 ep, .slice la ln lc, .int .i64 su, .slice fa fn fc, .int .i64 ha]) := (gr11.block w.heap.size (by have := X10.out.lt; omega) (fun e => by have := OBG.out _ e.symm; omega)).trans X10.out
  have OW11 : Hid (w11.ownsRow 0 3 1 (.slice aw R.length cw) R.length (R.map (Value.int .i64))) := own_same OW10.out fun g e => by rw [ob_slice] at e; have h1 := OB3.out g e; exact gr11.block g (by omega) (fun e2 => by have := OBG.out g e2.symm; omega)
  have OG11 : Hid (w11.ownsRow w5.heap.size 3 1 (.slice ag R.length cg) R.length ((marksI 1 R.length).map (Value.int .i64))) := og11
  have CH : Hid (∀ W, W.ownsRow w5.heap.size 3 1 (.slice ag R.length cg) R.length ((marksI 1 R.length).map (Value.int .i64)) → Calls Tryz.prog 46 #[.slice ag R.length cg, .int .i64 ((1 : Nat) : Int)] W fun e w' => e = .returned (.int .i64 (1 + R.length : Nat)) ∧ w' = W) := fun W o => c_heldI2 ag R.length cg 1 W (RdV.own o) (by omega) (by omega)
  clear og11 gr11 C11 B10 X10 OW10 OG10
  go_wp2_with fail
  refine (CH.out w11 OG11.out).mono ?_
  rintro e w11' ⟨rfl, hw11⟩
  have hw11' := hw11.symm
  subst hw11'
  clear hw11
  have cr1 : ¬ ((1 + R.length : Nat) : Int) < 0 := by omega
  have cr2 : (((1 + R.length : Nat) : Int) != ((1 + R.length : Nat) : Int)) = false := by simp
  obtain ⟨x0, x1, x2, x3, x4, x5, x6, x7, x8⟩ := box9 X11.out
  go_wp2_with fail
  refine (C2.out FS.out w11 B11.out).mono ?_
  rintro e w12 ⟨⟨h8, l8, lc8, f8, fc8, g8, rfl, sm8, o8, _⟩, hb⟩
  have B12 : Hid (Below w.heap.size w w12) := B11.out.trans (hb.mono B11.out.size)
  have OW12 : Hid (w12.ownsRow 0 3 1 (.slice aw R.length cw) R.length (R.map (Value.int .i64))) := own_below OW11.out hb
  have OG12 : Hid (w12.ownsRow w5.heap.size 3 1 (.slice ag R.length cg) R.length ((marksI 1 R.length).map (Value.int .i64))) := own_below OG11.out hb
  obtain ⟨rd8, rq8, rf8⟩ := o8.rd
  have C12 : Hid (Calls _ _ _ _ _) := CI.out FS.out w12 h8 l8 lc8 f8 fc8 g8 sm8 rd8 rq8 rf8 (HT.out.below B12.out)
  clear hb B11 X11 OW11 OG11 x0 x1 x2 x3 x4 x5 x6 x7 x8 rd8 rq8 rf8 o8 sm8
  go_wp2_with fail
  refine C12.out.mono ?_
  rintro e w13 ⟨⟨ah, ch, rfl, oh⟩, hb⟩
  have B13 : Hid (Below w.heap.size w w13) := B12.out.trans (hb.mono B12.out.size)
  have OW13 : Hid (w13.ownsRow 0 3 1 (.slice aw R.length cw) R.length (R.map (Value.int .i64))) := own_below OW12.out hb
  have OG13 : Hid (w13.ownsRow w5.heap.size 3 1 (.slice ag R.length cg) R.length ((marksI 1 R.length).map (Value.int .i64))) := own_below OG12.out hb
  have OH13 : Hid (w13.ownsRow 0 3 1 (.slice ah R.length ch) R.length (R.map (Value.int .i64))) := oh.down (Nat.zero_le _)
  clear hb oh B12 OW12 OG12 C12
  go_wp2_with fail
  refine (CQ.out w13 ah ch OH13.out OW13.out).mono ?_
  rintro e w14 ⟨rfl, q13, hq13⟩
  have hb : Below w13.heap.size w13 w14 := by rw [hq13]; exact below_drewN (Below.refl _ _) _
  have B14 : Hid (Below w.heap.size w w14) := B13.out.trans (hb.mono B13.out.size)
  have OG14 : Hid (w14.ownsRow w5.heap.size 3 1 (.slice ag R.length cg) R.length ((marksI 1 R.length).map (Value.int .i64))) := own_below OG13.out hb
  clear hb hq13 B13 OW13 OG13 OH13
  go_wp2_with fail
  refine (CH.out w14 OG14.out).mono ?_
  rintro e w15 ⟨rfl, hw15⟩
  have hw15' := hw15.symm
  subst hw15'
  clear hw15
  go_wp2
  go_ret
  exact ⟨rfl, B14.out⟩

end Go.Proofs.YtkpopingbbaomaaGreatDoor
