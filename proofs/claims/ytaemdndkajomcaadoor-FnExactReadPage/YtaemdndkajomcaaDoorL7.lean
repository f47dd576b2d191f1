/-
  The walk of the law of ReadPage.
-/
import Derived.Test.YtaemdndkajomcaaDoorRy
namespace Go.Proofs.YtaemdndkajomcaaDoor
open Go Go.RowKit
attribute [local go_sem ↓] Go.wp_at_zero Go.wp_at_succ


set_option maxRecDepth 100000 in
set_option maxHeartbeats 8000000 in
theorem law_FnExactReadPage (no : Int) (a : Option Addr) (n cap : Nat) (zs : List Int) (R : DG) (c : Int) (w : World) (hr : RdV w a n (zs.map (Value.int .u8))) (hm : n ≤ maxLen) (fr : FitG R)
    (cs : n ≤ 1048576 → ∀ (W : World) (a2 : Option Addr) (c2 : Nat), Below w.heap.size w W → RdV W a2 n (zs.map (Value.int .u8)) → n ≤ c2 → Calls Tryd.prog 40 #[.int .i64 no, .slice a2 n c2] W fun e w' => (∃ h : HG, e = .returned (.tuple #[.agg #[.int .i64 h.l, .slice h.a h.n h.c], .int .i64 c]) ∧ OwnG w' W.heap.size w'.heap.size h R) ∧ Below W.heap.size W w')
    (ci : n ≤ 1048576 → ∀ (W : World) (a2 : Option Addr) (c2 : Nat), Below w.heap.size w W → RdV W a2 n (zs.map (Value.int .u8)) → n ≤ c2 → Calls Tryd.prog 26 #[.int .i64 no, .slice a2 n c2] W fun e w' => (∃ h : HG, e = .returned (.tuple #[.agg #[.int .i64 h.l, .slice h.a h.n h.c], .int .i64 c]) ∧ OwnG w' W.heap.size w'.heap.size h R) ∧ Below W.heap.size W w') :
    Calls Tryd.prog 7 #[.int .i64 no, .slice a n cap] w fun e w' => e = .returned (.bool true) ∧ Below w.heap.size w w' := by
  unfold maxLen at hm
  have HR : Hid (RdV w a n (zs.map (Value.int .u8))) := hr
  have FR : Hid (FitG R) := fr
  clear hr fr
  by_cases hbig : 1048576 < n
  · go_enter Tryd.func7, Tryd.ntmps7
    go_wp2
    go_ret
    exact ⟨rfl, Below.refl _ _⟩
  have hn : n ≤ 1048576 := by omega
  have CS : Hid (∀ (W : World) (a2 : Option Addr) (c2 : Nat), Below w.heap.size w W → RdV W a2 n (zs.map (Value.int .u8)) → n ≤ c2 → Calls Tryd.prog 40 #[.int .i64 no, .slice a2 n c2] W fun e w' => (∃ h : HG, e = .returned (.tuple #[.agg #[.int .i64 h.l, .slice h.a h.n h.c], .int .i64 c]) ∧ OwnG w' W.heap.size w'.heap.size h R) ∧ Below W.heap.size W w') := cs hn
  have CI : Hid (∀ (W : World) (a2 : Option Addr) (c2 : Nat), Below w.heap.size w W → RdV W a2 n (zs.map (Value.int .u8)) → n ≤ c2 → Calls Tryd.prog 26 #[.int .i64 no, .slice a2 n c2] W fun e w' => (∃ h : HG, e = .returned (.tuple #[.agg #[.int .i64 h.l, .slice h.a h.n h.c], .int .i64 c]) ∧ OwnG w' W.heap.size w'.heap.size h R) ∧ Below W.heap.size W w') := ci hn
  have TB : Hid (∀ W, Below w.heap.size w W → Calls Tryd.prog 41 #[.slice a n cap] W fun e w' => e = .returned (.slice (some ⟨W.heap.size, 0, none⟩) n n) ∧ w'.ownsRow W.heap.size 5 1 (.slice (some ⟨W.heap.size, 0, none⟩) n n) n (zs.map (Value.int .u8)) ∧ Below W.heap.size W w') := fun W hW => c_toB a n cap zs W (HR.out.below hW) hn
  have B0 : Hid (Below w.heap.size w w) := Below.refl _ _
  have hcc : (c != c) = false := by simp
  clear cs ci HR
  go_enter Tryd.func7, Tryd.ntmps7
  go_wp2_with fail
  refine (TB.out w B0.out).mono ?_
  rintro e w1 ⟨rfl, o1, hb⟩
  have T1 : Hid (RdV w1 (some ⟨w.heap.size, 0, none⟩) n (zs.map (Value.int .u8))) := RdV.own o1
  clear o1
  have B1 : Hid (Below w.heap.size w w1) := B0.out.trans (hb.mono B0.out.size)
  have q01 : w.heap.size ≤ w1.heap.size := hb.size
  clear B0 hb 
  go_wp2_with fail
  refine (CS.out w1 _ n B1.out T1.out (Nat.le_refl _)).mono ?_
  rintro e w2 ⟨⟨hw, rfl, ow⟩, hb⟩
  have OW2 : Hid (OwnG w2 w1.heap.size w2.heap.size hw R) := ow
  clear ow
  have B2 : Hid (Below w.heap.size w w2) := B1.out.trans (hb.mono B1.out.size)
  have q12 : w1.heap.size ≤ w2.heap.size := hb.size
  clear B1 hb 
  clear T1
  obtain ⟨w3, hw3⟩ : ∃ W, w2.alloc (.cells #[.int .i64 hw.l, .slice hw.a hw.n hw.c] 41) = W := ⟨_, rfl⟩
  have hb : Below w2.heap.size w2 w3 := by rw [← hw3]; exact (Below.refl _ _).alloc (Nat.le_refl _) _
  have YW3 : Hid (Box w3 w2.heap.size 41 #[.int .i64 hw.l, .slice hw.a hw.n hw.c]) := by have := Box.new w2 #[.int .i64 hw.l, .slice hw.a hw.n hw.c] 41; rwa [hw3] at this
  have B3 : Hid (Below w.heap.size w w3) := B2.out.trans (hb.mono B2.out.size)
  have OW3 : Hid (OwnG w3 w1.heap.size w2.heap.size hw R) := OW2.out.below hb
  have q23 : w2.heap.size ≤ w3.heap.size := hb.size
  clear B2 OW2 hb 
  have p3 : w2.heap.size < w3.heap.size := YW3.out.lt
  go_wp2_with fail
  refine (TB.out w3 B3.out).mono ?_
  rintro e w4 ⟨rfl, o4, hb⟩
  have OX4 : Hid (w4.ownsRow w3.heap.size 5 1 (.slice (some ⟨w3.heap.size, 0, none⟩) n n) n (zs.map (Value.int .u8))) := o4
  have x34 : w3.heap.size < w4.heap.size := (o4.lt w3.heap.size rfl).2
  clear o4
  have B4 : Hid (Below w.heap.size w w4) := B3.out.trans (hb.mono B3.out.size)
  have OW4 : Hid (OwnG w4 w1.heap.size w2.heap.size hw R) := OW3.out.below hb
  have YW4 : Hid (Box w4 w2.heap.size 41 #[.int .i64 hw.l, .slice hw.a hw.n hw.c]) := YW3.out.belowS hb
  have q34 : w3.heap.size ≤ w4.heap.size := hb.size
  clear B3 OW3 YW3 hb 
  go_wp2_with fail
  refine (CI.out w4 _ n B4.out (RdV.own OX4.out) (Nat.le_refl _)).mono ?_
  rintro e w5 ⟨⟨hg, rfl, ow⟩, hb⟩
  have OG5 : Hid (OwnG w5 w4.heap.size w5.heap.size hg R) := ow
  clear ow
  have B5 : Hid (Below w.heap.size w w5) := B4.out.trans (hb.mono B4.out.size)
  have OW5 : Hid (OwnG w5 w1.heap.size w2.heap.size hw R) := OW4.out.below hb
  have YW5 : Hid (Box w5 w2.heap.size 41 #[.int .i64 hw.l, .slice hw.a hw.n hw.c]) := YW4.out.belowS hb
  have OX5 : Hid (w5.ownsRow w3.heap.size 5 1 (.slice (some ⟨w3.heap.size, 0, none⟩) n n) n (zs.map (Value.int .u8))) := own_below OX4.out hb
  have q45 : w4.heap.size ≤ w5.heap.size := hb.size
  clear B4 OW4 YW4 OX4 hb 
  obtain ⟨w6, hw6⟩ : ∃ W, w5.alloc (.cells #[.int .i64 hg.l, .slice hg.a hg.n hg.c] 41) = W := ⟨_, rfl⟩
  have hb : Below w5.heap.size w5 w6 := by rw [← hw6]; exact (Below.refl _ _).alloc (Nat.le_refl _) _
  have YG6 : Hid (Box w6 w5.heap.size 41 #[.int .i64 hg.l, .slice hg.a hg.n hg.c]) := by have := Box.new w5 #[.int .i64 hg.l, .slice hg.a hg.n hg.c] 41; rwa [hw6] at this
  have B6 : Hid (Below w.heap.size w w6) := B5.out.trans (hb.mono B5.out.size)
  have OW6 : Hid (OwnG w6 w1.heap.size w2.heap.size hw R) := OW5.out.below hb
  have YW6 : Hid (Box w6 w2.heap.size 41 #[.int .i64 hw.l, .slice hw.a hw.n hw.c]) := YW5.out.belowS hb
  have OX6 : Hid (w6.ownsRow w3.heap.size 5 1 (.slice (some ⟨w3.heap.size, 0, none⟩) n n) n (zs.map (Value.int .u8))) := own_below OX5.out hb
  have OG6 : Hid (OwnG w6 w4.heap.size w5.heap.size hg R) := OG5.out.below hb
  have q56 : w5.heap.size ≤ w6.heap.size := hb.size
  clear B5 OW5 YW5 OX5 OG5 hb 
  have p6 : w5.heap.size < w6.heap.size := YG6.out.lt
  obtain ⟨v0, v1⟩ := box2 YG6.out
  obtain ⟨u0, u1⟩ := box2 YW6.out
  go_wp2_with fail
  refine (c_eqPage hg hw R w6 OG6.out.rd OW6.out.rd FR.out).mono ?_
  rintro e w7 ⟨rfl, hb⟩
  have B7 : Hid (Below w.heap.size w w7) := B6.out.trans (hb.mono B6.out.size)
  have OW7 : Hid (OwnG w7 w1.heap.size w2.heap.size hw R) := OW6.out.below hb
  have YW7 : Hid (Box w7 w2.heap.size 41 #[.int .i64 hw.l, .slice hw.a hw.n hw.c]) := YW6.out.belowS hb
  have OX7 : Hid (w7.ownsRow w3.heap.size 5 1 (.slice (some ⟨w3.heap.size, 0, none⟩) n n) n (zs.map (Value.int .u8))) := own_below OX6.out hb
  have OG7 : Hid (OwnG w7 w4.heap.size w5.heap.size hg R) := OG6.out.below hb
  have YG7 : Hid (Box w7 w5.heap.size 41 #[.int .i64 hg.l, .slice hg.a hg.n hg.c]) := YG6.out.belowS hb
  have q67 : w6.heap.size ≤ w7.heap.size := hb.size
  clear B6 OW6 YW6 OX6 OG6 YG6 hb v0 v1 u0 u1
  go_wp2_with fail
  refine (TB.out w7 B7.out).mono ?_
  rintro e w8 ⟨rfl, o8, hb⟩
  have T8 : Hid (RdV w8 (some ⟨w7.heap.size, 0, none⟩) n (zs.map (Value.int .u8))) := RdV.own o8
  clear o8
  have B8 : Hid (Below w.heap.size w w8) := B7.out.trans (hb.mono B7.out.size)
  have OW8 : Hid (OwnG w8 w1.heap.size w2.heap.size hw R) := OW7.out.below hb
  have YW8 : Hid (Box w8 w2.heap.size 41 #[.int .i64 hw.l, .slice hw.a hw.n hw.c]) := YW7.out.belowS hb
  have OX8 : Hid (w8.ownsRow w3.heap.size 5 1 (.slice (some ⟨w3.heap.size, 0, none⟩) n n) n (zs.map (Value.int .u8))) := own_below OX7.out hb
  have OG8 : Hid (OwnG w8 w4.heap.size w5.heap.size hg R) := OG7.out.below hb
  have YG8 : Hid (Box w8 w5.heap.size 41 #[.int .i64 hg.l, .slice hg.a hg.n hg.c]) := YG7.out.belowS hb
  have q78 : w7.heap.size ≤ w8.heap.size := hb.size
  clear B7 OW7 YW7 OX7 OG7 YG7 hb 
  go_wp2_with fail
  refine (c_eqB (some ⟨w3.heap.size, 0, none⟩) (some ⟨w7.heap.size, 0, none⟩) n n n n zs zs w8 (RdV.own OX8.out) T8.out hn hn).mono ?_
  rintro e w9 ⟨rfl, qq, hq⟩
  rw [decide_eq_true (rfl : zs = zs)]
  have hb : Below w8.heap.size w8 w9 := by rw [hq]; exact below_drewN (Below.refl _ _) qq
  clear hq T8
  have B9 : Hid (Below w.heap.size w w9) := B8.out.trans (hb.mono B8.out.size)
  have OW9 : Hid (OwnG w9 w1.heap.size w2.heap.size hw R) := OW8.out.below hb
  have YW9 : Hid (Box w9 w2.heap.size 41 #[.int .i64 hw.l, .slice hw.a hw.n hw.c]) := YW8.out.belowS hb
  have OX9 : Hid (w9.ownsRow w3.heap.size 5 1 (.slice (some ⟨w3.heap.size, 0, none⟩) n n) n (zs.map (Value.int .u8))) := own_below OX8.out hb
  have OG9 : Hid (OwnG w9 w4.heap.size w5.heap.size hg R) := OG8.out.below hb
  have YG9 : Hid (Box w9 w5.heap.size 41 #[.int .i64 hg.l, .slice hg.a hg.n hg.c]) := YG8.out.belowS hb
  have q89 : w8.heap.size ≤ w9.heap.size := hb.size
  clear B8 OW8 YW8 OX8 OG8 YG8 hb 
  go_wp2_with fail
  refine (c_markB w3.heap.size (.slice (some ⟨w3.heap.size, 0, none⟩) n n) n 1 _ w9 OX9.out (by omega) (by omega)).mono ?_
  rintro e w10 ⟨rfl, om, hgr⟩
  have hi : Inn w3.heap.size (w3.heap.size + 1) w9 w10 := Inn.of_grown hgr (fun g e => by have e' : w3.heap.size = g := Option.some.inj e; omega)
  clear om hgr
  have B10 : Hid (Below w.heap.size w w10) := B9.out.trans (hi.below (by omega) (by omega))
  have OW10 : Hid (OwnG w10 w1.heap.size w2.heap.size hw R) := OW9.out.inn hi (by omega)
  have YW10 : Hid (Box w10 w2.heap.size 41 #[.int .i64 hw.l, .slice hw.a hw.n hw.c]) := YW9.out.innO hi (by omega)
  have OG10 : Hid (OwnG w10 w4.heap.size w5.heap.size hg R) := OG9.out.inn hi (by omega)
  have YG10 : Hid (Box w10 w5.heap.size 41 #[.int .i64 hg.l, .slice hg.a hg.n hg.c]) := YG9.out.innO hi (by omega)
  have q910 : w9.heap.size ≤ w10.heap.size := hi.size
  clear hi B9 OW9 YW9 OX9 OG9 YG9
  have fr0 := FR.out.1
  have ng0 := OG10.out.rd.len
  obtain ⟨v0, v1⟩ := box2 YG10.out
  obtain ⟨u0, u1⟩ := box2 YW10.out
  go_wp2_with fail
  refine (c_eqPage hg hw R w10 OG10.out.rd OW10.out.rd FR.out).mono ?_
  rintro e w11 ⟨rfl, hb⟩
  have B11 : Hid (Below w.heap.size w w11) := B10.out.trans (hb.mono B10.out.size)
  have OW11 : Hid (OwnG w11 w1.heap.size w2.heap.size hw R) := OW10.out.below hb
  have YW11 : Hid (Box w11 w2.heap.size 41 #[.int .i64 hw.l, .slice hw.a hw.n hw.c]) := YW10.out.belowS hb
  have OG11 : Hid (OwnG w11 w4.heap.size w5.heap.size hg R) := OG10.out.below hb
  have YG11 : Hid (Box w11 w5.heap.size 41 #[.int .i64 hg.l, .slice hg.a hg.n hg.c]) := YG10.out.belowS hb
  have q1011 : w10.heap.size ≤ w11.heap.size := hb.size
  clear B10 OW10 YW10 OG10 YG10 hb v0 v1 u0 u1
  obtain ⟨v0, v1⟩ := box2 YG11.out
  go_wp2_with fail
  refine (c_markPage hg R w4.heap.size w5.heap.size w11 OG11.out (by omega)).mono ?_
  rintro e w12 ⟨rfl, om, hi⟩
  have OM12 : Hid (OwnG w12 w4.heap.size w5.heap.size hg (markG hg)) := om
  clear om v0 v1
  have B12 : Hid (Below w.heap.size w w12) := B11.out.trans (hi.below (by omega) (by omega))
  have OW12 : Hid (OwnG w12 w1.heap.size w2.heap.size hw R) := OW11.out.inn hi (by omega)
  have YW12 : Hid (Box w12 w2.heap.size 41 #[.int .i64 hw.l, .slice hw.a hw.n hw.c]) := YW11.out.innO hi (by omega)
  have YG12 : Hid (Box w12 w5.heap.size 41 #[.int .i64 hg.l, .slice hg.a hg.n hg.c]) := YG11.out.innO hi (by omega)
  have q1112 : w11.heap.size ≤ w12.heap.size := hi.size
  clear hi B11 OW11 YW11 OG11 YG11
  have hmm : (((1 + hg.n : Nat) : Int) != ((1 + hg.n : Nat) : Int)) = false := by simp
  obtain ⟨v0, v1⟩ := box2 YG12.out
  go_wp2_with fail
  refine (c_heldPage hg w12 OM12.out.rd (by omega)).mono ?_
  rintro e w13 ⟨rfl, hb⟩
  have B13 : Hid (Below w.heap.size w w13) := B12.out.trans (hb.mono B12.out.size)
  have OW13 : Hid (OwnG w13 w1.heap.size w2.heap.size hw R) := OW12.out.below hb
  have YW13 : Hid (Box w13 w2.heap.size 41 #[.int .i64 hw.l, .slice hw.a hw.n hw.c]) := YW12.out.belowS hb
  have YG13 : Hid (Box w13 w5.heap.size 41 #[.int .i64 hg.l, .slice hg.a hg.n hg.c]) := YG12.out.belowS hb
  have OM13 : Hid (OwnG w13 w4.heap.size w5.heap.size hg (markG hg)) := OM12.out.below hb
  have q1213 : w12.heap.size ≤ w13.heap.size := hb.size
  clear B12 OW12 YW12 YG12 OM12 hb v0 v1
  go_wp2_with fail
  refine (TB.out w13 B13.out).mono ?_
  rintro e w14 ⟨rfl, oy, hb⟩
  have TY : Hid (RdV w14 (some ⟨w13.heap.size, 0, none⟩) n (zs.map (Value.int .u8))) := RdV.own oy
  clear oy
  have B14 : Hid (Below w.heap.size w w14) := B13.out.trans (hb.mono B13.out.size)
  have OW14 : Hid (OwnG w14 w1.heap.size w2.heap.size hw R) := OW13.out.below hb
  have YW14 : Hid (Box w14 w2.heap.size 41 #[.int .i64 hw.l, .slice hw.a hw.n hw.c]) := YW13.out.belowS hb
  have YG14 : Hid (Box w14 w5.heap.size 41 #[.int .i64 hg.l, .slice hg.a hg.n hg.c]) := YG13.out.belowS hb
  have OM14 : Hid (OwnG w14 w4.heap.size w5.heap.size hg (markG hg)) := OM13.out.below hb
  have q1314 : w13.heap.size ≤ w14.heap.size := hb.size
  clear B13 OW13 YW13 YG13 OM13 hb 
  go_wp2_with fail
  refine (CI.out w14 _ n B14.out TY.out (Nat.le_refl _)).mono ?_
  rintro e w15 ⟨⟨hz, rfl, ow⟩, hb⟩
  have OZ15 : Hid (OwnG w15 w14.heap.size w15.heap.size hz R) := ow
  clear ow
  have B15 : Hid (Below w.heap.size w w15) := B14.out.trans (hb.mono B14.out.size)
  have OW15 : Hid (OwnG w15 w1.heap.size w2.heap.size hw R) := OW14.out.below hb
  have YW15 : Hid (Box w15 w2.heap.size 41 #[.int .i64 hw.l, .slice hw.a hw.n hw.c]) := YW14.out.belowS hb
  have YG15 : Hid (Box w15 w5.heap.size 41 #[.int .i64 hg.l, .slice hg.a hg.n hg.c]) := YG14.out.belowS hb
  have OM15 : Hid (OwnG w15 w4.heap.size w5.heap.size hg (markG hg)) := OM14.out.below hb
  have q1415 : w14.heap.size ≤ w15.heap.size := hb.size
  clear B14 OW14 YW14 YG14 OM14 hb 
  clear TY
  obtain ⟨w16, hw16⟩ : ∃ W, w15.alloc (.cells #[.int .i64 hz.l, .slice hz.a hz.n hz.c] 41) = W := ⟨_, rfl⟩
  have hb : Below w15.heap.size w15 w16 := by rw [← hw16]; exact (Below.refl _ _).alloc (Nat.le_refl _) _
  have YZ16 : Hid (Box w16 w15.heap.size 41 #[.int .i64 hz.l, .slice hz.a hz.n hz.c]) := by have := Box.new w15 #[.int .i64 hz.l, .slice hz.a hz.n hz.c] 41; rwa [hw16] at this
  have B16 : Hid (Below w.heap.size w w16) := B15.out.trans (hb.mono B15.out.size)
  have OW16 : Hid (OwnG w16 w1.heap.size w2.heap.size hw R) := OW15.out.below hb
  have YW16 : Hid (Box w16 w2.heap.size 41 #[.int .i64 hw.l, .slice hw.a hw.n hw.c]) := YW15.out.belowS hb
  have YG16 : Hid (Box w16 w5.heap.size 41 #[.int .i64 hg.l, .slice hg.a hg.n hg.c]) := YG15.out.belowS hb
  have OM16 : Hid (OwnG w16 w4.heap.size w5.heap.size hg (markG hg)) := OM15.out.below hb
  have OZ16 : Hid (OwnG w16 w14.heap.size w15.heap.size hz R) := OZ15.out.below hb
  have q1516 : w15.heap.size ≤ w16.heap.size := hb.size
  clear B15 OW15 YW15 YG15 OM15 OZ15 hb 
  have p16 : w15.heap.size < w16.heap.size := YZ16.out.lt
  obtain ⟨v0, v1⟩ := box2 YZ16.out
  obtain ⟨u0, u1⟩ := box2 YW16.out
  go_wp2_with fail
  refine (c_eqPage hz hw R w16 OZ16.out.rd OW16.out.rd FR.out).mono ?_
  rintro e w17 ⟨rfl, hb⟩
  have B17 : Hid (Below w.heap.size w w17) := B16.out.trans (hb.mono B16.out.size)
  have OW17 : Hid (OwnG w17 w1.heap.size w2.heap.size hw R) := OW16.out.below hb
  have YW17 : Hid (Box w17 w2.heap.size 41 #[.int .i64 hw.l, .slice hw.a hw.n hw.c]) := YW16.out.belowS hb
  have YG17 : Hid (Box w17 w5.heap.size 41 #[.int .i64 hg.l, .slice hg.a hg.n hg.c]) := YG16.out.belowS hb
  have OM17 : Hid (OwnG w17 w4.heap.size w5.heap.size hg (markG hg)) := OM16.out.below hb
  have OZ17 : Hid (OwnG w17 w14.heap.size w15.heap.size hz R) := OZ16.out.below hb
  have YZ17 : Hid (Box w17 w15.heap.size 41 #[.int .i64 hz.l, .slice hz.a hz.n hz.c]) := YZ16.out.belowS hb
  have q1617 : w16.heap.size ≤ w17.heap.size := hb.size
  clear B16 OW16 YW16 YG16 OM16 OZ16 YZ16 hb v0 v1 u0 u1
  obtain ⟨v0, v1⟩ := box2 YG17.out
  go_wp2_with fail
  refine (c_heldPage hg w17 OM17.out.rd (by omega)).mono ?_
  rintro e w18 ⟨rfl, hb⟩
  have B18 : Hid (Below w.heap.size w w18) := B17.out.trans (hb.mono B17.out.size)
  have OW18 : Hid (OwnG w18 w1.heap.size w2.heap.size hw R) := OW17.out.below hb
  have YW18 : Hid (Box w18 w2.heap.size 41 #[.int .i64 hw.l, .slice hw.a hw.n hw.c]) := YW17.out.belowS hb
  have YG18 : Hid (Box w18 w5.heap.size 41 #[.int .i64 hg.l, .slice hg.a hg.n hg.c]) := YG17.out.belowS hb
  have OM18 : Hid (OwnG w18 w4.heap.size w5.heap.size hg (markG hg)) := OM17.out.below hb
  have OZ18 : Hid (OwnG w18 w14.heap.size w15.heap.size hz R) := OZ17.out.below hb
  have YZ18 : Hid (Box w18 w15.heap.size 41 #[.int .i64 hz.l, .slice hz.a hz.n hz.c]) := YZ17.out.belowS hb
  have q1718 : w17.heap.size ≤ w18.heap.size := hb.size
  clear B17 OW17 YW17 YG17 OM17 OZ17 YZ17 hb v0 v1
  go_wp2
  go_ret
  exact ⟨rfl, B18.out⟩
end Go.Proofs.YtaemdndkajomcaaDoor
