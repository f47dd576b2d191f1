/-
  The walk of the law of NewDisk.
-/
import Derived.Test.YtiinhcffpgchoaaL10
namespace Go.Proofs.Ytiinhcffpgchoaa
open Go Go.RowKit
attribute [local go_sem ↓] Go.wp_at_zero Go.wp_at_succ


set_option maxHeartbeats 8000000 in
theorem law5 (x : Int) (R : DD) (c : Int) (w : World) (fr : Fit R) (cs : ∀ (W : World), Calls Try.prog 27 #[.int .i64 x] W fun e w' => (∃ h' : HD, e = .returned (.tuple #[.agg #[.slice h'.a0 h'.n0 h'.c0, .slice h'.a1 h'.n1 h'.c1, .bool h'.b, .slice h'.a2 h'.n2 h'.c2], .int .i64 c]) ∧ OwnD w' W.heap.size w'.heap.size h' R) ∧ Below W.heap.size W w') (ci : ∀ (W : World), Calls Try.prog 26 #[.int .i64 x] W fun e w' => (∃ h' : HD, e = .returned (.tuple #[.agg #[.slice h'.a0 h'.n0 h'.c0, .slice h'.a1 h'.n1 h'.c1, .bool h'.b, .slice h'.a2 h'.n2 h'.c2], .int .i64 c]) ∧ OwnD w' W.heap.size w'.heap.size h' R) ∧ Below W.heap.size W w') :
    Calls Try.prog 5 #[.int .i64 x] w fun e w' => e = .returned (.bool true) ∧ Below w.heap.size w w' := by
  have FR : Hid (Fit R) := fr
  have CS : Hid (∀ (W : World), Calls Try.prog 27 #[.int .i64 x] W fun e w' => (∃ h' : HD, e = .returned (.tuple #[.agg #[.slice h'.a0 h'.n0 h'.c0, .slice h'.a1 h'.n1 h'.c1, .bool h'.b, .slice h'.a2 h'.n2 h'.c2], .int .i64 c]) ∧ OwnD w' W.heap.size w'.heap.size h' R) ∧ Below W.heap.size W w') := cs
  have CI : Hid (∀ (W : World), Calls Try.prog 26 #[.int .i64 x] W fun e w' => (∃ h' : HD, e = .returned (.tuple #[.agg #[.slice h'.a0 h'.n0 h'.c0, .slice h'.a1 h'.n1 h'.c1, .bool h'.b, .slice h'.a2 h'.n2 h'.c2], .int .i64 c]) ∧ OwnD w' W.heap.size w'.heap.size h' R) ∧ Below W.heap.size W w') := ci
  clear fr cs ci
  go_enter Try.func5, Try.ntmps5
  go_wp2_with fail
  refine (CS.out w).mono ?_
  rintro e w1 ⟨⟨hw, rfl, ow⟩, hb⟩
  have B1 : Hid (Below w.heap.size w w1) := hb
  have q01 : w.heap.size ≤ w1.heap.size := hb.size
  have OW1 : Hid (OwnD w1 w.heap.size w1.heap.size hw R) := ow
  clear hb ow
  obtain ⟨w2, hw2⟩ : ∃ W, w1.alloc (.cells #[.slice hw.a0 hw.n0 hw.c0, .slice hw.a1 hw.n1 hw.c1, .bool hw.b, .slice hw.a2 hw.n2 hw.c2] 27) = W := ⟨_, rfl⟩
  have hb : Below w1.heap.size w1 w2 := by rw [← hw2]; exact (Below.refl _ _).alloc (Nat.le_refl _) _
  have YW2 : Hid (Box w2 w1.heap.size 27 #[.slice hw.a0 hw.n0 hw.c0, .slice hw.a1 hw.n1 hw.c1, .bool hw.b, .slice hw.a2 hw.n2 hw.c2]) := by have := Box.new w1 #[.slice hw.a0 hw.n0 hw.c0, .slice hw.a1 hw.n1 hw.c1, .bool hw.b, .slice hw.a2 hw.n2 hw.c2] 27; rwa [hw2] at this
  have B2 : Hid (Below w.heap.size w w2) := B1.out.trans (hb.mono B1.out.size)
  have OW2 : Hid (OwnD w2 w.heap.size w1.heap.size hw R) := OW1.out.below hb
  have q12 : w1.heap.size ≤ w2.heap.size := hb.size
  clear B1 OW1 hb 
  have p2 : w1.heap.size < w2.heap.size := YW2.out.lt
  go_wp2_with fail
  refine (CI.out w2).mono ?_
  rintro e w3 ⟨⟨hg, rfl, og⟩, hb⟩
  have OG3 : Hid (OwnD w3 w2.heap.size w3.heap.size hg R) := og
  clear og
  have B3 : Hid (Below w.heap.size w w3) := B2.out.trans (hb.mono B2.out.size)
  have OW3 : Hid (OwnD w3 w.heap.size w1.heap.size hw R) := OW2.out.below hb
  have YW3 : Hid (Box w3 w1.heap.size 27 #[.slice hw.a0 hw.n0 hw.c0, .slice hw.a1 hw.n1 hw.c1, .bool hw.b, .slice hw.a2 hw.n2 hw.c2]) := YW2.out.belowS hb
  have q23 : w2.heap.size ≤ w3.heap.size := hb.size
  clear B2 OW2 YW2 hb 
  obtain ⟨w4, hw4⟩ : ∃ W, w3.alloc (.cells #[.slice hg.a0 hg.n0 hg.c0, .slice hg.a1 hg.n1 hg.c1, .bool hg.b, .slice hg.a2 hg.n2 hg.c2] 27) = W := ⟨_, rfl⟩
  have hb : Below w3.heap.size w3 w4 := by rw [← hw4]; exact (Below.refl _ _).alloc (Nat.le_refl _) _
  have YG4 : Hid (Box w4 w3.heap.size 27 #[.slice hg.a0 hg.n0 hg.c0, .slice hg.a1 hg.n1 hg.c1, .bool hg.b, .slice hg.a2 hg.n2 hg.c2]) := by have := Box.new w3 #[.slice hg.a0 hg.n0 hg.c0, .slice hg.a1 hg.n1 hg.c1, .bool hg.b, .slice hg.a2 hg.n2 hg.c2] 27; rwa [hw4] at this
  have B4 : Hid (Below w.heap.size w w4) := B3.out.trans (hb.mono B3.out.size)
  have OW4 : Hid (OwnD w4 w.heap.size w1.heap.size hw R) := OW3.out.below hb
  have YW4 : Hid (Box w4 w1.heap.size 27 #[.slice hw.a0 hw.n0 hw.c0, .slice hw.a1 hw.n1 hw.c1, .bool hw.b, .slice hw.a2 hw.n2 hw.c2]) := YW3.out.belowS hb
  have OG4 : Hid (OwnD w4 w2.heap.size w3.heap.size hg R) := OG3.out.below hb
  have q34 : w3.heap.size ≤ w4.heap.size := hb.size
  clear B3 OW3 YW3 OG3 hb 
  have p4 : w3.heap.size < w4.heap.size := YG4.out.lt
  have hcc : (c != c) = false := by simp
  obtain ⟨v0, v1, v2, v3⟩ := box4 YG4.out
  obtain ⟨u0, u1, u2, u3⟩ := box4 YW4.out
  go_wp2_with fail
  refine (c_eqDisk hg hw R w4 OG4.out.rd OW4.out.rd FR.out).mono ?_
  rintro e w5 ⟨rfl, hb⟩
  have B5 : Hid (Below w.heap.size w w5) := B4.out.trans (hb.mono B4.out.size)
  have OW5 : Hid (OwnD w5 w.heap.size w1.heap.size hw R) := OW4.out.below hb
  have YW5 : Hid (Box w5 w1.heap.size 27 #[.slice hw.a0 hw.n0 hw.c0, .slice hw.a1 hw.n1 hw.c1, .bool hw.b, .slice hw.a2 hw.n2 hw.c2]) := YW4.out.belowS hb
  have OG5 : Hid (OwnD w5 w2.heap.size w3.heap.size hg R) := OG4.out.below hb
  have YG5 : Hid (Box w5 w3.heap.size 27 #[.slice hg.a0 hg.n0 hg.c0, .slice hg.a1 hg.n1 hg.c1, .bool hg.b, .slice hg.a2 hg.n2 hg.c2]) := YG4.out.belowS hb
  have q45 : w4.heap.size ≤ w5.heap.size := hb.size
  clear B4 OW4 YW4 OG4 YG4 hb v0 v1 v2 v3 u0 u1 u2 u3
  have ng0 := OG5.out.rd.l0
  have ng1 := OG5.out.rd.l1
  have ng2 := OG5.out.rd.l2
  have fr0 := FR.out.1
  have fr1 := FR.out.2.1
  have fr2 := FR.out.2.2.1
  obtain ⟨v0, v1, v2, v3⟩ := box4 YG5.out
  go_wp2_with fail
  refine (c_markDisk hg R w2.heap.size w3.heap.size w5 OG5.out (by omega) (by omega) (by omega)).mono ?_
  rintro e w6 ⟨rfl, om, hi⟩
  have OM6 : Hid (OwnD w6 w2.heap.size w3.heap.size hg (markD hg)) := om
  clear om v0 v1 v2 v3
  have B6 : Hid (Below w.heap.size w w6) := B5.out.trans (hi.below (by omega) (by omega))
  have OW6 : Hid (OwnD w6 w.heap.size w1.heap.size hw R) := OW5.out.inn hi (by omega)
  have YW6 : Hid (Box w6 w1.heap.size 27 #[.slice hw.a0 hw.n0 hw.c0, .slice hw.a1 hw.n1 hw.c1, .bool hw.b, .slice hw.a2 hw.n2 hw.c2]) := YW5.out.innO hi (by omega)
  have YG6 : Hid (Box w6 w3.heap.size 27 #[.slice hg.a0 hg.n0 hg.c0, .slice hg.a1 hg.n1 hg.c1, .bool hg.b, .slice hg.a2 hg.n2 hg.c2]) := YG5.out.innO hi (by omega)
  have q56 : w5.heap.size ≤ w6.heap.size := hi.size
  clear hi B5 OW5 YW5 OG5 YG5
  have hmg : markN hg ≤ 4194305 := by unfold markN; omega
  have hmm : ((markN hg : Int) != (markN hg : Int)) = false := by simp
  obtain ⟨v0, v1, v2, v3⟩ := box4 YG6.out
  go_wp2_with fail
  refine (c_heldDisk hg w6 OM6.out.rd (by omega) (by omega) (by omega)).mono ?_
  rintro e w7 ⟨rfl, hb⟩
  have B7 : Hid (Below w.heap.size w w7) := B6.out.trans (hb.mono B6.out.size)
  have OW7 : Hid (OwnD w7 w.heap.size w1.heap.size hw R) := OW6.out.below hb
  have YW7 : Hid (Box w7 w1.heap.size 27 #[.slice hw.a0 hw.n0 hw.c0, .slice hw.a1 hw.n1 hw.c1, .bool hw.b, .slice hw.a2 hw.n2 hw.c2]) := YW6.out.belowS hb
  have YG7 : Hid (Box w7 w3.heap.size 27 #[.slice hg.a0 hg.n0 hg.c0, .slice hg.a1 hg.n1 hg.c1, .bool hg.b, .slice hg.a2 hg.n2 hg.c2]) := YG6.out.belowS hb
  have OM7 : Hid (OwnD w7 w2.heap.size w3.heap.size hg (markD hg)) := OM6.out.below hb
  have q67 : w6.heap.size ≤ w7.heap.size := hb.size
  clear B6 OW6 YW6 YG6 OM6 hb v0 v1 v2 v3
  go_wp2_with fail
  refine (CI.out w7).mono ?_
  rintro e w8 ⟨⟨hz, rfl, oz⟩, hb⟩
  have TZ8 : Hid (RdD w8 hz R) := oz.rd
  clear oz
  have B8 : Hid (Below w.heap.size w w8) := B7.out.trans (hb.mono B7.out.size)
  have OW8 : Hid (OwnD w8 w.heap.size w1.heap.size hw R) := OW7.out.below hb
  have YW8 : Hid (Box w8 w1.heap.size 27 #[.slice hw.a0 hw.n0 hw.c0, .slice hw.a1 hw.n1 hw.c1, .bool hw.b, .slice hw.a2 hw.n2 hw.c2]) := YW7.out.belowS hb
  have YG8 : Hid (Box w8 w3.heap.size 27 #[.slice hg.a0 hg.n0 hg.c0, .slice hg.a1 hg.n1 hg.c1, .bool hg.b, .slice hg.a2 hg.n2 hg.c2]) := YG7.out.belowS hb
  have OM8 : Hid (OwnD w8 w2.heap.size w3.heap.size hg (markD hg)) := OM7.out.below hb
  have q78 : w7.heap.size ≤ w8.heap.size := hb.size
  clear B7 OW7 YW7 YG7 OM7 hb 
  have TZ9 : Hid (∀ W, Below w8.heap.size w8 W → RdD W hz R) := fun W hW => TZ8.out.below hW
  obtain ⟨w9, hw9⟩ : ∃ W, w8.alloc (.cells #[.slice hz.a0 hz.n0 hz.c0, .slice hz.a1 hz.n1 hz.c1, .bool hz.b, .slice hz.a2 hz.n2 hz.c2] 27) = W := ⟨_, rfl⟩
  have hb : Below w8.heap.size w8 w9 := by rw [← hw9]; exact (Below.refl _ _).alloc (Nat.le_refl _) _
  have YZ9 : Hid (Box w9 w8.heap.size 27 #[.slice hz.a0 hz.n0 hz.c0, .slice hz.a1 hz.n1 hz.c1, .bool hz.b, .slice hz.a2 hz.n2 hz.c2]) := by have := Box.new w8 #[.slice hz.a0 hz.n0 hz.c0, .slice hz.a1 hz.n1 hz.c1, .bool hz.b, .slice hz.a2 hz.n2 hz.c2] 27; rwa [hw9] at this
  have B9 : Hid (Below w.heap.size w w9) := B8.out.trans (hb.mono B8.out.size)
  have OW9 : Hid (OwnD w9 w.heap.size w1.heap.size hw R) := OW8.out.below hb
  have YW9 : Hid (Box w9 w1.heap.size 27 #[.slice hw.a0 hw.n0 hw.c0, .slice hw.a1 hw.n1 hw.c1, .bool hw.b, .slice hw.a2 hw.n2 hw.c2]) := YW8.out.belowS hb
  have YG9 : Hid (Box w9 w3.heap.size 27 #[.slice hg.a0 hg.n0 hg.c0, .slice hg.a1 hg.n1 hg.c1, .bool hg.b, .slice hg.a2 hg.n2 hg.c2]) := YG8.out.belowS hb
  have OM9 : Hid (OwnD w9 w2.heap.size w3.heap.size hg (markD hg)) := OM8.out.below hb
  have q89 : w8.heap.size ≤ w9.heap.size := hb.size
  clear B8 OW8 YW8 YG8 OM8 hb 
  have p9 : w8.heap.size < w9.heap.size := YZ9.out.lt
  have TZZ : Hid (RdD w9 hz R) := TZ9.out _ (by rw [← hw9]; exact (Below.refl _ _).alloc (Nat.le_refl _) _)
  obtain ⟨v0, v1, v2, v3⟩ := box4 YZ9.out
  obtain ⟨u0, u1, u2, u3⟩ := box4 YW9.out
  go_wp2_with fail
  refine (c_eqDisk hz hw R w9 TZZ.out OW9.out.rd FR.out).mono ?_
  rintro e w10 ⟨rfl, hb⟩
  have B10 : Hid (Below w.heap.size w w10) := B9.out.trans (hb.mono B9.out.size)
  have OW10 : Hid (OwnD w10 w.heap.size w1.heap.size hw R) := OW9.out.below hb
  have YW10 : Hid (Box w10 w1.heap.size 27 #[.slice hw.a0 hw.n0 hw.c0, .slice hw.a1 hw.n1 hw.c1, .bool hw.b, .slice hw.a2 hw.n2 hw.c2]) := YW9.out.belowS hb
  have YG10 : Hid (Box w10 w3.heap.size 27 #[.slice hg.a0 hg.n0 hg.c0, .slice hg.a1 hg.n1 hg.c1, .bool hg.b, .slice hg.a2 hg.n2 hg.c2]) := YG9.out.belowS hb
  have OM10 : Hid (OwnD w10 w2.heap.size w3.heap.size hg (markD hg)) := OM9.out.below hb
  have YZ10 : Hid (Box w10 w8.heap.size 27 #[.slice hz.a0 hz.n0 hz.c0, .slice hz.a1 hz.n1 hz.c1, .bool hz.b, .slice hz.a2 hz.n2 hz.c2]) := YZ9.out.belowS hb
  have q910 : w9.heap.size ≤ w10.heap.size := hb.size
  clear B9 OW9 YW9 YG9 OM9 YZ9 hb v0 v1 v2 v3 u0 u1 u2 u3
  obtain ⟨v0, v1, v2, v3⟩ := box4 YG10.out
  go_wp2_with fail
  refine (c_heldDisk hg w10 OM10.out.rd (by omega) (by omega) (by omega)).mono ?_
  rintro e w11 ⟨rfl, hb⟩
  have B11 : Hid (Below w.heap.size w w11) := B10.out.trans (hb.mono B10.out.size)
  have OW11 : Hid (OwnD w11 w.heap.size w1.heap.size hw R) := OW10.out.below hb
  have YW11 : Hid (Box w11 w1.heap.size 27 #[.slice hw.a0 hw.n0 hw.c0, .slice hw.a1 hw.n1 hw.c1, .bool hw.b, .slice hw.a2 hw.n2 hw.c2]) := YW10.out.belowS hb
  have YG11 : Hid (Box w11 w3.heap.size 27 #[.slice hg.a0 hg.n0 hg.c0, .slice hg.a1 hg.n1 hg.c1, .bool hg.b, .slice hg.a2 hg.n2 hg.c2]) := YG10.out.belowS hb
  have OM11 : Hid (OwnD w11 w2.heap.size w3.heap.size hg (markD hg)) := OM10.out.below hb
  have YZ11 : Hid (Box w11 w8.heap.size 27 #[.slice hz.a0 hz.n0 hz.c0, .slice hz.a1 hz.n1 hz.c1, .bool hz.b, .slice hz.a2 hz.n2 hz.c2]) := YZ10.out.belowS hb
  have q1011 : w10.heap.size ≤ w11.heap.size := hb.size
  clear B10 OW10 YW10 YG10 OM10 YZ10 hb v0 v1 v2 v3
  go_wp2
  go_ret
  exact ⟨rfl, B11.out⟩
end Go.Proofs.Ytiinhcffpgchoaa
