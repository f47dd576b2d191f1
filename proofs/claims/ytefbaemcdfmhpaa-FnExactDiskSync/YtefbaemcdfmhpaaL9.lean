/-
  The walk of the law of DiskSync.
-/
import Derived.Test.YtefbaemcdfmhpaaL10
namespace Go.Proofs.Ytefbaemcdfmhpaa
open Go Go.RowKit
attribute [local go_sem ↓] Go.wp_at_zero Go.wp_at_succ


set_option maxHeartbeats 8000000 in
theorem law9 (h : HD) (D : DD) (R : DD) (c : Int) (al : Bool) (w : World) (r : RdD w h D) (m0 : h.n0 ≤ maxLen) (m1 : h.n1 ≤ maxLen) (m2 : h.n2 ≤ maxLen) (s0 : ∀ s ∈ D.S, s.size ≤ maxLen) (s1 : ∀ p ∈ D.C, p.2.size ≤ maxLen)
    (fr : Fit D → Fit R)
    (cs : Fit D → ∀ (W : World) (h2 : HD), RdD W h2 D → HOK h2 → Calls Try.prog 35 #[.agg #[.slice h2.a0 h2.n0 h2.c0, .slice h2.a1 h2.n1 h2.c1, .bool h2.b, .slice h2.a2 h2.n2 h2.c2]] W fun e w' => (∃ h' : HD, e = .returned (.tuple #[.agg #[.slice h'.a0 h'.n0 h'.c0, .slice h'.a1 h'.n1 h'.c1, .bool h'.b, .slice h'.a2 h'.n2 h'.c2], .bool al, .int .i64 c]) ∧ OwnD w' W.heap.size w'.heap.size h' R) ∧ Below W.heap.size W w')
    (ci : Fit D → ∀ (W : World) (h2 : HD), RdD W h2 D → HOK h2 → Calls Try.prog 18 #[.agg #[.slice h2.a0 h2.n0 h2.c0, .slice h2.a1 h2.n1 h2.c1, .bool h2.b, .slice h2.a2 h2.n2 h2.c2]] W fun e w' => (∃ h' : HD, e = .returned (.tuple #[.agg #[.slice h'.a0 h'.n0 h'.c0, .slice h'.a1 h'.n1 h'.c1, .bool h'.b, .slice h'.a2 h'.n2 h'.c2], .bool al, .int .i64 c]) ∧ OwnD w' W.heap.size w'.heap.size h' R) ∧ Below W.heap.size W w') :
    Calls Try.prog 9 #[.agg #[.slice h.a0 h.n0 h.c0, .slice h.a1 h.n1 h.c1, .bool h.b, .slice h.a2 h.n2 h.c2]] w fun e w' => e = .returned (.bool true) ∧ Below w.heap.size w w' := by
  have RR : Hid (RdD w h D) := r
  have HB : Hid (Below w.heap.size w (w.alloc (.cells #[.slice h.a0 h.n0 h.c0, .slice h.a1 h.n1 h.c1, .bool h.b, .slice h.a2 h.n2 h.c2] 50))) := (Below.refl _ _).alloc (Nat.le_refl _) _
  have BX : Hid (Box (w.alloc (.cells #[.slice h.a0 h.n0 h.c0, .slice h.a1 h.n1 h.c1, .bool h.b, .slice h.a2 h.n2 h.c2] 50)) w.heap.size 50 #[.slice h.a0 h.n0 h.c0, .slice h.a1 h.n1 h.c1, .bool h.b, .slice h.a2 h.n2 h.c2]) := Box.new _ _ _
  have C : Hid (∀ W, RdD W h D → Calls Try.prog 31 #[.agg #[.slice h.a0 h.n0 h.c0, .slice h.a1 h.n1 h.c1, .bool h.b, .slice h.a2 h.n2 h.c2], .int .i64 1048576] W fun e w' => (∃ z : Int, e = .returned (.int .i64 z) ∧ (0 ≤ z → Fit D)) ∧ Below W.heap.size W w') := fun W hW => c_szDisk h D 1048576 W hW m0 m1 m2 s0 s1 (by omega) (by omega)
  have C33 : Hid (Fit D → ∀ W, Below w.heap.size w W → Calls Try.prog 33 #[.agg #[.slice h.a0 h.n0 h.c0, .slice h.a1 h.n1 h.c1, .bool h.b, .slice h.a2 h.n2 h.c2]] W fun e w' => (∃ h' : HD, e = .returned (.agg #[.slice h'.a0 h'.n0 h'.c0, .slice h'.a1 h'.n1 h'.c1, .bool h'.b, .slice h'.a2 h'.n2 h'.c2]) ∧ OwnD w' W.heap.size w'.heap.size h' D) ∧ Below W.heap.size W w') := fun hf W hW => c_toDisk h D W (r.below hW) hf
  have FR0 : Hid (Fit D → Fit R) := fr
  have CS0 : Hid (Fit D → ∀ (W : World) (h2 : HD), RdD W h2 D → HOK h2 → Calls Try.prog 35 #[.agg #[.slice h2.a0 h2.n0 h2.c0, .slice h2.a1 h2.n1 h2.c1, .bool h2.b, .slice h2.a2 h2.n2 h2.c2]] W fun e w' => (∃ h' : HD, e = .returned (.tuple #[.agg #[.slice h'.a0 h'.n0 h'.c0, .slice h'.a1 h'.n1 h'.c1, .bool h'.b, .slice h'.a2 h'.n2 h'.c2], .bool al, .int .i64 c]) ∧ OwnD w' W.heap.size w'.heap.size h' R) ∧ Below W.heap.size W w') := cs
  have CI0 : Hid (Fit D → ∀ (W : World) (h2 : HD), RdD W h2 D → HOK h2 → Calls Try.prog 18 #[.agg #[.slice h2.a0 h2.n0 h2.c0, .slice h2.a1 h2.n1 h2.c1, .bool h2.b, .slice h2.a2 h2.n2 h2.c2]] W fun e w' => (∃ h' : HD, e = .returned (.tuple #[.agg #[.slice h'.a0 h'.n0 h'.c0, .slice h'.a1 h'.n1 h'.c1, .bool h'.b, .slice h'.a2 h'.n2 h'.c2], .bool al, .int .i64 c]) ∧ OwnD w' W.heap.size w'.heap.size h' R) ∧ Below W.heap.size W w') := ci
  clear r m0 m1 m2 s0 s1 fr cs ci
  go_enter Try.func9, Try.ntmps9
  go_wp2_with fail
  refine (C.out _ (RR.out.below HB.out)).mono ?_
  rintro e w1 ⟨⟨z, rfl, hz⟩, hb⟩
  have B1 : Hid (Below w.heap.size w w1) := HB.out.trans (hb.mono HB.out.size)
  have X1 : Hid (Box w1 w.heap.size 50 #[.slice h.a0 h.n0 h.c0, .slice h.a1 h.n1 h.c1, .bool h.b, .slice h.a2 h.n2 h.c2]) := BX.out.belowS hb
  clear hb HB BX C
  by_cases hneg : z < 0
  · clear hz
    go_wp2
    go_ret
    exact ⟨rfl, B1.out⟩
  have FD : Fit D := hz (by omega)
  have F : Hid (Fit D) := FD
  have FR : Hid (Fit R) := FR0.out FD
  have CS : Hid (∀ (W : World) (h2 : HD), RdD W h2 D → HOK h2 → Calls Try.prog 35 #[.agg #[.slice h2.a0 h2.n0 h2.c0, .slice h2.a1 h2.n1 h2.c1, .bool h2.b, .slice h2.a2 h2.n2 h2.c2]] W fun e w' => (∃ h' : HD, e = .returned (.tuple #[.agg #[.slice h'.a0 h'.n0 h'.c0, .slice h'.a1 h'.n1 h'.c1, .bool h'.b, .slice h'.a2 h'.n2 h'.c2], .bool al, .int .i64 c]) ∧ OwnD w' W.heap.size w'.heap.size h' R) ∧ Below W.heap.size W w') := CS0.out FD
  have CI : Hid (∀ (W : World) (h2 : HD), RdD W h2 D → HOK h2 → Calls Try.prog 18 #[.agg #[.slice h2.a0 h2.n0 h2.c0, .slice h2.a1 h2.n1 h2.c1, .bool h2.b, .slice h2.a2 h2.n2 h2.c2]] W fun e w' => (∃ h' : HD, e = .returned (.tuple #[.agg #[.slice h'.a0 h'.n0 h'.c0, .slice h'.a1 h'.n1 h'.c1, .bool h'.b, .slice h'.a2 h'.n2 h'.c2], .bool al, .int .i64 c]) ∧ OwnD w' W.heap.size w'.heap.size h' R) ∧ Below W.heap.size W w') := CI0.out FD
  clear hz FD FR0 CS0 CI0
  have q01 : w.heap.size < w1.heap.size := X1.out.lt
  obtain ⟨v0, v1, v2, v3⟩ := box4 X1.out
  go_wp2_with fail
  refine (C33.out F.out w1 B1.out).mono ?_
  rintro e w2 ⟨⟨h2, rfl, o2⟩, hb⟩
  have T2 : Hid (RdD w2 h2 D) := o2.rd
  have TH2 : Hid (HOK h2) := o2.src
  clear o2
  have B2 : Hid (Below w.heap.size w w2) := B1.out.trans (hb.mono B1.out.size)
  have X2 : Hid (Box w2 w.heap.size 50 #[.slice h.a0 h.n0 h.c0, .slice h.a1 h.n1 h.c1, .bool h.b, .slice h.a2 h.n2 h.c2]) := X1.out.belowS hb
  have q12 : w1.heap.size ≤ w2.heap.size := hb.size
  clear B1 X1 hb v0 v1 v2 v3
  go_wp2_with fail
  refine (CS.out w2 h2 T2.out TH2.out).mono ?_
  rintro e w3 ⟨⟨hw, rfl, ow⟩, hb⟩
  have OW3 : Hid (OwnD w3 w2.heap.size w3.heap.size hw R) := ow
  clear ow T2 TH2
  have B3 : Hid (Below w.heap.size w w3) := B2.out.trans (hb.mono B2.out.size)
  have X3 : Hid (Box w3 w.heap.size 50 #[.slice h.a0 h.n0 h.c0, .slice h.a1 h.n1 h.c1, .bool h.b, .slice h.a2 h.n2 h.c2]) := X2.out.belowS hb
  have q23 : w2.heap.size ≤ w3.heap.size := hb.size
  clear B2 X2 hb 
  obtain ⟨w4, hw4⟩ : ∃ W, w3.alloc (.cells #[.slice hw.a0 hw.n0 hw.c0, .slice hw.a1 hw.n1 hw.c1, .bool hw.b, .slice hw.a2 hw.n2 hw.c2] 27) = W := ⟨_, rfl⟩
  have hb : Below w3.heap.size w3 w4 := by rw [← hw4]; exact (Below.refl _ _).alloc (Nat.le_refl _) _
  have YW4 : Hid (Box w4 w3.heap.size 27 #[.slice hw.a0 hw.n0 hw.c0, .slice hw.a1 hw.n1 hw.c1, .bool hw.b, .slice hw.a2 hw.n2 hw.c2]) := by have := Box.new w3 #[.slice hw.a0 hw.n0 hw.c0, .slice hw.a1 hw.n1 hw.c1, .bool hw.b, .slice hw.a2 hw.n2 hw.c2] 27; rwa [hw4] at this
  have B4 : Hid (Below w.heap.size w w4) := B3.out.trans (hb.mono B3.out.size)
  have X4 : Hid (Box w4 w.heap.size 50 #[.slice h.a0 h.n0 h.c0, .slice h.a1 h.n1 h.c1, .bool h.b, .slice h.a2 h.n2 h.c2]) := X3.out.belowS hb
  have OW4 : Hid (OwnD w4 w2.heap.size w3.heap.size hw R) := OW3.out.below hb
  have q34 : w3.heap.size ≤ w4.heap.size := hb.size
  clear B3 X3 OW3 hb 
  have p4 : w3.heap.size < w4.heap.size := YW4.out.lt
  obtain ⟨v0, v1, v2, v3⟩ := box4 X4.out
  go_wp2_with fail
  refine (C33.out F.out w4 B4.out).mono ?_
  rintro e w5 ⟨⟨hx, rfl, ox⟩, hb⟩
  have OX5 : Hid (OwnD w5 w4.heap.size w5.heap.size hx D) := ox
  have XH : Hid (HOK hx) := ox.src
  clear ox
  have B5 : Hid (Below w.heap.size w w5) := B4.out.trans (hb.mono B4.out.size)
  have X5 : Hid (Box w5 w.heap.size 50 #[.slice h.a0 h.n0 h.c0, .slice h.a1 h.n1 h.c1, .bool h.b, .slice h.a2 h.n2 h.c2]) := X4.out.belowS hb
  have OW5 : Hid (OwnD w5 w2.heap.size w3.heap.size hw R) := OW4.out.below hb
  have YW5 : Hid (Box w5 w3.heap.size 27 #[.slice hw.a0 hw.n0 hw.c0, .slice hw.a1 hw.n1 hw.c1, .bool hw.b, .slice hw.a2 hw.n2 hw.c2]) := YW4.out.belowS hb
  have q45 : w4.heap.size ≤ w5.heap.size := hb.size
  clear B4 X4 OW4 YW4 hb v0 v1 v2 v3
  obtain ⟨w6, hw6⟩ : ∃ W, w5.alloc (.cells #[.slice hx.a0 hx.n0 hx.c0, .slice hx.a1 hx.n1 hx.c1, .bool hx.b, .slice hx.a2 hx.n2 hx.c2] 27) = W := ⟨_, rfl⟩
  have hb : Below w5.heap.size w5 w6 := by rw [← hw6]; exact (Below.refl _ _).alloc (Nat.le_refl _) _
  have YX6 : Hid (Box w6 w5.heap.size 27 #[.slice hx.a0 hx.n0 hx.c0, .slice hx.a1 hx.n1 hx.c1, .bool hx.b, .slice hx.a2 hx.n2 hx.c2]) := by have := Box.new w5 #[.slice hx.a0 hx.n0 hx.c0, .slice hx.a1 hx.n1 hx.c1, .bool hx.b, .slice hx.a2 hx.n2 hx.c2] 27; rwa [hw6] at this
  have B6 : Hid (Below w.heap.size w w6) := B5.out.trans (hb.mono B5.out.size)
  have X6 : Hid (Box w6 w.heap.size 50 #[.slice h.a0 h.n0 h.c0, .slice h.a1 h.n1 h.c1, .bool h.b, .slice h.a2 h.n2 h.c2]) := X5.out.belowS hb
  have OW6 : Hid (OwnD w6 w2.heap.size w3.heap.size hw R) := OW5.out.below hb
  have YW6 : Hid (Box w6 w3.heap.size 27 #[.slice hw.a0 hw.n0 hw.c0, .slice hw.a1 hw.n1 hw.c1, .bool hw.b, .slice hw.a2 hw.n2 hw.c2]) := YW5.out.belowS hb
  have OX6 : Hid (OwnD w6 w4.heap.size w5.heap.size hx D) := OX5.out.below hb
  have q56 : w5.heap.size ≤ w6.heap.size := hb.size
  clear B5 X5 OW5 YW5 OX5 hb 
  have p6 : w5.heap.size < w6.heap.size := YX6.out.lt
  obtain ⟨v0, v1, v2, v3⟩ := box4 YX6.out
  go_wp2_with fail
  refine (CI.out w6 hx OX6.out.rd XH.out).mono ?_
  rintro e w7 ⟨⟨hg, rfl, og⟩, hb⟩
  have OG7 : Hid (OwnD w7 w6.heap.size w7.heap.size hg R) := og
  clear og
  have B7 : Hid (Below w.heap.size w w7) := B6.out.trans (hb.mono B6.out.size)
  have X7 : Hid (Box w7 w.heap.size 50 #[.slice h.a0 h.n0 h.c0, .slice h.a1 h.n1 h.c1, .bool h.b, .slice h.a2 h.n2 h.c2]) := X6.out.belowS hb
  have OW7 : Hid (OwnD w7 w2.heap.size w3.heap.size hw R) := OW6.out.below hb
  have YW7 : Hid (Box w7 w3.heap.size 27 #[.slice hw.a0 hw.n0 hw.c0, .slice hw.a1 hw.n1 hw.c1, .bool hw.b, .slice hw.a2 hw.n2 hw.c2]) := YW6.out.belowS hb
  have OX7 : Hid (OwnD w7 w4.heap.size w5.heap.size hx D) := OX6.out.below hb
  have YX7 : Hid (Box w7 w5.heap.size 27 #[.slice hx.a0 hx.n0 hx.c0, .slice hx.a1 hx.n1 hx.c1, .bool hx.b, .slice hx.a2 hx.n2 hx.c2]) := YX6.out.belowS hb
  have q67 : w6.heap.size ≤ w7.heap.size := hb.size
  clear B6 X6 OW6 YW6 OX6 YX6 hb v0 v1 v2 v3
  obtain ⟨w8, hw8⟩ : ∃ W, w7.alloc (.cells #[.slice hg.a0 hg.n0 hg.c0, .slice hg.a1 hg.n1 hg.c1, .bool hg.b, .slice hg.a2 hg.n2 hg.c2] 27) = W := ⟨_, rfl⟩
  have hb : Below w7.heap.size w7 w8 := by rw [← hw8]; exact (Below.refl _ _).alloc (Nat.le_refl _) _
  have YG8 : Hid (Box w8 w7.heap.size 27 #[.slice hg.a0 hg.n0 hg.c0, .slice hg.a1 hg.n1 hg.c1, .bool hg.b, .slice hg.a2 hg.n2 hg.c2]) := by have := Box.new w7 #[.slice hg.a0 hg.n0 hg.c0, .slice hg.a1 hg.n1 hg.c1, .bool hg.b, .slice hg.a2 hg.n2 hg.c2] 27; rwa [hw8] at this
  have B8 : Hid (Below w.heap.size w w8) := B7.out.trans (hb.mono B7.out.size)
  have X8 : Hid (Box w8 w.heap.size 50 #[.slice h.a0 h.n0 h.c0, .slice h.a1 h.n1 h.c1, .bool h.b, .slice h.a2 h.n2 h.c2]) := X7.out.belowS hb
  have OW8 : Hid (OwnD w8 w2.heap.size w3.heap.size hw R) := OW7.out.below hb
  have YW8 : Hid (Box w8 w3.heap.size 27 #[.slice hw.a0 hw.n0 hw.c0, .slice hw.a1 hw.n1 hw.c1, .bool hw.b, .slice hw.a2 hw.n2 hw.c2]) := YW7.out.belowS hb
  have OX8 : Hid (OwnD w8 w4.heap.size w5.heap.size hx D) := OX7.out.below hb
  have YX8 : Hid (Box w8 w5.heap.size 27 #[.slice hx.a0 hx.n0 hx.c0, .slice hx.a1 hx.n1 hx.c1, .bool hx.b, .slice hx.a2 hx.n2 hx.c2]) := YX7.out.belowS hb
  have OG8 : Hid (OwnD w8 w6.heap.size w7.heap.size hg R) := OG7.out.below hb
  have q78 : w7.heap.size ≤ w8.heap.size := hb.size
  clear B7 X7 OW7 YW7 OX7 YX7 OG7 hb 
  have p8 : w7.heap.size < w8.heap.size := YG8.out.lt
  have hcc : (c != c) = false := by simp
  have haa : (al != al) = false := by simp
  obtain ⟨v0, v1, v2, v3⟩ := box4 YG8.out
  obtain ⟨u0, u1, u2, u3⟩ := box4 YW8.out
  go_wp2_with fail
  refine (c_eqDisk hg hw R w8 OG8.out.rd OW8.out.rd FR.out).mono ?_
  rintro e w9 ⟨rfl, hb⟩
  have B9 : Hid (Below w.heap.size w w9) := B8.out.trans (hb.mono B8.out.size)
  have X9 : Hid (Box w9 w.heap.size 50 #[.slice h.a0 h.n0 h.c0, .slice h.a1 h.n1 h.c1, .bool h.b, .slice h.a2 h.n2 h.c2]) := X8.out.belowS hb
  have OW9 : Hid (OwnD w9 w2.heap.size w3.heap.size hw R) := OW8.out.below hb
  have YW9 : Hid (Box w9 w3.heap.size 27 #[.slice hw.a0 hw.n0 hw.c0, .slice hw.a1 hw.n1 hw.c1, .bool hw.b, .slice hw.a2 hw.n2 hw.c2]) := YW8.out.belowS hb
  have OX9 : Hid (OwnD w9 w4.heap.size w5.heap.size hx D) := OX8.out.below hb
  have YX9 : Hid (Box w9 w5.heap.size 27 #[.slice hx.a0 hx.n0 hx.c0, .slice hx.a1 hx.n1 hx.c1, .bool hx.b, .slice hx.a2 hx.n2 hx.c2]) := YX8.out.belowS hb
  have OG9 : Hid (OwnD w9 w6.heap.size w7.heap.size hg R) := OG8.out.below hb
  have YG9 : Hid (Box w9 w7.heap.size 27 #[.slice hg.a0 hg.n0 hg.c0, .slice hg.a1 hg.n1 hg.c1, .bool hg.b, .slice hg.a2 hg.n2 hg.c2]) := YG8.out.belowS hb
  have q89 : w8.heap.size ≤ w9.heap.size := hb.size
  clear B8 X8 OW8 YW8 OX8 YX8 OG8 YG8 hb v0 v1 v2 v3 u0 u1 u2 u3
  obtain ⟨v0, v1, v2, v3⟩ := box4 X9.out
  obtain ⟨u0, u1, u2, u3⟩ := box4 YX9.out
  have DF : Hid (Fit D → ∀ W, Below w.heap.size w W → Calls Try.prog 33 #[.agg #[.slice h.a0 h.n0 h.c0, .slice h.a1 h.n1 h.c1, .bool h.b, .slice h.a2 h.n2 h.c2]] W fun e w' => (∃ h' : HD, e = .returned (.agg #[.slice h'.a0 h'.n0 h'.c0, .slice h'.a1 h'.n1 h'.c1, .bool h'.b, .slice h'.a2 h'.n2 h'.c2]) ∧ OwnD w' W.heap.size w'.heap.size h' D) ∧ Below W.heap.size W w') := C33.out
  go_wp2_with fail
  go_region_held3 (fun x => x.cell? ⟨w.heap.size, 0, none⟩ = some (.slice h.a0 h.n0 h.c0) ∧ x.cell? ⟨w.heap.size, 1, none⟩ = some (.slice h.a1 h.n1 h.c1) ∧ x.cell? ⟨w.heap.size, 2, none⟩ = some (.bool h.b) ∧ x.cell? ⟨w.heap.size, 3, none⟩ = some (.slice h.a2 h.n2 h.c2) ∧ x.cell? ⟨w5.heap.size, 0, none⟩ = some (.slice hx.a0 hx.n0 hx.c0) ∧ x.cell? ⟨w5.heap.size, 1, none⟩ = some (.slice hx.a1 hx.n1 hx.c1) ∧ x.cell? ⟨w5.heap.size, 2, none⟩ = some (.bool hx.b) ∧ x.cell? ⟨w5.heap.size, 3, none⟩ = some (.slice hx.a2 hx.n2 hx.c2))
    (first | exact ⟨far6 hb8 (far6 hb7 v0), far6 hb8 (far6 hb7 v1), far6 hb8 (far6 hb7 v2), far6 hb8 (far6 hb7 v3), far6 hb8 (far6 hb7 u0), far6 hb8 (far6 hb7 u1), far6 hb8 (far6 hb7 u2), far6 hb8 (far6 hb7 u3)⟩ | exact ⟨far6 hb7 v0, far6 hb7 v1, far6 hb7 v2, far6 hb7 v3, far6 hb7 u0, far6 hb7 u1, far6 hb7 u2, far6 hb7 u3⟩ | go_keep)
    (first | (go_at_call 33; refine (DF.out F.out _ (below_drewN B9.out _)).mono ?_; rintro e wa ⟨⟨h7, rfl, o7⟩, hb7⟩)
           | (go_at_call 28; refine (c_eqDisk hx h7 D _ ((OX9.out.rd.below (below_drewN (Below.refl _ _) _)).below hb7) o7.rd F.out).mono ?_; rintro e w10 ⟨rfl, hb8⟩))
  have hb : Below w9.heap.size w9 w10 := ((Below.refl w9.heap.size w9).drew.trans hb7).trans (hb8.mono hb7.size)
  clear hb7 hb8 o7 DF v0 v1 v2 v3 u0 u1 u2 u3
  have B10 : Hid (Below w.heap.size w w10) := B9.out.trans (hb.mono B9.out.size)
  have X10 : Hid (Box w10 w.heap.size 50 #[.slice h.a0 h.n0 h.c0, .slice h.a1 h.n1 h.c1, .bool h.b, .slice h.a2 h.n2 h.c2]) := X9.out.belowS hb
  have OW10 : Hid (OwnD w10 w2.heap.size w3.heap.size hw R) := OW9.out.below hb
  have YW10 : Hid (Box w10 w3.heap.size 27 #[.slice hw.a0 hw.n0 hw.c0, .slice hw.a1 hw.n1 hw.c1, .bool hw.b, .slice hw.a2 hw.n2 hw.c2]) := YW9.out.belowS hb
  have OX10 : Hid (OwnD w10 w4.heap.size w5.heap.size hx D) := OX9.out.below hb
  have YX10 : Hid (Box w10 w5.heap.size 27 #[.slice hx.a0 hx.n0 hx.c0, .slice hx.a1 hx.n1 hx.c1, .bool hx.b, .slice hx.a2 hx.n2 hx.c2]) := YX9.out.belowS hb
  have OG10 : Hid (OwnD w10 w6.heap.size w7.heap.size hg R) := OG9.out.below hb
  have YG10 : Hid (Box w10 w7.heap.size 27 #[.slice hg.a0 hg.n0 hg.c0, .slice hg.a1 hg.n1 hg.c1, .bool hg.b, .slice hg.a2 hg.n2 hg.c2]) := YG9.out.belowS hb
  have q910 : w9.heap.size ≤ w10.heap.size := hb.size
  clear B9 X9 OW9 YW9 OX9 YX9 OG9 YG9 hb 
  have nx0 := OX10.out.rd.l0
  have nx1 := OX10.out.rd.l1
  have nx2 := OX10.out.rd.l2
  have ng0 := OG10.out.rd.l0
  have ng1 := OG10.out.rd.l1
  have ng2 := OG10.out.rd.l2
  have fd0 := F.out.1
  have fd1 := F.out.2.1
  have fd2 := F.out.2.2.1
  have fr0 := FR.out.1
  have fr1 := FR.out.2.1
  have fr2 := FR.out.2.2.1
  obtain ⟨v0, v1, v2, v3⟩ := box4 YX10.out
  go_wp2_with fail
  refine (c_markDisk hx D w4.heap.size w5.heap.size w10 OX10.out (by omega) (by omega) (by omega)).mono ?_
  rintro e w11 ⟨rfl, om, hi⟩
  clear om v0 v1 v2 v3
  have B11 : Hid (Below w.heap.size w w11) := B10.out.trans (hi.below (by omega) (by omega))
  have X11 : Hid (Box w11 w.heap.size 50 #[.slice h.a0 h.n0 h.c0, .slice h.a1 h.n1 h.c1, .bool h.b, .slice h.a2 h.n2 h.c2]) := X10.out.innO hi (by omega)
  have OW11 : Hid (OwnD w11 w2.heap.size w3.heap.size hw R) := OW10.out.inn hi (by omega)
  have YW11 : Hid (Box w11 w3.heap.size 27 #[.slice hw.a0 hw.n0 hw.c0, .slice hw.a1 hw.n1 hw.c1, .bool hw.b, .slice hw.a2 hw.n2 hw.c2]) := YW10.out.innO hi (by omega)
  have YX11 : Hid (Box w11 w5.heap.size 27 #[.slice hx.a0 hx.n0 hx.c0, .slice hx.a1 hx.n1 hx.c1, .bool hx.b, .slice hx.a2 hx.n2 hx.c2]) := YX10.out.innO hi (by omega)
  have OG11 : Hid (OwnD w11 w6.heap.size w7.heap.size hg R) := OG10.out.inn hi (by omega)
  have YG11 : Hid (Box w11 w7.heap.size 27 #[.slice hg.a0 hg.n0 hg.c0, .slice hg.a1 hg.n1 hg.c1, .bool hg.b, .slice hg.a2 hg.n2 hg.c2]) := YG10.out.innO hi (by omega)
  have q1011 : w10.heap.size ≤ w11.heap.size := hi.size
  clear hi B10 X10 OW10 YW10 OX10 YX10 OG10 YG10
  have hmk : markN hx ≤ 4194305 := by unfold markN; omega
  obtain ⟨v0, v1, v2, v3⟩ := box4 YG11.out
  obtain ⟨u0, u1, u2, u3⟩ := box4 YW11.out
  go_wp2_with fail
  refine (c_eqDisk hg hw R w11 OG11.out.rd OW11.out.rd FR.out).mono ?_
  rintro e w12 ⟨rfl, hb⟩
  have B12 : Hid (Below w.heap.size w w12) := B11.out.trans (hb.mono B11.out.size)
  have X12 : Hid (Box w12 w.heap.size 50 #[.slice h.a0 h.n0 h.c0, .slice h.a1 h.n1 h.c1, .bool h.b, .slice h.a2 h.n2 h.c2]) := X11.out.belowS hb
  have OW12 : Hid (OwnD w12 w2.heap.size w3.heap.size hw R) := OW11.out.below hb
  have YW12 : Hid (Box w12 w3.heap.size 27 #[.slice hw.a0 hw.n0 hw.c0, .slice hw.a1 hw.n1 hw.c1, .bool hw.b, .slice hw.a2 hw.n2 hw.c2]) := YW11.out.belowS hb
  have YX12 : Hid (Box w12 w5.heap.size 27 #[.slice hx.a0 hx.n0 hx.c0, .slice hx.a1 hx.n1 hx.c1, .bool hx.b, .slice hx.a2 hx.n2 hx.c2]) := YX11.out.belowS hb
  have OG12 : Hid (OwnD w12 w6.heap.size w7.heap.size hg R) := OG11.out.below hb
  have YG12 : Hid (Box w12 w7.heap.size 27 #[.slice hg.a0 hg.n0 hg.c0, .slice hg.a1 hg.n1 hg.c1, .bool hg.b, .slice hg.a2 hg.n2 hg.c2]) := YG11.out.belowS hb
  have q1112 : w11.heap.size ≤ w12.heap.size := hb.size
  clear B11 X11 OW11 YW11 YX11 OG11 YG11 hb v0 v1 v2 v3 u0 u1 u2 u3
  obtain ⟨v0, v1, v2, v3⟩ := box4 YG12.out
  go_wp2_with fail
  refine (c_markDisk hg R w6.heap.size w7.heap.size w12 OG12.out (by omega) (by omega) (by omega)).mono ?_
  rintro e w13 ⟨rfl, om, hi⟩
  have OM13 : Hid (OwnD w13 w6.heap.size w7.heap.size hg (markD hg)) := om
  clear om v0 v1 v2 v3
  have B13 : Hid (Below w.heap.size w w13) := B12.out.trans (hi.below (by omega) (by omega))
  have X13 : Hid (Box w13 w.heap.size 50 #[.slice h.a0 h.n0 h.c0, .slice h.a1 h.n1 h.c1, .bool h.b, .slice h.a2 h.n2 h.c2]) := X12.out.innO hi (by omega)
  have OW13 : Hid (OwnD w13 w2.heap.size w3.heap.size hw R) := OW12.out.inn hi (by omega)
  have YW13 : Hid (Box w13 w3.heap.size 27 #[.slice hw.a0 hw.n0 hw.c0, .slice hw.a1 hw.n1 hw.c1, .bool hw.b, .slice hw.a2 hw.n2 hw.c2]) := YW12.out.innO hi (by omega)
  have YX13 : Hid (Box w13 w5.heap.size 27 #[.slice hx.a0 hx.n0 hx.c0, .slice hx.a1 hx.n1 hx.c1, .bool hx.b, .slice hx.a2 hx.n2 hx.c2]) := YX12.out.innO hi (by omega)
  have YG13 : Hid (Box w13 w7.heap.size 27 #[.slice hg.a0 hg.n0 hg.c0, .slice hg.a1 hg.n1 hg.c1, .bool hg.b, .slice hg.a2 hg.n2 hg.c2]) := YG12.out.innO hi (by omega)
  have q1213 : w12.heap.size ≤ w13.heap.size := hi.size
  clear hi B12 X12 OW12 YW12 YX12 OG12 YG12
  have hmg : markN hg ≤ 4194305 := by unfold markN; omega
  have hmm : ((markN hg : Int) != (markN hg : Int)) = false := by simp
  obtain ⟨v0, v1, v2, v3⟩ := box4 YG13.out
  go_wp2_with fail
  refine (c_heldDisk hg w13 OM13.out.rd (by omega) (by omega) (by omega)).mono ?_
  rintro e w14 ⟨rfl, hb⟩
  have B14 : Hid (Below w.heap.size w w14) := B13.out.trans (hb.mono B13.out.size)
  have X14 : Hid (Box w14 w.heap.size 50 #[.slice h.a0 h.n0 h.c0, .slice h.a1 h.n1 h.c1, .bool h.b, .slice h.a2 h.n2 h.c2]) := X13.out.belowS hb
  have OW14 : Hid (OwnD w14 w2.heap.size w3.heap.size hw R) := OW13.out.below hb
  have YW14 : Hid (Box w14 w3.heap.size 27 #[.slice hw.a0 hw.n0 hw.c0, .slice hw.a1 hw.n1 hw.c1, .bool hw.b, .slice hw.a2 hw.n2 hw.c2]) := YW13.out.belowS hb
  have YX14 : Hid (Box w14 w5.heap.size 27 #[.slice hx.a0 hx.n0 hx.c0, .slice hx.a1 hx.n1 hx.c1, .bool hx.b, .slice hx.a2 hx.n2 hx.c2]) := YX13.out.belowS hb
  have YG14 : Hid (Box w14 w7.heap.size 27 #[.slice hg.a0 hg.n0 hg.c0, .slice hg.a1 hg.n1 hg.c1, .bool hg.b, .slice hg.a2 hg.n2 hg.c2]) := YG13.out.belowS hb
  have OM14 : Hid (OwnD w14 w6.heap.size w7.heap.size hg (markD hg)) := OM13.out.below hb
  have q1314 : w13.heap.size ≤ w14.heap.size := hb.size
  clear B13 X13 OW13 YW13 YX13 YG13 OM13 hb v0 v1 v2 v3
  obtain ⟨v0, v1, v2, v3⟩ := box4 X14.out
  go_wp2_with fail
  refine (C33.out F.out w14 B14.out).mono ?_
  rintro e w15 ⟨⟨hy, rfl, oy⟩, hb⟩
  have TY15 : Hid (RdD w15 hy D) := oy.rd
  have TYH : Hid (HOK hy) := oy.src
  clear oy
  have B15 : Hid (Below w.heap.size w w15) := B14.out.trans (hb.mono B14.out.size)
  have X15 : Hid (Box w15 w.heap.size 50 #[.slice h.a0 h.n0 h.c0, .slice h.a1 h.n1 h.c1, .bool h.b, .slice h.a2 h.n2 h.c2]) := X14.out.belowS hb
  have OW15 : Hid (OwnD w15 w2.heap.size w3.heap.size hw R) := OW14.out.below hb
  have YW15 : Hid (Box w15 w3.heap.size 27 #[.slice hw.a0 hw.n0 hw.c0, .slice hw.a1 hw.n1 hw.c1, .bool hw.b, .slice hw.a2 hw.n2 hw.c2]) := YW14.out.belowS hb
  have YX15 : Hid (Box w15 w5.heap.size 27 #[.slice hx.a0 hx.n0 hx.c0, .slice hx.a1 hx.n1 hx.c1, .bool hx.b, .slice hx.a2 hx.n2 hx.c2]) := YX14.out.belowS hb
  have YG15 : Hid (Box w15 w7.heap.size 27 #[.slice hg.a0 hg.n0 hg.c0, .slice hg.a1 hg.n1 hg.c1, .bool hg.b, .slice hg.a2 hg.n2 hg.c2]) := YG14.out.belowS hb
  have OM15 : Hid (OwnD w15 w6.heap.size w7.heap.size hg (markD hg)) := OM14.out.below hb
  have q1415 : w14.heap.size ≤ w15.heap.size := hb.size
  clear B14 X14 OW14 YW14 YX14 YG14 OM14 hb v0 v1 v2 v3
  go_wp2_with fail
  refine (CI.out w15 hy TY15.out TYH.out).mono ?_
  rintro e w16 ⟨⟨hz, rfl, oz⟩, hb⟩
  have TZ16 : Hid (RdD w16 hz R) := oz.rd
  clear oz TY15
  have B16 : Hid (Below w.heap.size w w16) := B15.out.trans (hb.mono B15.out.size)
  have X16 : Hid (Box w16 w.heap.size 50 #[.slice h.a0 h.n0 h.c0, .slice h.a1 h.n1 h.c1, .bool h.b, .slice h.a2 h.n2 h.c2]) := X15.out.belowS hb
  have OW16 : Hid (OwnD w16 w2.heap.size w3.heap.size hw R) := OW15.out.below hb
  have YW16 : Hid (Box w16 w3.heap.size 27 #[.slice hw.a0 hw.n0 hw.c0, .slice hw.a1 hw.n1 hw.c1, .bool hw.b, .slice hw.a2 hw.n2 hw.c2]) := YW15.out.belowS hb
  have YX16 : Hid (Box w16 w5.heap.size 27 #[.slice hx.a0 hx.n0 hx.c0, .slice hx.a1 hx.n1 hx.c1, .bool hx.b, .slice hx.a2 hx.n2 hx.c2]) := YX15.out.belowS hb
  have YG16 : Hid (Box w16 w7.heap.size 27 #[.slice hg.a0 hg.n0 hg.c0, .slice hg.a1 hg.n1 hg.c1, .bool hg.b, .slice hg.a2 hg.n2 hg.c2]) := YG15.out.belowS hb
  have OM16 : Hid (OwnD w16 w6.heap.size w7.heap.size hg (markD hg)) := OM15.out.below hb
  have q1516 : w15.heap.size ≤ w16.heap.size := hb.size
  clear B15 X15 OW15 YW15 YX15 YG15 OM15 hb 
  have TZ17 : Hid (∀ W, Below w16.heap.size w16 W → RdD W hz R) := fun W hW => TZ16.out.below hW
  obtain ⟨w17, hw17⟩ : ∃ W, w16.alloc (.cells #[.slice hz.a0 hz.n0 hz.c0, .slice hz.a1 hz.n1 hz.c1, .bool hz.b, .slice hz.a2 hz.n2 hz.c2] 27) = W := ⟨_, rfl⟩
  have hb : Below w16.heap.size w16 w17 := by rw [← hw17]; exact (Below.refl _ _).alloc (Nat.le_refl _) _
  have YZ17 : Hid (Box w17 w16.heap.size 27 #[.slice hz.a0 hz.n0 hz.c0, .slice hz.a1 hz.n1 hz.c1, .bool hz.b, .slice hz.a2 hz.n2 hz.c2]) := by have := Box.new w16 #[.slice hz.a0 hz.n0 hz.c0, .slice hz.a1 hz.n1 hz.c1, .bool hz.b, .slice hz.a2 hz.n2 hz.c2] 27; rwa [hw17] at this
  have B17 : Hid (Below w.heap.size w w17) := B16.out.trans (hb.mono B16.out.size)
  have X17 : Hid (Box w17 w.heap.size 50 #[.slice h.a0 h.n0 h.c0, .slice h.a1 h.n1 h.c1, .bool h.b, .slice h.a2 h.n2 h.c2]) := X16.out.belowS hb
  have OW17 : Hid (OwnD w17 w2.heap.size w3.heap.size hw R) := OW16.out.below hb
  have YW17 : Hid (Box w17 w3.heap.size 27 #[.slice hw.a0 hw.n0 hw.c0, .slice hw.a1 hw.n1 hw.c1, .bool hw.b, .slice hw.a2 hw.n2 hw.c2]) := YW16.out.belowS hb
  have YX17 : Hid (Box w17 w5.heap.size 27 #[.slice hx.a0 hx.n0 hx.c0, .slice hx.a1 hx.n1 hx.c1, .bool hx.b, .slice hx.a2 hx.n2 hx.c2]) := YX16.out.belowS hb
  have YG17 : Hid (Box w17 w7.heap.size 27 #[.slice hg.a0 hg.n0 hg.c0, .slice hg.a1 hg.n1 hg.c1, .bool hg.b, .slice hg.a2 hg.n2 hg.c2]) := YG16.out.belowS hb
  have OM17 : Hid (OwnD w17 w6.heap.size w7.heap.size hg (markD hg)) := OM16.out.below hb
  have q1617 : w16.heap.size ≤ w17.heap.size := hb.size
  clear B16 X16 OW16 YW16 YX16 YG16 OM16 hb 
  have p17 : w16.heap.size < w17.heap.size := YZ17.out.lt
  have TZZ : Hid (RdD w17 hz R) := TZ17.out _ (by rw [← hw17]; exact (Below.refl _ _).alloc (Nat.le_refl _) _)
  obtain ⟨v0, v1, v2, v3⟩ := box4 YZ17.out
  obtain ⟨u0, u1, u2, u3⟩ := box4 YW17.out
  go_wp2_with fail
  refine (c_eqDisk hz hw R w17 TZZ.out OW17.out.rd FR.out).mono ?_
  rintro e w18 ⟨rfl, hb⟩
  have B18 : Hid (Below w.heap.size w w18) := B17.out.trans (hb.mono B17.out.size)
  have X18 : Hid (Box w18 w.heap.size 50 #[.slice h.a0 h.n0 h.c0, .slice h.a1 h.n1 h.c1, .bool h.b, .slice h.a2 h.n2 h.c2]) := X17.out.belowS hb
  have OW18 : Hid (OwnD w18 w2.heap.size w3.heap.size hw R) := OW17.out.below hb
  have YW18 : Hid (Box w18 w3.heap.size 27 #[.slice hw.a0 hw.n0 hw.c0, .slice hw.a1 hw.n1 hw.c1, .bool hw.b, .slice hw.a2 hw.n2 hw.c2]) := YW17.out.belowS hb
  have YX18 : Hid (Box w18 w5.heap.size 27 #[.slice hx.a0 hx.n0 hx.c0, .slice hx.a1 hx.n1 hx.c1, .bool hx.b, .slice hx.a2 hx.n2 hx.c2]) := YX17.out.belowS hb
  have YG18 : Hid (Box w18 w7.heap.size 27 #[.slice hg.a0 hg.n0 hg.c0, .slice hg.a1 hg.n1 hg.c1, .bool hg.b, .slice hg.a2 hg.n2 hg.c2]) := YG17.out.belowS hb
  have OM18 : Hid (OwnD w18 w6.heap.size w7.heap.size hg (markD hg)) := OM17.out.below hb
  have YZ18 : Hid (Box w18 w16.heap.size 27 #[.slice hz.a0 hz.n0 hz.c0, .slice hz.a1 hz.n1 hz.c1, .bool hz.b, .slice hz.a2 hz.n2 hz.c2]) := YZ17.out.belowS hb
  have q1718 : w17.heap.size ≤ w18.heap.size := hb.size
  clear B17 X17 OW17 YW17 YX17 YG17 OM17 YZ17 hb v0 v1 v2 v3 u0 u1 u2 u3
  obtain ⟨v0, v1, v2, v3⟩ := box4 YG18.out
  go_wp2_with fail
  refine (c_heldDisk hg w18 OM18.out.rd (by omega) (by omega) (by omega)).mono ?_
  rintro e w19 ⟨rfl, hb⟩
  have B19 : Hid (Below w.heap.size w w19) := B18.out.trans (hb.mono B18.out.size)
  have X19 : Hid (Box w19 w.heap.size 50 #[.slice h.a0 h.n0 h.c0, .slice h.a1 h.n1 h.c1, .bool h.b, .slice h.a2 h.n2 h.c2]) := X18.out.belowS hb
  have OW19 : Hid (OwnD w19 w2.heap.size w3.heap.size hw R) := OW18.out.below hb
  have YW19 : Hid (Box w19 w3.heap.size 27 #[.slice hw.a0 hw.n0 hw.c0, .slice hw.a1 hw.n1 hw.c1, .bool hw.b, .slice hw.a2 hw.n2 hw.c2]) := YW18.out.belowS hb
  have YX19 : Hid (Box w19 w5.heap.size 27 #[.slice hx.a0 hx.n0 hx.c0, .slice hx.a1 hx.n1 hx.c1, .bool hx.b, .slice hx.a2 hx.n2 hx.c2]) := YX18.out.belowS hb
  have YG19 : Hid (Box w19 w7.heap.size 27 #[.slice hg.a0 hg.n0 hg.c0, .slice hg.a1 hg.n1 hg.c1, .bool hg.b, .slice hg.a2 hg.n2 hg.c2]) := YG18.out.belowS hb
  have OM19 : Hid (OwnD w19 w6.heap.size w7.heap.size hg (markD hg)) := OM18.out.below hb
  have YZ19 : Hid (Box w19 w16.heap.size 27 #[.slice hz.a0 hz.n0 hz.c0, .slice hz.a1 hz.n1 hz.c1, .bool hz.b, .slice hz.a2 hz.n2 hz.c2]) := YZ18.out.belowS hb
  have q1819 : w18.heap.size ≤ w19.heap.size := hb.size
  clear B18 X18 OW18 YW18 YX18 YG18 OM18 YZ18 hb v0 v1 v2 v3
  go_wp2
  go_ret
  exact ⟨rfl, B19.out⟩
end Go.Proofs.Ytefbaemcdfmhpaa
