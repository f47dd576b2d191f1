/-
  The walk of the law of DiskPending.
-/
import Derived.Test.YtiinhcffpgchoaaL10
namespace Go.Proofs.Ytiinhcffpgchoaa
open Go Go.RowKit
attribute [local go_sem ↓] Go.wp_at_zero Go.wp_at_succ


set_option maxHeartbeats 8000000 in
theorem law11 (h : HD) (D : DD) (P : List Int) (c : Int) (w : World) (r : RdD w h D) (m0 : h.n0 ≤ maxLen) (m1 : h.n1 ≤ maxLen) (m2 : h.n2 ≤ maxLen) (s0 : ∀ s ∈ D.S, s.size ≤ maxLen) (s1 : ∀ p ∈ D.C, p.2.size ≤ maxLen)
    (fr : Fit D → P.length ≤ 1048576) (cs : Fit D → ∀ (W : World) (h2 : HD), RdD W h2 D → Calls Try.prog 39 #[.agg #[.slice h2.a0 h2.n0 h2.c0, .slice h2.a1 h2.n1 h2.c1, .bool h2.b, .slice h2.a2 h2.n2 h2.c2]] W fun e w' => (∃ a' c', e = .returned (.tuple #[.slice a' P.length c', .int .i64 c]) ∧ w'.ownsRow W.heap.size 3 1 (.slice a' P.length c') P.length (P.map (Value.int .i64))) ∧ Below W.heap.size W w') (ci : Fit D → ∀ (W : World) (h2 : HD), RdD W h2 D → Calls Try.prog 22 #[.agg #[.slice h2.a0 h2.n0 h2.c0, .slice h2.a1 h2.n1 h2.c1, .bool h2.b, .slice h2.a2 h2.n2 h2.c2]] W fun e w' => (∃ a' c', e = .returned (.tuple #[.slice a' P.length c', .int .i64 c]) ∧ w'.ownsRow W.heap.size 3 1 (.slice a' P.length c') P.length (P.map (Value.int .i64))) ∧ Below W.heap.size W w') :
    Calls Try.prog 11 #[.agg #[.slice h.a0 h.n0 h.c0, .slice h.a1 h.n1 h.c1, .bool h.b, .slice h.a2 h.n2 h.c2]] w fun e w' => e = .returned (.bool true) ∧ Below w.heap.size w w' := by
  have RR : Hid (RdD w h D) := r
  have HB : Hid (Below w.heap.size w (w.alloc (.cells #[.slice h.a0 h.n0 h.c0, .slice h.a1 h.n1 h.c1, .bool h.b, .slice h.a2 h.n2 h.c2] 50))) := (Below.refl _ _).alloc (Nat.le_refl _) _
  have BX : Hid (Box (w.alloc (.cells #[.slice h.a0 h.n0 h.c0, .slice h.a1 h.n1 h.c1, .bool h.b, .slice h.a2 h.n2 h.c2] 50)) w.heap.size 50 #[.slice h.a0 h.n0 h.c0, .slice h.a1 h.n1 h.c1, .bool h.b, .slice h.a2 h.n2 h.c2]) := Box.new _ _ _
  have C : Hid (∀ W, RdD W h D → Calls Try.prog 31 #[.agg #[.slice h.a0 h.n0 h.c0, .slice h.a1 h.n1 h.c1, .bool h.b, .slice h.a2 h.n2 h.c2], .int .i64 1048576] W fun e w' => (∃ z : Int, e = .returned (.int .i64 z) ∧ (0 ≤ z → Fit D)) ∧ Below W.heap.size W w') := fun W hW => c_szDisk h D 1048576 W hW m0 m1 m2 s0 s1 (by omega) (by omega)
  have C33 : Hid (Fit D → ∀ W, Below w.heap.size w W → Calls Try.prog 33 #[.agg #[.slice h.a0 h.n0 h.c0, .slice h.a1 h.n1 h.c1, .bool h.b, .slice h.a2 h.n2 h.c2]] W fun e w' => (∃ h' : HD, e = .returned (.agg #[.slice h'.a0 h'.n0 h'.c0, .slice h'.a1 h'.n1 h'.c1, .bool h'.b, .slice h'.a2 h'.n2 h'.c2]) ∧ OwnD w' W.heap.size w'.heap.size h' D) ∧ Below W.heap.size W w') := fun hf W hW => c_toDisk h D W (r.below hW) hf
  have FR0 : Hid (Fit D → P.length ≤ 1048576) := fr
  have CS0 : Hid (Fit D → ∀ (W : World) (h2 : HD), RdD W h2 D → Calls Try.prog 39 #[.agg #[.slice h2.a0 h2.n0 h2.c0, .slice h2.a1 h2.n1 h2.c1, .bool h2.b, .slice h2.a2 h2.n2 h2.c2]] W fun e w' => (∃ a' c', e = .returned (.tuple #[.slice a' P.length c', .int .i64 c]) ∧ w'.ownsRow W.heap.size 3 1 (.slice a' P.length c') P.length (P.map (Value.int .i64))) ∧ Below W.heap.size W w') := cs
  have CI0 : Hid (Fit D → ∀ (W : World) (h2 : HD), RdD W h2 D → Calls Try.prog 22 #[.agg #[.slice h2.a0 h2.n0 h2.c0, .slice h2.a1 h2.n1 h2.c1, .bool h2.b, .slice h2.a2 h2.n2 h2.c2]] W fun e w' => (∃ a' c', e = .returned (.tuple #[.slice a' P.length c', .int .i64 c]) ∧ w'.ownsRow W.heap.size 3 1 (.slice a' P.length c') P.length (P.map (Value.int .i64))) ∧ Below W.heap.size W w') := ci
  clear r m0 m1 m2 s0 s1 fr cs ci
  go_enter Try.func11, Try.ntmps11
  go_wp2_with fail
  refine (C.out _ (RR.out.below HB.out)).mono ?_
  rintro e w1 ⟨⟨z, rfl, hz⟩, hb⟩
  have B1 : Hid (Below w.heap.size w w1) := HB.out.trans (hb.mono HB.out.size)
  have X1 : Hid (Box w1 w.heap.size 50 #[.slice h.a0 h.n0 h.c0, .slice h.a1 h.n1 h.c1, .bool h.b, .slice h.a2 h.n2 h.c2]) := BX.out.belowS hb
  clear hb HB BX C
  by_cases hneg : z < 0
  · clear hz
    go_wp2
    go_ret
    exact ⟨rfl, B1.out⟩
  have FD : Fit D := hz (by omega)
  have F : Hid (Fit D) := FD
  have fp : P.length ≤ 1048576 := FR0.out FD
  have CS : Hid (∀ (W : World) (h2 : HD), RdD W h2 D → Calls Try.prog 39 #[.agg #[.slice h2.a0 h2.n0 h2.c0, .slice h2.a1 h2.n1 h2.c1, .bool h2.b, .slice h2.a2 h2.n2 h2.c2]] W fun e w' => (∃ a' c', e = .returned (.tuple #[.slice a' P.length c', .int .i64 c]) ∧ w'.ownsRow W.heap.size 3 1 (.slice a' P.length c') P.length (P.map (Value.int .i64))) ∧ Below W.heap.size W w') := CS0.out FD
  have CI : Hid (∀ (W : World) (h2 : HD), RdD W h2 D → Calls Try.prog 22 #[.agg #[.slice h2.a0 h2.n0 h2.c0, .slice h2.a1 h2.n1 h2.c1, .bool h2.b, .slice h2.a2 h2.n2 h2.c2]] W fun e w' => (∃ a' c', e = .returned (.tuple #[.slice a' P.length c', .int .i64 c]) ∧ w'.ownsRow W.heap.size 3 1 (.slice a' P.length c') P.length (P.map (Value.int .i64))) ∧ Below W.heap.size W w') := CI0.out FD
  clear hz FD FR0 CS0 CI0
  have q01 : w.heap.size < w1.heap.size := X1.out.lt
  obtain ⟨v0, v1, v2, v3⟩ := box4 X1.out
  go_wp2_with fail
  refine (C33.out F.out w1 B1.out).mono ?_
  rintro e w2 ⟨⟨h2, rfl, o2⟩, hb⟩
  have T2 : Hid (RdD w2 h2 D) := o2.rd
  clear o2
  have B2 : Hid (Below w.heap.size w w2) := B1.out.trans (hb.mono B1.out.size)
  have X2 : Hid (Box w2 w.heap.size 50 #[.slice h.a0 h.n0 h.c0, .slice h.a1 h.n1 h.c1, .bool h.b, .slice h.a2 h.n2 h.c2]) := X1.out.belowS hb
  have q12 : w1.heap.size ≤ w2.heap.size := hb.size
  clear B1 X1 hb v0 v1 v2 v3
  go_wp2_with fail
  refine (CS.out w2 h2 T2.out).mono ?_
  rintro e w3 ⟨⟨aw, cw, rfl, ow⟩, hb⟩
  have OW3 : Hid (w3.ownsRow w2.heap.size 3 1 (.slice aw P.length cw) P.length (P.map (Value.int .i64))) := ow
  have RW : Hid (∀ g, ob aw = some g → w2.heap.size ≤ g ∧ g < w3.heap.size) := fun g e => by rw [← ob_slice _ P.length cw] at e; exact ow.lt g e
  clear ow T2
  have B3 : Hid (Below w.heap.size w w3) := B2.out.trans (hb.mono B2.out.size)
  have X3 : Hid (Box w3 w.heap.size 50 #[.slice h.a0 h.n0 h.c0, .slice h.a1 h.n1 h.c1, .bool h.b, .slice h.a2 h.n2 h.c2]) := X2.out.belowS hb
  have q23 : w2.heap.size ≤ w3.heap.size := hb.size
  clear B2 X2 hb 
  obtain ⟨v0, v1, v2, v3⟩ := box4 X3.out
  go_wp2_with fail
  refine (C33.out F.out w3 B3.out).mono ?_
  rintro e w4 ⟨⟨hx, rfl, ox⟩, hb⟩
  have OX4 : Hid (OwnD w4 w3.heap.size w4.heap.size hx D) := ox
  clear ox
  have B4 : Hid (Below w.heap.size w w4) := B3.out.trans (hb.mono B3.out.size)
  have X4 : Hid (Box w4 w.heap.size 50 #[.slice h.a0 h.n0 h.c0, .slice h.a1 h.n1 h.c1, .bool h.b, .slice h.a2 h.n2 h.c2]) := X3.out.belowS hb
  have OW4 : Hid (w4.ownsRow w2.heap.size 3 1 (.slice aw P.length cw) P.length (P.map (Value.int .i64))) := own_below OW3.out hb
  have q34 : w3.heap.size ≤ w4.heap.size := hb.size
  clear B3 X3 OW3 hb v0 v1 v2 v3
  obtain ⟨w5, hw5⟩ : ∃ W, w4.alloc (.cells #[.slice hx.a0 hx.n0 hx.c0, .slice hx.a1 hx.n1 hx.c1, .bool hx.b, .slice hx.a2 hx.n2 hx.c2] 27) = W := ⟨_, rfl⟩
  have hb : Below w4.heap.size w4 w5 := by rw [← hw5]; exact (Below.refl _ _).alloc (Nat.le_refl _) _
  have YX5 : Hid (Box w5 w4.heap.size 27 #[.slice hx.a0 hx.n0 hx.c0, .slice hx.a1 hx.n1 hx.c1, .bool hx.b, .slice hx.a2 hx.n2 hx.c2]) := by have := Box.new w4 #[.slice hx.a0 hx.n0 hx.c0, .slice hx.a1 hx.n1 hx.c1, .bool hx.b, .slice hx.a2 hx.n2 hx.c2] 27; rwa [hw5] at this
  have B5 : Hid (Below w.heap.size w w5) := B4.out.trans (hb.mono B4.out.size)
  have X5 : Hid (Box w5 w.heap.size 50 #[.slice h.a0 h.n0 h.c0, .slice h.a1 h.n1 h.c1, .bool h.b, .slice h.a2 h.n2 h.c2]) := X4.out.belowS hb
  have OW5 : Hid (w5.ownsRow w2.heap.size 3 1 (.slice aw P.length cw) P.length (P.map (Value.int .i64))) := own_below OW4.out hb
  have OX5 : Hid (OwnD w5 w3.heap.size w4.heap.size hx D) := OX4.out.below hb
  have q45 : w4.heap.size ≤ w5.heap.size := hb.size
  clear B4 X4 OW4 OX4 hb 
  have p5 : w4.heap.size < w5.heap.size := YX5.out.lt
  obtain ⟨v0, v1, v2, v3⟩ := box4 YX5.out
  go_wp2_with fail
  refine (CI.out w5 hx OX5.out.rd).mono ?_
  rintro e w6 ⟨⟨ag, cg, rfl, og⟩, hb⟩
  have OG6 : Hid (w6.ownsRow w5.heap.size 3 1 (.slice ag P.length cg) P.length (P.map (Value.int .i64))) := og
  have RG : Hid (∀ g, ob ag = some g → w5.heap.size ≤ g ∧ g < w6.heap.size) := fun g e => by rw [← ob_slice _ P.length cg] at e; exact og.lt g e
  clear og
  have B6 : Hid (Below w.heap.size w w6) := B5.out.trans (hb.mono B5.out.size)
  have X6 : Hid (Box w6 w.heap.size 50 #[.slice h.a0 h.n0 h.c0, .slice h.a1 h.n1 h.c1, .bool h.b, .slice h.a2 h.n2 h.c2]) := X5.out.belowS hb
  have OW6 : Hid (w6.ownsRow w2.heap.size 3 1 (.slice aw P.length cw) P.length (P.map (Value.int .i64))) := own_below OW5.out hb
  have OX6 : Hid (OwnD w6 w3.heap.size w4.heap.size hx D) := OX5.out.below hb
  have YX6 : Hid (Box w6 w4.heap.size 27 #[.slice hx.a0 hx.n0 hx.c0, .slice hx.a1 hx.n1 hx.c1, .bool hx.b, .slice hx.a2 hx.n2 hx.c2]) := YX5.out.belowS hb
  have q56 : w5.heap.size ≤ w6.heap.size := hb.size
  clear B5 X5 OW5 OX5 YX5 hb v0 v1 v2 v3
  have hcc : (c != c) = false := by simp
  go_wp2_with fail
  refine (c_eqI ag aw P.length cg P.length cw P P w6 (RdV.own OG6.out) (RdV.own OW6.out) fp fp).mono ?_
  rintro e w7 ⟨rfl, qq, hq⟩
  rw [decide_eq_true (rfl : P = P)]
  have hb : Below w6.heap.size w6 w7 := by rw [hq]; exact below_drewN (Below.refl _ _) qq
  clear hq
  have B7 : Hid (Below w.heap.size w w7) := B6.out.trans (hb.mono B6.out.size)
  have X7 : Hid (Box w7 w.heap.size 50 #[.slice h.a0 h.n0 h.c0, .slice h.a1 h.n1 h.c1, .bool h.b, .slice h.a2 h.n2 h.c2]) := X6.out.belowS hb
  have OW7 : Hid (w7.ownsRow w2.heap.size 3 1 (.slice aw P.length cw) P.length (P.map (Value.int .i64))) := own_below OW6.out hb
  have OX7 : Hid (OwnD w7 w3.heap.size w4.heap.size hx D) := OX6.out.below hb
  have YX7 : Hid (Box w7 w4.heap.size 27 #[.slice hx.a0 hx.n0 hx.c0, .slice hx.a1 hx.n1 hx.c1, .bool hx.b, .slice hx.a2 hx.n2 hx.c2]) := YX6.out.belowS hb
  have OG7 : Hid (w7.ownsRow w5.heap.size 3 1 (.slice ag P.length cg) P.length (P.map (Value.int .i64))) := own_below OG6.out hb
  have q67 : w6.heap.size ≤ w7.heap.size := hb.size
  clear B6 X6 OW6 OX6 YX6 OG6 hb 
  obtain ⟨v0, v1, v2, v3⟩ := box4 X7.out
  obtain ⟨u0, u1, u2, u3⟩ := box4 YX7.out
  go_wp2_with fail
  go_region_held3 (fun x => x.cell? ⟨w.heap.size, 0, none⟩ = some (.slice h.a0 h.n0 h.c0) ∧ x.cell? ⟨w.heap.size, 1, none⟩ = some (.slice h.a1 h.n1 h.c1) ∧ x.cell? ⟨w.heap.size, 2, none⟩ = some (.bool h.b) ∧ x.cell? ⟨w.heap.size, 3, none⟩ = some (.slice h.a2 h.n2 h.c2) ∧ x.cell? ⟨w4.heap.size, 0, none⟩ = some (.slice hx.a0 hx.n0 hx.c0) ∧ x.cell? ⟨w4.heap.size, 1, none⟩ = some (.slice hx.a1 hx.n1 hx.c1) ∧ x.cell? ⟨w4.heap.size, 2, none⟩ = some (.bool hx.b) ∧ x.cell? ⟨w4.heap.size, 3, none⟩ = some (.slice hx.a2 hx.n2 hx.c2))
    (first | exact ⟨far6 hb8 (far6 hb7 v0), far6 hb8 (far6 hb7 v1), far6 hb8 (far6 hb7 v2), far6 hb8 (far6 hb7 v3), far6 hb8 (far6 hb7 u0), far6 hb8 (far6 hb7 u1), far6 hb8 (far6 hb7 u2), far6 hb8 (far6 hb7 u3)⟩ | exact ⟨far6 hb7 v0, far6 hb7 v1, far6 hb7 v2, far6 hb7 v3, far6 hb7 u0, far6 hb7 u1, far6 hb7 u2, far6 hb7 u3⟩ | go_keep)
    (first | (go_at_call 33; refine (C33.out F.out _ (below_drewN B7.out _)).mono ?_; rintro e wa ⟨⟨h7, rfl, o7⟩, hb7⟩)
           | (go_at_call 28; refine (c_eqDisk hx h7 D _ ((OX7.out.rd.below (below_drewN (Below.refl _ _) _)).below hb7) o7.rd F.out).mono ?_; rintro e w8 ⟨rfl, hb8⟩))
  have hb : Below w7.heap.size w7 w8 := ((Below.refl w7.heap.size w7).drew.trans hb7).trans (hb8.mono hb7.size)
  clear hb7 hb8 o7 v0 v1 v2 v3 u0 u1 u2 u3
  have B8 : Hid (Below w.heap.size w w8) := B7.out.trans (hb.mono B7.out.size)
  have X8 : Hid (Box w8 w.heap.size 50 #[.slice h.a0 h.n0 h.c0, .slice h.a1 h.n1 h.c1, .bool h.b, .slice h.a2 h.n2 h.c2]) := X7.out.belowS hb
  have OW8 : Hid (w8.ownsRow w2.heap.size 3 1 (.slice aw P.length cw) P.length (P.map (Value.int .i64))) := own_below OW7.out hb
  have OX8 : Hid (OwnD w8 w3.heap.size w4.heap.size hx D) := OX7.out.below hb
  have YX8 : Hid (Box w8 w4.heap.size 27 #[.slice hx.a0 hx.n0 hx.c0, .slice hx.a1 hx.n1 hx.c1, .bool hx.b, .slice hx.a2 hx.n2 hx.c2]) := YX7.out.belowS hb
  have OG8 : Hid (w8.ownsRow w5.heap.size 3 1 (.slice ag P.length cg) P.length (P.map (Value.int .i64))) := own_below OG7.out hb
  have q78 : w7.heap.size ≤ w8.heap.size := hb.size
  clear B7 X7 OW7 OX7 YX7 OG7 hb 
  have nx0 := OX8.out.rd.l0
  have nx1 := OX8.out.rd.l1
  have nx2 := OX8.out.rd.l2
  have fd0 := F.out.1
  have fd1 := F.out.2.1
  have fd2 := F.out.2.2.1
  obtain ⟨v0, v1, v2, v3⟩ := box4 YX8.out
  go_wp2_with fail
  refine (c_markDisk hx D w3.heap.size w4.heap.size w8 OX8.out (by omega) (by omega) (by omega)).mono ?_
  rintro e w9 ⟨rfl, om, hi⟩
  clear om v0 v1 v2 v3
  have B9 : Hid (Below w.heap.size w w9) := B8.out.trans (hi.below (by omega) (by omega))
  have X9 : Hid (Box w9 w.heap.size 50 #[.slice h.a0 h.n0 h.c0, .slice h.a1 h.n1 h.c1, .bool h.b, .slice h.a2 h.n2 h.c2]) := X8.out.innO hi (by omega)
  have OW9 : Hid (w9.ownsRow w2.heap.size 3 1 (.slice aw P.length cw) P.length (P.map (Value.int .i64))) := own_same OW8.out fun g e => hi.block g (OW8.out.lt g e).2 (by rw [ob_slice] at e; have := RW.out g e; omega)
  have YX9 : Hid (Box w9 w4.heap.size 27 #[.slice hx.a0 hx.n0 hx.c0, .slice hx.a1 hx.n1 hx.c1, .bool hx.b, .slice hx.a2 hx.n2 hx.c2]) := YX8.out.innO hi (by omega)
  have OG9 : Hid (w9.ownsRow w5.heap.size 3 1 (.slice ag P.length cg) P.length (P.map (Value.int .i64))) := own_same OG8.out fun g e => hi.block g (OG8.out.lt g e).2 (by rw [ob_slice] at e; have := RG.out g e; omega)
  have q89 : w8.heap.size ≤ w9.heap.size := hi.size
  clear hi B8 X8 OW8 OX8 YX8 OG8
  have hmk : markN hx ≤ 4194305 := by unfold markN; omega
  go_wp2_with fail
  refine (c_eqI ag aw P.length cg P.length cw P P w9 (RdV.own OG9.out) (RdV.own OW9.out) fp fp).mono ?_
  rintro e w10 ⟨rfl, qq, hq⟩
  rw [decide_eq_true (rfl : P = P)]
  have hb : Below w9.heap.size w9 w10 := by rw [hq]; exact below_drewN (Below.refl _ _) qq
  clear hq
  have B10 : Hid (Below w.heap.size w w10) := B9.out.trans (hb.mono B9.out.size)
  have X10 : Hid (Box w10 w.heap.size 50 #[.slice h.a0 h.n0 h.c0, .slice h.a1 h.n1 h.c1, .bool h.b, .slice h.a2 h.n2 h.c2]) := X9.out.belowS hb
  have OW10 : Hid (w10.ownsRow w2.heap.size 3 1 (.slice aw P.length cw) P.length (P.map (Value.int .i64))) := own_below OW9.out hb
  have YX10 : Hid (Box w10 w4.heap.size 27 #[.slice hx.a0 hx.n0 hx.c0, .slice hx.a1 hx.n1 hx.c1, .bool hx.b, .slice hx.a2 hx.n2 hx.c2]) := YX9.out.belowS hb
  have OG10 : Hid (w10.ownsRow w5.heap.size 3 1 (.slice ag P.length cg) P.length (P.map (Value.int .i64))) := own_below OG9.out hb
  have q910 : w9.heap.size ≤ w10.heap.size := hb.size
  clear B9 X9 OW9 YX9 OG9 hb 
  go_wp2_with fail
  refine (c_markI w5.heap.size (.slice ag P.length cg) P.length 1 _ w10 OG10.out (by omega) (by omega)).mono ?_
  rintro e w11 ⟨rfl, om, hgr⟩
  have hi : Inn w5.heap.size w6.heap.size w10 w11 := Inn.of_grown hgr (fun g e => by rw [ob_slice] at e; exact RG.out g e)
  have OM11 : Hid (w11.ownsRow w5.heap.size 3 1 (.slice ag P.length cg) P.length ((marksI 1 P.length).map (Value.int .i64))) := om
  clear om hgr
  have B11 : Hid (Below w.heap.size w w11) := B10.out.trans (hi.below (by omega) (by omega))
  have X11 : Hid (Box w11 w.heap.size 50 #[.slice h.a0 h.n0 h.c0, .slice h.a1 h.n1 h.c1, .bool h.b, .slice h.a2 h.n2 h.c2]) := X10.out.innO hi (by omega)
  have OW11 : Hid (w11.ownsRow w2.heap.size 3 1 (.slice aw P.length cw) P.length (P.map (Value.int .i64))) := own_same OW10.out fun g e => hi.block g (OW10.out.lt g e).2 (by rw [ob_slice] at e; have := RW.out g e; omega)
  have YX11 : Hid (Box w11 w4.heap.size 27 #[.slice hx.a0 hx.n0 hx.c0, .slice hx.a1 hx.n1 hx.c1, .bool hx.b, .slice hx.a2 hx.n2 hx.c2]) := YX10.out.innO hi (by omega)
  have q1011 : w10.heap.size ≤ w11.heap.size := hi.size
  clear hi B10 X10 OW10 YX10 OG10
  go_wp2_with fail
  refine (c_heldI ag P.length cg 1 w11 (RdV.own OM11.out) (by omega) (by omega)).mono ?_
  rintro e w12 ⟨rfl, hq⟩
  have hb : Below w11.heap.size w11 w12 := by rw [hq]; exact Below.refl _ _
  clear hq
  have B12 : Hid (Below w.heap.size w w12) := B11.out.trans (hb.mono B11.out.size)
  have X12 : Hid (Box w12 w.heap.size 50 #[.slice h.a0 h.n0 h.c0, .slice h.a1 h.n1 h.c1, .bool h.b, .slice h.a2 h.n2 h.c2]) := X11.out.belowS hb
  have OW12 : Hid (w12.ownsRow w2.heap.size 3 1 (.slice aw P.length cw) P.length (P.map (Value.int .i64))) := own_below OW11.out hb
  have YX12 : Hid (Box w12 w4.heap.size 27 #[.slice hx.a0 hx.n0 hx.c0, .slice hx.a1 hx.n1 hx.c1, .bool hx.b, .slice hx.a2 hx.n2 hx.c2]) := YX11.out.belowS hb
  have OM12 : Hid (w12.ownsRow w5.heap.size 3 1 (.slice ag P.length cg) P.length ((marksI 1 P.length).map (Value.int .i64))) := own_below OM11.out hb
  have q1112 : w11.heap.size ≤ w12.heap.size := hb.size
  clear B11 X11 OW11 YX11 OM11 hb 
  obtain ⟨v0, v1, v2, v3⟩ := box4 X12.out
  go_wp2_with fail
  refine (C33.out F.out w12 B12.out).mono ?_
  rintro e w13 ⟨⟨hy, rfl, oy⟩, hb⟩
  have TY : Hid (RdD w13 hy D) := oy.rd
  clear oy
  have B13 : Hid (Below w.heap.size w w13) := B12.out.trans (hb.mono B12.out.size)
  have X13 : Hid (Box w13 w.heap.size 50 #[.slice h.a0 h.n0 h.c0, .slice h.a1 h.n1 h.c1, .bool h.b, .slice h.a2 h.n2 h.c2]) := X12.out.belowS hb
  have OW13 : Hid (w13.ownsRow w2.heap.size 3 1 (.slice aw P.length cw) P.length (P.map (Value.int .i64))) := own_below OW12.out hb
  have YX13 : Hid (Box w13 w4.heap.size 27 #[.slice hx.a0 hx.n0 hx.c0, .slice hx.a1 hx.n1 hx.c1, .bool hx.b, .slice hx.a2 hx.n2 hx.c2]) := YX12.out.belowS hb
  have OM13 : Hid (w13.ownsRow w5.heap.size 3 1 (.slice ag P.length cg) P.length ((marksI 1 P.length).map (Value.int .i64))) := own_below OM12.out hb
  have q1213 : w12.heap.size ≤ w13.heap.size := hb.size
  clear B12 X12 OW12 YX12 OM12 hb v0 v1 v2 v3
  go_wp2_with fail
  refine (CI.out w13 hy TY.out).mono ?_
  rintro e w14 ⟨⟨az, cz, rfl, oz⟩, hb⟩
  have TZ : Hid (RdV w14 az P.length (P.map (Value.int .i64))) := RdV.own oz
  clear oz TY
  have B14 : Hid (Below w.heap.size w w14) := B13.out.trans (hb.mono B13.out.size)
  have X14 : Hid (Box w14 w.heap.size 50 #[.slice h.a0 h.n0 h.c0, .slice h.a1 h.n1 h.c1, .bool h.b, .slice h.a2 h.n2 h.c2]) := X13.out.belowS hb
  have OW14 : Hid (w14.ownsRow w2.heap.size 3 1 (.slice aw P.length cw) P.length (P.map (Value.int .i64))) := own_below OW13.out hb
  have YX14 : Hid (Box w14 w4.heap.size 27 #[.slice hx.a0 hx.n0 hx.c0, .slice hx.a1 hx.n1 hx.c1, .bool hx.b, .slice hx.a2 hx.n2 hx.c2]) := YX13.out.belowS hb
  have OM14 : Hid (w14.ownsRow w5.heap.size 3 1 (.slice ag P.length cg) P.length ((marksI 1 P.length).map (Value.int .i64))) := own_below OM13.out hb
  have q1314 : w13.heap.size ≤ w14.heap.size := hb.size
  clear B13 X13 OW13 YX13 OM13 hb 
  go_wp2_with fail
  refine (c_eqI az aw P.length cz P.length cw P P w14 TZ.out (RdV.own OW14.out) fp fp).mono ?_
  rintro e w15 ⟨rfl, qq, hq⟩
  rw [decide_eq_true (rfl : P = P)]
  have hb : Below w14.heap.size w14 w15 := by rw [hq]; exact below_drewN (Below.refl _ _) qq
  clear hq
  have B15 : Hid (Below w.heap.size w w15) := B14.out.trans (hb.mono B14.out.size)
  have X15 : Hid (Box w15 w.heap.size 50 #[.slice h.a0 h.n0 h.c0, .slice h.a1 h.n1 h.c1, .bool h.b, .slice h.a2 h.n2 h.c2]) := X14.out.belowS hb
  have OW15 : Hid (w15.ownsRow w2.heap.size 3 1 (.slice aw P.length cw) P.length (P.map (Value.int .i64))) := own_below OW14.out hb
  have YX15 : Hid (Box w15 w4.heap.size 27 #[.slice hx.a0 hx.n0 hx.c0, .slice hx.a1 hx.n1 hx.c1, .bool hx.b, .slice hx.a2 hx.n2 hx.c2]) := YX14.out.belowS hb
  have OM15 : Hid (w15.ownsRow w5.heap.size 3 1 (.slice ag P.length cg) P.length ((marksI 1 P.length).map (Value.int .i64))) := own_below OM14.out hb
  have q1415 : w14.heap.size ≤ w15.heap.size := hb.size
  clear B14 X14 OW14 YX14 OM14 hb 
  go_wp2_with fail
  refine (c_heldI ag P.length cg 1 w15 (RdV.own OM15.out) (by omega) (by omega)).mono ?_
  rintro e w16 ⟨rfl, hq⟩
  have hb : Below w15.heap.size w15 w16 := by rw [hq]; exact Below.refl _ _
  clear hq
  have B16 : Hid (Below w.heap.size w w16) := B15.out.trans (hb.mono B15.out.size)
  have X16 : Hid (Box w16 w.heap.size 50 #[.slice h.a0 h.n0 h.c0, .slice h.a1 h.n1 h.c1, .bool h.b, .slice h.a2 h.n2 h.c2]) := X15.out.belowS hb
  have OW16 : Hid (w16.ownsRow w2.heap.size 3 1 (.slice aw P.length cw) P.length (P.map (Value.int .i64))) := own_below OW15.out hb
  have YX16 : Hid (Box w16 w4.heap.size 27 #[.slice hx.a0 hx.n0 hx.c0, .slice hx.a1 hx.n1 hx.c1, .bool hx.b, .slice hx.a2 hx.n2 hx.c2]) := YX15.out.belowS hb
  have OM16 : Hid (w16.ownsRow w5.heap.size 3 1 (.slice ag P.length cg) P.length ((marksI 1 P.length).map (Value.int .i64))) := own_below OM15.out hb
  have q1516 : w15.heap.size ≤ w16.heap.size := hb.size
  clear B15 X15 OW15 YX15 OM15 hb 
  go_wp2
  go_ret
  exact ⟨rfl, B16.out⟩
end Go.Proofs.Ytiinhcffpgchoaa
