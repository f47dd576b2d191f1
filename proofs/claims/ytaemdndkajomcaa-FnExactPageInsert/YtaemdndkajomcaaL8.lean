/-
  The walk of the law of PageInsert.
-/
import Derived.Test.YtaemdndkajomcaaPk
namespace Go.Proofs.Ytaemdndkajomcaa
open Go Go.RowKit
attribute [local go_sem ↓] Go.wp_at_zero Go.wp_at_succ


set_option maxHeartbeats 8000000 in
theorem law_FnExactPageInsert (h : HG) (D : DG) (xd : ByteArray) (R : DG) (k c : Int) (w : World) (r : RdG w h D) (mxxd : xd.size ≤ maxLen) (m0 : h.n ≤ maxLen) (s0 : ∀ s ∈ D.S, s.size ≤ maxLen)
    (fr : FitG D → xd.size ≤ 1048576 → FitG R)
    (cs : FitG D → xd.size ≤ 1048576 → ∀ (W : World) (h2 : HG), Below w.heap.size w W → RdG W h2 D → SrcG h2 → Calls Try.prog 39 #[.agg #[.int .i64 h2.l, .slice h2.a h2.n h2.c], .string xd] W fun e w' => (∃ h : HG, e = .returned (.tuple #[.agg #[.int .i64 h.l, .slice h.a h.n h.c], .int .i64 k, .int .i64 c]) ∧ OwnG w' W.heap.size w'.heap.size h R) ∧ Below W.heap.size W w')
    (ci : FitG D → xd.size ≤ 1048576 → ∀ (W : World) (h2 : HG), Below w.heap.size w W → RdG W h2 D → SrcG h2 → Calls Try.prog 40 #[.agg #[.int .i64 h2.l, .slice h2.a h2.n h2.c], .string xd] W fun e w' => (∃ h : HG, e = .returned (.tuple #[.agg #[.int .i64 h.l, .slice h.a h.n h.c], .int .i64 k, .int .i64 c]) ∧ OwnG w' W.heap.size w'.heap.size h R) ∧ Below W.heap.size W w') :
    Calls Try.prog 8 #[.agg #[.int .i64 h.l, .slice h.a h.n h.c], .string xd] w fun e w' => e = .returned (.bool true) ∧ Below w.heap.size w w' := by
  have RR : Hid (RdG w h D) := r
  have C : Hid (∀ W, RdG W h D → Calls Try.prog 35 #[.agg #[.int .i64 h.l, .slice h.a h.n h.c], .int .i64 1048576] W fun e w' => (∃ z : Int, e = .returned (.int .i64 z) ∧ (0 ≤ z → FitG D)) ∧ Below W.heap.size W w') := fun W hW => c_szPage h D 1048576 W hW m0 s0 (by omega) (by omega)
  have C33 : Hid (FitG D → ∀ W, Below w.heap.size w W → Calls Try.prog 37 #[.agg #[.int .i64 h.l, .slice h.a h.n h.c]] W fun e w' => (∃ h' : HG, e = .returned (.agg #[.int .i64 h'.l, .slice h'.a h'.n h'.c]) ∧ OwnG w' W.heap.size w'.heap.size h' D) ∧ Below W.heap.size W w') := fun hf W hW => c_toPage h D W (r.below hW) hf
  have CS0 : Hid (FitG D → xd.size ≤ 1048576 → ∀ (W : World) (h2 : HG), Below w.heap.size w W → RdG W h2 D → SrcG h2 → Calls Try.prog 39 #[.agg #[.int .i64 h2.l, .slice h2.a h2.n h2.c], .string xd] W fun e w' => (∃ h : HG, e = .returned (.tuple #[.agg #[.int .i64 h.l, .slice h.a h.n h.c], .int .i64 k, .int .i64 c]) ∧ OwnG w' W.heap.size w'.heap.size h R) ∧ Below W.heap.size W w') := cs
  have CI0 : Hid (FitG D → xd.size ≤ 1048576 → ∀ (W : World) (h2 : HG), Below w.heap.size w W → RdG W h2 D → SrcG h2 → Calls Try.prog 40 #[.agg #[.int .i64 h2.l, .slice h2.a h2.n h2.c], .string xd] W fun e w' => (∃ h : HG, e = .returned (.tuple #[.agg #[.int .i64 h.l, .slice h.a h.n h.c], .int .i64 k, .int .i64 c]) ∧ OwnG w' W.heap.size w'.heap.size h R) ∧ Below W.heap.size W w') := ci
  have FR0 : Hid (FitG D → xd.size ≤ 1048576 → FitG R) := fr
  clear r m0 s0 cs ci fr
  unfold maxLen at mxxd
  by_cases hstxd : 1048576 < xd.size
  · go_enter Try.func8, Try.ntmps8
    go_wp2
    go_ret
    exact ⟨rfl, (Below.refl _ _).alloc (Nat.le_refl _) _⟩
  have gstxd : xd.size ≤ 1048576 := by omega
  obtain ⟨w0, hw0⟩ : ∃ W, w.alloc (.cells #[.int .i64 h.l, .slice h.a h.n h.c] 50) = W := ⟨_, rfl⟩
  have B0 : Hid (Below w.heap.size w w0) := by unfold Hid; rw [← hw0]; exact (Below.refl _ _).alloc (Nat.le_refl _) _
  have X0 : Hid (Box w0 w.heap.size 50 #[.int .i64 h.l, .slice h.a h.n h.c]) := by unfold Hid; rw [← hw0]; exact Box.new _ _ _
  obtain ⟨v0, v1⟩ := box2 X0.out
  go_enter Try.func8, Try.ntmps8
  go_wp2_with fail
  refine (C.out _ (RR.out.below B0.out)).mono ?_
  rintro e w1 ⟨⟨z, rfl, hz⟩, hb⟩
  have B1 : Hid (Below w.heap.size w w1) := B0.out.trans (hb.mono B0.out.size)
  have X1 : Hid (Box w1 w.heap.size 50 #[.int .i64 h.l, .slice h.a h.n h.c]) := X0.out.belowS hb
  clear hb B0 X0 C v0 v1 hw0
  by_cases hneg : z < 0
  · clear hz
    go_wp2
    go_ret
    exact ⟨rfl, B1.out⟩
  have FD : FitG D := hz (by omega)
  have F : Hid (FitG D) := FD
  have CS : Hid (∀ (W : World) (h2 : HG), Below w.heap.size w W → RdG W h2 D → SrcG h2 → Calls Try.prog 39 #[.agg #[.int .i64 h2.l, .slice h2.a h2.n h2.c], .string xd] W fun e w' => (∃ h : HG, e = .returned (.tuple #[.agg #[.int .i64 h.l, .slice h.a h.n h.c], .int .i64 k, .int .i64 c]) ∧ OwnG w' W.heap.size w'.heap.size h R) ∧ Below W.heap.size W w') := CS0.out FD gstxd
  have CI : Hid (∀ (W : World) (h2 : HG), Below w.heap.size w W → RdG W h2 D → SrcG h2 → Calls Try.prog 40 #[.agg #[.int .i64 h2.l, .slice h2.a h2.n h2.c], .string xd] W fun e w' => (∃ h : HG, e = .returned (.tuple #[.agg #[.int .i64 h.l, .slice h.a h.n h.c], .int .i64 k, .int .i64 c]) ∧ OwnG w' W.heap.size w'.heap.size h R) ∧ Below W.heap.size W w') := CI0.out FD gstxd
  have FR : Hid (FitG R) := FR0.out FD gstxd
  clear hz FD CS0 CI0 FR0
  have q01 : w.heap.size < w1.heap.size := X1.out.lt
  obtain ⟨v0, v1⟩ := box2 X1.out
  go_wp2_with fail
  refine (C33.out F.out w1 B1.out).mono ?_
  rintro e w2 ⟨⟨h2, rfl, o2⟩, hb⟩
  have T2 : Hid (RdG w2 h2 D) := o2.rd
  have TH2 : Hid (SrcG h2) := o2.src
  clear o2
  have B2 : Hid (Below w.heap.size w w2) := B1.out.trans (hb.mono B1.out.size)
  have X2 : Hid (Box w2 w.heap.size 50 #[.int .i64 h.l, .slice h.a h.n h.c]) := X1.out.belowS hb
  have q12 : w1.heap.size ≤ w2.heap.size := hb.size
  clear B1 X1 hb v0 v1
  go_wp2_with fail
  refine (CS.out w2 h2 B2.out T2.out TH2.out).mono ?_
  rintro e w3 ⟨⟨hw, rfl, ow⟩, hb⟩
  have OW3 : Hid (OwnG w3 w2.heap.size w3.heap.size hw R) := ow
  clear ow
  have B3 : Hid (Below w.heap.size w w3) := B2.out.trans (hb.mono B2.out.size)
  have X3 : Hid (Box w3 w.heap.size 50 #[.int .i64 h.l, .slice h.a h.n h.c]) := X2.out.belowS hb
  have q23 : w2.heap.size ≤ w3.heap.size := hb.size
  clear B2 X2 hb 
  clear T2 TH2
  obtain ⟨w4, hw4⟩ : ∃ W, w3.alloc (.cells #[.int .i64 hw.l, .slice hw.a hw.n hw.c] 45) = W := ⟨_, rfl⟩
  have hb : Below w3.heap.size w3 w4 := by rw [← hw4]; exact (Below.refl _ _).alloc (Nat.le_refl _) _
  have YW4 : Hid (Box w4 w3.heap.size 45 #[.int .i64 hw.l, .slice hw.a hw.n hw.c]) := by have := Box.new w3 #[.int .i64 hw.l, .slice hw.a hw.n hw.c] 45; rwa [hw4] at this
  have B4 : Hid (Below w.heap.size w w4) := B3.out.trans (hb.mono B3.out.size)
  have X4 : Hid (Box w4 w.heap.size 50 #[.int .i64 h.l, .slice h.a h.n h.c]) := X3.out.belowS hb
  have OW4 : Hid (OwnG w4 w2.heap.size w3.heap.size hw R) := OW3.out.below hb
  have q34 : w3.heap.size ≤ w4.heap.size := hb.size
  clear B3 X3 OW3 hb 
  have p4 : w3.heap.size < w4.heap.size := YW4.out.lt
  obtain ⟨v0, v1⟩ := box2 X4.out
  go_wp2_with fail
  refine (C33.out F.out w4 B4.out).mono ?_
  rintro e w5 ⟨⟨hx, rfl, ox⟩, hb⟩
  have OX5 : Hid (OwnG w5 w4.heap.size w5.heap.size hx D) := ox
  have XH : Hid (SrcG hx) := ox.src
  clear ox
  have B5 : Hid (Below w.heap.size w w5) := B4.out.trans (hb.mono B4.out.size)
  have X5 : Hid (Box w5 w.heap.size 50 #[.int .i64 h.l, .slice h.a h.n h.c]) := X4.out.belowS hb
  have OW5 : Hid (OwnG w5 w2.heap.size w3.heap.size hw R) := OW4.out.below hb
  have YW5 : Hid (Box w5 w3.heap.size 45 #[.int .i64 hw.l, .slice hw.a hw.n hw.c]) := YW4.out.belowS hb
  have q45 : w4.heap.size ≤ w5.heap.size := hb.size
  clear B4 X4 OW4 YW4 hb v0 v1
  obtain ⟨w6, hw6⟩ : ∃ W, w5.alloc (.cells #[.int .i64 hx.l, .slice hx.a hx.n hx.c] 45) = W := ⟨_, rfl⟩
  have hb : Below w5.heap.size w5 w6 := by rw [← hw6]; exact (Below.refl _ _).alloc (Nat.le_refl _) _
  have YX6 : Hid (Box w6 w5.heap.size 45 #[.int .i64 hx.l, .slice hx.a hx.n hx.c]) := by have := Box.new w5 #[.int .i64 hx.l, .slice hx.a hx.n hx.c] 45; rwa [hw6] at this
  have B6 : Hid (Below w.heap.size w w6) := B5.out.trans (hb.mono B5.out.size)
  have X6 : Hid (Box w6 w.heap.size 50 #[.int .i64 h.l, .slice h.a h.n h.c]) := X5.out.belowS hb
  have OW6 : Hid (OwnG w6 w2.heap.size w3.heap.size hw R) := OW5.out.below hb
  have YW6 : Hid (Box w6 w3.heap.size 45 #[.int .i64 hw.l, .slice hw.a hw.n hw.c]) := YW5.out.belowS hb
  have OX6 : Hid (OwnG w6 w4.heap.size w5.heap.size hx D) := OX5.out.below hb
  have q56 : w5.heap.size ≤ w6.heap.size := hb.size
  clear B5 X5 OW5 YW5 OX5 hb 
  have p6 : w5.heap.size < w6.heap.size := YX6.out.lt
  obtain ⟨v0, v1⟩ := box2 YX6.out
  go_wp2_with fail
  refine (CI.out w6 hx B6.out OX6.out.rd XH.out).mono ?_
  rintro e w7 ⟨⟨hg, rfl, ow⟩, hb⟩
  have OG7 : Hid (OwnG w7 w6.heap.size w7.heap.size hg R) := ow
  clear ow
  have B7 : Hid (Below w.heap.size w w7) := B6.out.trans (hb.mono B6.out.size)
  have X7 : Hid (Box w7 w.heap.size 50 #[.int .i64 h.l, .slice h.a h.n h.c]) := X6.out.belowS hb
  have OW7 : Hid (OwnG w7 w2.heap.size w3.heap.size hw R) := OW6.out.below hb
  have YW7 : Hid (Box w7 w3.heap.size 45 #[.int .i64 hw.l, .slice hw.a hw.n hw.c]) := YW6.out.belowS hb
  have OX7 : Hid (OwnG w7 w4.heap.size w5.heap.size hx D) := OX6.out.below hb
  have YX7 : Hid (Box w7 w5.heap.size 45 #[.int .i64 hx.l, .slice hx.a hx.n hx.c]) := YX6.out.belowS hb
  have q67 : w6.heap.size ≤ w7.heap.size := hb.size
  clear B6 X6 OW6 YW6 OX6 YX6 hb 
  clear v0 v1
  obtain ⟨w8, hw8⟩ : ∃ W, w7.alloc (.cells #[.int .i64 hg.l, .slice hg.a hg.n hg.c] 45) = W := ⟨_, rfl⟩
  have hb : Below w7.heap.size w7 w8 := by rw [← hw8]; exact (Below.refl _ _).alloc (Nat.le_refl _) _
  have YG8 : Hid (Box w8 w7.heap.size 45 #[.int .i64 hg.l, .slice hg.a hg.n hg.c]) := by have := Box.new w7 #[.int .i64 hg.l, .slice hg.a hg.n hg.c] 45; rwa [hw8] at this
  have B8 : Hid (Below w.heap.size w w8) := B7.out.trans (hb.mono B7.out.size)
  have X8 : Hid (Box w8 w.heap.size 50 #[.int .i64 h.l, .slice h.a h.n h.c]) := X7.out.belowS hb
  have OW8 : Hid (OwnG w8 w2.heap.size w3.heap.size hw R) := OW7.out.below hb
  have YW8 : Hid (Box w8 w3.heap.size 45 #[.int .i64 hw.l, .slice hw.a hw.n hw.c]) := YW7.out.belowS hb
  have OX8 : Hid (OwnG w8 w4.heap.size w5.heap.size hx D) := OX7.out.below hb
  have YX8 : Hid (Box w8 w5.heap.size 45 #[.int .i64 hx.l, .slice hx.a hx.n hx.c]) := YX7.out.belowS hb
  have OG8 : Hid (OwnG w8 w6.heap.size w7.heap.size hg R) := OG7.out.below hb
  have q78 : w7.heap.size ≤ w8.heap.size := hb.size
  clear B7 X7 OW7 YW7 OX7 YX7 OG7 hb 
  have p8 : w7.heap.size < w8.heap.size := YG8.out.lt
  have hcc : (c != c) = false := by simp
  have hkk : (k != k) = false := by simp
  obtain ⟨v0, v1⟩ := box2 YG8.out
  obtain ⟨u0, u1⟩ := box2 YW8.out
  go_wp2_with fail
  refine (c_eqPage hg hw R w8 OG8.out.rd OW8.out.rd FR.out).mono ?_
  rintro e w9 ⟨rfl, hb⟩
  have B9 : Hid (Below w.heap.size w w9) := B8.out.trans (hb.mono B8.out.size)
  have X9 : Hid (Box w9 w.heap.size 50 #[.int .i64 h.l, .slice h.a h.n h.c]) := X8.out.belowS hb
  have OW9 : Hid (OwnG w9 w2.heap.size w3.heap.size hw R) := OW8.out.below hb
  have YW9 : Hid (Box w9 w3.heap.size 45 #[.int .i64 hw.l, .slice hw.a hw.n hw.c]) := YW8.out.belowS hb
  have OX9 : Hid (OwnG w9 w4.heap.size w5.heap.size hx D) := OX8.out.below hb
  have YX9 : Hid (Box w9 w5.heap.size 45 #[.int .i64 hx.l, .slice hx.a hx.n hx.c]) := YX8.out.belowS hb
  have OG9 : Hid (OwnG w9 w6.heap.size w7.heap.size hg R) := OG8.out.below hb
  have YG9 : Hid (Box w9 w7.heap.size 45 #[.int .i64 hg.l, .slice hg.a hg.n hg.c]) := YG8.out.belowS hb
  have q89 : w8.heap.size ≤ w9.heap.size := hb.size
  clear B8 X8 OW8 YW8 OX8 YX8 OG8 YG8 hb v0 v1 u0 u1
  obtain ⟨v0, v1⟩ := box2 X9.out
  obtain ⟨u0, u1⟩ := box2 YX9.out
  go_wp2_with fail
  go_region_held3 (fun x => x.cell? ⟨w.heap.size, 0, none⟩ = some (.int .i64 h.l) ∧ x.cell? ⟨w.heap.size, 1, none⟩ = some (.slice h.a h.n h.c) ∧ x.cell? ⟨w5.heap.size, 0, none⟩ = some (.int .i64 hx.l) ∧ x.cell? ⟨w5.heap.size, 1, none⟩ = some (.slice hx.a hx.n hx.c))
    (first | exact ⟨far6 hb8 (far6 hb7 v0), far6 hb8 (far6 hb7 v1), far6 hb8 (far6 hb7 u0), far6 hb8 (far6 hb7 u1)⟩ | exact ⟨far6 hb7 v0, far6 hb7 v1, far6 hb7 u0, far6 hb7 u1⟩ | go_keep)
    (first | (go_at_call 37; refine (C33.out F.out _ (below_drewN B9.out _)).mono ?_; rintro e wa ⟨⟨h7, rfl, o7⟩, hb7⟩)
           | (go_at_call 32; refine (c_eqPage hx h7 D _ ((OX9.out.rd.below (below_drewN (Below.refl _ _) _)).below hb7) o7.rd F.out).mono ?_; rintro e w10 ⟨rfl, hb8⟩))
  have hb : Below w9.heap.size w9 w10 := ((Below.refl w9.heap.size w9).drew.trans hb7).trans (hb8.mono hb7.size)
  clear hb7 hb8 o7 v0 v1 u0 u1
  have B10 : Hid (Below w.heap.size w w10) := B9.out.trans (hb.mono B9.out.size)
  have X10 : Hid (Box w10 w.heap.size 50 #[.int .i64 h.l, .slice h.a h.n h.c]) := X9.out.belowS hb
  have OW10 : Hid (OwnG w10 w2.heap.size w3.heap.size hw R) := OW9.out.below hb
  have YW10 : Hid (Box w10 w3.heap.size 45 #[.int .i64 hw.l, .slice hw.a hw.n hw.c]) := YW9.out.belowS hb
  have OX10 : Hid (OwnG w10 w4.heap.size w5.heap.size hx D) := OX9.out.below hb
  have YX10 : Hid (Box w10 w5.heap.size 45 #[.int .i64 hx.l, .slice hx.a hx.n hx.c]) := YX9.out.belowS hb
  have OG10 : Hid (OwnG w10 w6.heap.size w7.heap.size hg R) := OG9.out.below hb
  have YG10 : Hid (Box w10 w7.heap.size 45 #[.int .i64 hg.l, .slice hg.a hg.n hg.c]) := YG9.out.belowS hb
  have q910 : w9.heap.size ≤ w10.heap.size := hb.size
  clear B9 X9 OW9 YW9 OX9 YX9 OG9 YG9 hb 
  have nx0 := OX10.out.rd.len
  have fd0 := F.out.1
  have fr0 := FR.out.1
  have ng0 := OG10.out.rd.len
  obtain ⟨v0, v1⟩ := box2 YX10.out
  go_wp2_with fail
  refine (c_markPage hx D w4.heap.size w5.heap.size w10 OX10.out (by omega)).mono ?_
  rintro e w11 ⟨rfl, om, hi⟩
  clear om v0 v1
  have B11 : Hid (Below w.heap.size w w11) := B10.out.trans (hi.below (by omega) (by omega))
  have X11 : Hid (Box w11 w.heap.size 50 #[.int .i64 h.l, .slice h.a h.n h.c]) := X10.out.innO hi (by omega)
  have OW11 : Hid (OwnG w11 w2.heap.size w3.heap.size hw R) := OW10.out.inn hi (by omega)
  have YW11 : Hid (Box w11 w3.heap.size 45 #[.int .i64 hw.l, .slice hw.a hw.n hw.c]) := YW10.out.innO hi (by omega)
  have YX11 : Hid (Box w11 w5.heap.size 45 #[.int .i64 hx.l, .slice hx.a hx.n hx.c]) := YX10.out.innO hi (by omega)
  have OG11 : Hid (OwnG w11 w6.heap.size w7.heap.size hg R) := OG10.out.inn hi (by omega)
  have YG11 : Hid (Box w11 w7.heap.size 45 #[.int .i64 hg.l, .slice hg.a hg.n hg.c]) := YG10.out.innO hi (by omega)
  have q1011 : w10.heap.size ≤ w11.heap.size := hi.size
  clear hi B10 X10 OW10 YW10 OX10 YX10 OG10 YG10
  obtain ⟨v0, v1⟩ := box2 YG11.out
  obtain ⟨u0, u1⟩ := box2 YW11.out
  go_wp2_with fail
  refine (c_eqPage hg hw R w11 OG11.out.rd OW11.out.rd FR.out).mono ?_
  rintro e w12 ⟨rfl, hb⟩
  have B12 : Hid (Below w.heap.size w w12) := B11.out.trans (hb.mono B11.out.size)
  have X12 : Hid (Box w12 w.heap.size 50 #[.int .i64 h.l, .slice h.a h.n h.c]) := X11.out.belowS hb
  have OW12 : Hid (OwnG w12 w2.heap.size w3.heap.size hw R) := OW11.out.below hb
  have YW12 : Hid (Box w12 w3.heap.size 45 #[.int .i64 hw.l, .slice hw.a hw.n hw.c]) := YW11.out.belowS hb
  have YX12 : Hid (Box w12 w5.heap.size 45 #[.int .i64 hx.l, .slice hx.a hx.n hx.c]) := YX11.out.belowS hb
  have OG12 : Hid (OwnG w12 w6.heap.size w7.heap.size hg R) := OG11.out.below hb
  have YG12 : Hid (Box w12 w7.heap.size 45 #[.int .i64 hg.l, .slice hg.a hg.n hg.c]) := YG11.out.belowS hb
  have q1112 : w11.heap.size ≤ w12.heap.size := hb.size
  clear B11 X11 OW11 YW11 YX11 OG11 YG11 hb v0 v1 u0 u1
  obtain ⟨v0, v1⟩ := box2 YG12.out
  go_wp2_with fail
  refine (c_markPage hg R w6.heap.size w7.heap.size w12 OG12.out (by omega)).mono ?_
  rintro e w13 ⟨rfl, om, hi⟩
  have OM13 : Hid (OwnG w13 w6.heap.size w7.heap.size hg (markG hg)) := om
  clear om v0 v1
  have B13 : Hid (Below w.heap.size w w13) := B12.out.trans (hi.below (by omega) (by omega))
  have X13 : Hid (Box w13 w.heap.size 50 #[.int .i64 h.l, .slice h.a h.n h.c]) := X12.out.innO hi (by omega)
  have OW13 : Hid (OwnG w13 w2.heap.size w3.heap.size hw R) := OW12.out.inn hi (by omega)
  have YW13 : Hid (Box w13 w3.heap.size 45 #[.int .i64 hw.l, .slice hw.a hw.n hw.c]) := YW12.out.innO hi (by omega)
  have YX13 : Hid (Box w13 w5.heap.size 45 #[.int .i64 hx.l, .slice hx.a hx.n hx.c]) := YX12.out.innO hi (by omega)
  have YG13 : Hid (Box w13 w7.heap.size 45 #[.int .i64 hg.l, .slice hg.a hg.n hg.c]) := YG12.out.innO hi (by omega)
  have q1213 : w12.heap.size ≤ w13.heap.size := hi.size
  clear hi B12 X12 OW12 YW12 YX12 OG12 YG12
  have hmm : (((1 + hg.n : Nat) : Int) != ((1 + hg.n : Nat) : Int)) = false := by simp
  obtain ⟨v0, v1⟩ := box2 YG13.out
  go_wp2_with fail
  refine (c_heldPage hg w13 OM13.out.rd (by omega)).mono ?_
  rintro e w14 ⟨rfl, hb⟩
  have B14 : Hid (Below w.heap.size w w14) := B13.out.trans (hb.mono B13.out.size)
  have X14 : Hid (Box w14 w.heap.size 50 #[.int .i64 h.l, .slice h.a h.n h.c]) := X13.out.belowS hb
  have OW14 : Hid (OwnG w14 w2.heap.size w3.heap.size hw R) := OW13.out.below hb
  have YW14 : Hid (Box w14 w3.heap.size 45 #[.int .i64 hw.l, .slice hw.a hw.n hw.c]) := YW13.out.belowS hb
  have YX14 : Hid (Box w14 w5.heap.size 45 #[.int .i64 hx.l, .slice hx.a hx.n hx.c]) := YX13.out.belowS hb
  have YG14 : Hid (Box w14 w7.heap.size 45 #[.int .i64 hg.l, .slice hg.a hg.n hg.c]) := YG13.out.belowS hb
  have OM14 : Hid (OwnG w14 w6.heap.size w7.heap.size hg (markG hg)) := OM13.out.below hb
  have q1314 : w13.heap.size ≤ w14.heap.size := hb.size
  clear B13 X13 OW13 YW13 YX13 YG13 OM13 hb v0 v1
  obtain ⟨v0, v1⟩ := box2 X14.out
  go_wp2_with fail
  refine (C33.out F.out w14 B14.out).mono ?_
  rintro e w15 ⟨⟨hy, rfl, oy⟩, hb⟩
  have TY : Hid (RdG w15 hy D) := oy.rd
  have TYH : Hid (SrcG hy) := oy.src
  clear oy
  have B15 : Hid (Below w.heap.size w w15) := B14.out.trans (hb.mono B14.out.size)
  have X15 : Hid (Box w15 w.heap.size 50 #[.int .i64 h.l, .slice h.a h.n h.c]) := X14.out.belowS hb
  have OW15 : Hid (OwnG w15 w2.heap.size w3.heap.size hw R) := OW14.out.below hb
  have YW15 : Hid (Box w15 w3.heap.size 45 #[.int .i64 hw.l, .slice hw.a hw.n hw.c]) := YW14.out.belowS hb
  have YX15 : Hid (Box w15 w5.heap.size 45 #[.int .i64 hx.l, .slice hx.a hx.n hx.c]) := YX14.out.belowS hb
  have YG15 : Hid (Box w15 w7.heap.size 45 #[.int .i64 hg.l, .slice hg.a hg.n hg.c]) := YG14.out.belowS hb
  have OM15 : Hid (OwnG w15 w6.heap.size w7.heap.size hg (markG hg)) := OM14.out.below hb
  have q1415 : w14.heap.size ≤ w15.heap.size := hb.size
  clear B14 X14 OW14 YW14 YX14 YG14 OM14 hb v0 v1
  go_wp2_with fail
  refine (CI.out w15 hy B15.out TY.out TYH.out).mono ?_
  rintro e w16 ⟨⟨hz, rfl, ow⟩, hb⟩
  have OZ16 : Hid (OwnG w16 w15.heap.size w16.heap.size hz R) := ow
  clear ow
  have B16 : Hid (Below w.heap.size w w16) := B15.out.trans (hb.mono B15.out.size)
  have X16 : Hid (Box w16 w.heap.size 50 #[.int .i64 h.l, .slice h.a h.n h.c]) := X15.out.belowS hb
  have OW16 : Hid (OwnG w16 w2.heap.size w3.heap.size hw R) := OW15.out.below hb
  have YW16 : Hid (Box w16 w3.heap.size 45 #[.int .i64 hw.l, .slice hw.a hw.n hw.c]) := YW15.out.belowS hb
  have YX16 : Hid (Box w16 w5.heap.size 45 #[.int .i64 hx.l, .slice hx.a hx.n hx.c]) := YX15.out.belowS hb
  have YG16 : Hid (Box w16 w7.heap.size 45 #[.int .i64 hg.l, .slice hg.a hg.n hg.c]) := YG15.out.belowS hb
  have OM16 : Hid (OwnG w16 w6.heap.size w7.heap.size hg (markG hg)) := OM15.out.below hb
  have q1516 : w15.heap.size ≤ w16.heap.size := hb.size
  clear B15 X15 OW15 YW15 YX15 YG15 OM15 hb 
  clear TY TYH
  obtain ⟨w17, hw17⟩ : ∃ W, w16.alloc (.cells #[.int .i64 hz.l, .slice hz.a hz.n hz.c] 45) = W := ⟨_, rfl⟩
  have hb : Below w16.heap.size w16 w17 := by rw [← hw17]; exact (Below.refl _ _).alloc (Nat.le_refl _) _
  have YZ17 : Hid (Box w17 w16.heap.size 45 #[.int .i64 hz.l, .slice hz.a hz.n hz.c]) := by have := Box.new w16 #[.int .i64 hz.l, .slice hz.a hz.n hz.c] 45; rwa [hw17] at this
  have B17 : Hid (Below w.heap.size w w17) := B16.out.trans (hb.mono B16.out.size)
  have X17 : Hid (Box w17 w.heap.size 50 #[.int .i64 h.l, .slice h.a h.n h.c]) := X16.out.belowS hb
  have OW17 : Hid (OwnG w17 w2.heap.size w3.heap.size hw R) := OW16.out.below hb
  have YW17 : Hid (Box w17 w3.heap.size 45 #[.int .i64 hw.l, .slice hw.a hw.n hw.c]) := YW16.out.belowS hb
  have YX17 : Hid (Box w17 w5.heap.size 45 #[.int .i64 hx.l, .slice hx.a hx.n hx.c]) := YX16.out.belowS hb
  have YG17 : Hid (Box w17 w7.heap.size 45 #[.int .i64 hg.l, .slice hg.a hg.n hg.c]) := YG16.out.belowS hb
  have OM17 : Hid (OwnG w17 w6.heap.size w7.heap.size hg (markG hg)) := OM16.out.below hb
  have OZ17 : Hid (OwnG w17 w15.heap.size w16.heap.size hz R) := OZ16.out.below hb
  have q1617 : w16.heap.size ≤ w17.heap.size := hb.size
  clear B16 X16 OW16 YW16 YX16 YG16 OM16 OZ16 hb 
  have p17 : w16.heap.size < w17.heap.size := YZ17.out.lt
  obtain ⟨v0, v1⟩ := box2 YZ17.out
  obtain ⟨u0, u1⟩ := box2 YW17.out
  go_wp2_with fail
  refine (c_eqPage hz hw R w17 OZ17.out.rd OW17.out.rd FR.out).mono ?_
  rintro e w18 ⟨rfl, hb⟩
  have B18 : Hid (Below w.heap.size w w18) := B17.out.trans (hb.mono B17.out.size)
  have X18 : Hid (Box w18 w.heap.size 50 #[.int .i64 h.l, .slice h.a h.n h.c]) := X17.out.belowS hb
  have OW18 : Hid (OwnG w18 w2.heap.size w3.heap.size hw R) := OW17.out.below hb
  have YW18 : Hid (Box w18 w3.heap.size 45 #[.int .i64 hw.l, .slice hw.a hw.n hw.c]) := YW17.out.belowS hb
  have YX18 : Hid (Box w18 w5.heap.size 45 #[.int .i64 hx.l, .slice hx.a hx.n hx.c]) := YX17.out.belowS hb
  have YG18 : Hid (Box w18 w7.heap.size 45 #[.int .i64 hg.l, .slice hg.a hg.n hg.c]) := YG17.out.belowS hb
  have OM18 : Hid (OwnG w18 w6.heap.size w7.heap.size hg (markG hg)) := OM17.out.below hb
  have OZ18 : Hid (OwnG w18 w15.heap.size w16.heap.size hz R) := OZ17.out.below hb
  have YZ18 : Hid (Box w18 w16.heap.size 45 #[.int .i64 hz.l, .slice hz.a hz.n hz.c]) := YZ17.out.belowS hb
  have q1718 : w17.heap.size ≤ w18.heap.size := hb.size
  clear B17 X17 OW17 YW17 YX17 YG17 OM17 OZ17 YZ17 hb v0 v1 u0 u1
  obtain ⟨v0, v1⟩ := box2 YG18.out
  go_wp2_with fail
  refine (c_heldPage hg w18 OM18.out.rd (by omega)).mono ?_
  rintro e w19 ⟨rfl, hb⟩
  have B19 : Hid (Below w.heap.size w w19) := B18.out.trans (hb.mono B18.out.size)
  have X19 : Hid (Box w19 w.heap.size 50 #[.int .i64 h.l, .slice h.a h.n h.c]) := X18.out.belowS hb
  have OW19 : Hid (OwnG w19 w2.heap.size w3.heap.size hw R) := OW18.out.below hb
  have YW19 : Hid (Box w19 w3.heap.size 45 #[.int .i64 hw.l, .slice hw.a hw.n hw.c]) := YW18.out.belowS hb
  have YX19 : Hid (Box w19 w5.heap.size 45 #[.int .i64 hx.l, .slice hx.a hx.n hx.c]) := YX18.out.belowS hb
  have YG19 : Hid (Box w19 w7.heap.size 45 #[.int .i64 hg.l, .slice hg.a hg.n hg.c]) := YG18.out.belowS hb
  have OM19 : Hid (OwnG w19 w6.heap.size w7.heap.size hg (markG hg)) := OM18.out.below hb
  have OZ19 : Hid (OwnG w19 w15.heap.size w16.heap.size hz R) := OZ18.out.below hb
  have YZ19 : Hid (Box w19 w16.heap.size 45 #[.int .i64 hz.l, .slice hz.a hz.n hz.c]) := YZ18.out.belowS hb
  have q1819 : w18.heap.size ≤ w19.heap.size := hb.size
  clear B18 X18 OW18 YW18 YX18 YG18 OM18 OZ18 YZ18 hb v0 v1
  go_wp2
  go_ret
  exact ⟨rfl, B19.out⟩
end Go.Proofs.Ytaemdndkajomcaa
