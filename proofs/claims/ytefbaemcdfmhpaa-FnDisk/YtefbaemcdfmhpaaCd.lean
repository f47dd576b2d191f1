/-
  The program's own copy of a disk.
-/
import Derived.Test.YtefbaemcdfmhpaaOw
namespace Go.Proofs.Ytefbaemcdfmhpaa
open Go Go.RowKit
attribute [local go_sem ↓] Go.wp_at_zero Go.wp_at_succ

theorem own_dn {w : World} {base e size n : Nat} {v : Value} {xs : List Value} (h : w.ownsRow base e size v n xs) : w.drew.ownsRow base e size v n xs := h
set_option maxHeartbeats 8000000 in
theorem c_copyDisk (h : HD) (D : DD) (w : World) (r : RdD w h D) (hk : HOK h) (hf : Fit D) :
    Calls Try.prog 45 #[.agg #[.slice h.a0 h.n0 h.c0, .slice h.a1 h.n1 h.c1, .bool h.b, .slice h.a2 h.n2 h.c2]] w fun e w' => (∃ h' : HD, e = .returned (.agg #[.slice h'.a0 h'.n0 h'.c0, .slice h'.a1 h'.n1 h'.c1, .bool h'.b, .slice h'.a2 h'.n2 h'.c2]) ∧ OwnD w' w.heap.size w'.heap.size h' D) ∧ Below w.heap.size w w' := by
  have k0 := r.l0
  have k1 := r.l1
  have k2 := r.l2
  obtain ⟨f0, f1, f2, _, _⟩ := hf
  obtain ⟨rb, r0, r1, r2⟩ := r
  obtain ⟨a0, n0, c0, a1, n1, c1, b, a2, n2, c2⟩ := h
  obtain ⟨q0, q1, q2⟩ := hk
  simp only at *
  subst k0 k1 k2 rb
  have HB : Hid (Below w.heap.size w ((w.alloc (.cells #[.slice a0 D.S.length c0, .slice a1 D.C.length c1, .bool D.A, .slice a2 D.K.length c2] 27)).alloc (.cells #[.slice none 0 0, .slice none 0 0, .bool false, .slice none 0 0] 27))) := ((Below.refl _ _).alloc (Nat.le_refl _) _).alloc (by simp) _
  have BX : Hid (Box ((w.alloc (.cells #[.slice a0 D.S.length c0, .slice a1 D.C.length c1, .bool D.A, .slice a2 D.K.length c2] 27)).alloc (.cells #[.slice none 0 0, .slice none 0 0, .bool false, .slice none 0 0] 27)) w.heap.size 27 #[.slice a0 D.S.length c0, .slice a1 D.C.length c1, .bool D.A, .slice a2 D.K.length c2]) := (Box.new _ _ _).alloc _
  have BR : Hid (Box ((w.alloc (.cells #[.slice a0 D.S.length c0, .slice a1 D.C.length c1, .bool D.A, .slice a2 D.K.length c2] 27)).alloc (.cells #[.slice none 0 0, .slice none 0 0, .bool false, .slice none 0 0] 27)) (w.heap.size + 1) 27 #[.slice none 0 0, .slice none 0 0, .bool false, .slice none 0 0]) := Box.new2 _ _ _ _
  have C0 : Hid (∀ W, Below w.heap.size w W → Calls Try.prog 76 #[.slice a0 D.S.length c0] W fun e w' => (∃ a' c', e = .returned (.slice a' D.S.length c') ∧ w'.ownsRow W.heap.size 9 1 (.slice a' D.S.length c') D.S.length (D.S.map Value.string) ∧ ∀ g, ob a' = some g → W.heap.size ≤ g ∧ g < w'.heap.size) ∧ Below W.heap.size W w') := fun W hW => c_cpS a0 _ c0 D.S W (r0.below hW) q0 f0
  have C1 : Hid (∀ W, Below w.heap.size w W → Calls Try.prog 77 #[.slice a1 D.C.length c1] W fun e w' => (∃ a' c', e = .returned (.slice a' D.C.length c') ∧ w'.ownsRow W.heap.size 42 2 (.slice a' D.C.length c') D.C.length (cellsP D.C) ∧ ∀ g, ob a' = some g → W.heap.size ≤ g ∧ g < w'.heap.size) ∧ Below W.heap.size W w') := fun W hW => c_cpP a1 _ c1 D.C W (r1.below hW) q1 f1
  have C2 : Hid (∀ W, Below w.heap.size w W → Calls Try.prog 57 #[.slice a2 D.K.length c2] W fun e w' => (∃ a' c', e = .returned (.slice a' D.K.length c') ∧ w'.ownsRow W.heap.size 3 1 (.slice a' D.K.length c') D.K.length (D.K.map (Value.int .i64)) ∧ ∀ g, ob a' = some g → W.heap.size ≤ g ∧ g < w'.heap.size) ∧ Below W.heap.size W w') := fun W hW => c_cpI a2 _ c2 D.K W (r2.below hW) q2 f2
  clear r0 r1 r2 q0 q1 q2
  obtain ⟨V, hV⟩ : ∃ V, ((w.alloc (.cells #[.slice a0 D.S.length c0, .slice a1 D.C.length c1, .bool D.A, .slice a2 D.K.length c2] 27)).alloc (.cells #[.slice none 0 0, .slice none 0 0, .bool false, .slice none 0 0] 27)) = V := ⟨_, rfl⟩
  rw [hV] at HB BX BR
  obtain ⟨v0, v1, v2, v3⟩ := box4 BX.out
  go_enter Try.func45, Try.ntmps45
  go_wp2_with fail
  go_region_with (first
    | (go_at_call 76
       refine (C0.out _ ?_).mono ?_
       · first | exact below_drewN HB.out _ | exact HB.out.drew | exact HB.out
       rintro e w1 ⟨⟨b0, e0, rfl, o0, g0⟩, hb1⟩
       have u0 := far6 hb1 v0
       have u1 := far6 hb1 v1
       have u3 := far6 hb1 v3)
    | (go_at_call 77
       refine (C1.out _ ?_).mono ?_
       · exact HB.out.drew.trans (hb1.mono HB.out.size)
       rintro e w2 ⟨⟨b1, e1, rfl, o1, g1⟩, hb2⟩
       have t0 := far6 hb2 u0
       have t1 := far6 hb2 u1
       have t3 := far6 hb2 u3)
    | (go_at_call 57
       refine (C2.out _ ?_).mono ?_
       · exact (HB.out.drew.trans (hb1.mono HB.out.size)).trans (hb2.mono (Nat.le_trans HB.out.size hb1.size))
       rintro e w3 ⟨⟨b2, e2, rfl, o2, g2⟩, hb3⟩
       have x3 := ((BX.out.drewN 1).belowS hb1 |>.belowS hb2).belowS hb3
       obtain ⟨s0, s1, s2, s3⟩ := box4 x3
       have z0 := x3.thaw 0
       have z1 := x3.thaw 1
       have z3 := x3.thaw 3))
  all_goals
    have y3 := ((BR.out.drewN 1).belowS hb1 |>.belowS hb2).belowS hb3
    have L1 : V.heap.size ≤ w1.heap.size := hb1.size
    have L2 : w1.heap.size ≤ w2.heap.size := hb2.size
    have L3 : w2.heap.size ≤ w3.heap.size := hb3.size
    have L0 : w.heap.size + 1 < V.heap.size := BR.out.lt
    have HB3 : Below w.heap.size w w3 := ((HB.out.drew.trans (hb1.mono HB.out.size)).trans (hb2.mono (Nat.le_trans HB.out.size hb1.size))).trans (hb3.mono (by omega))
    have g0' : ∀ g, ob b0 = some g → V.heap.size ≤ g ∧ g < w1.heap.size := g0
    have p0 : w3.ownsRow w.heap.size 9 1 (.slice b0 D.S.length e0) D.S.length (D.S.map Value.string) := (own_below (own_below o0 hb2) hb3).down (by show w.heap.size ≤ V.heap.size; omega)
    have p1 : w3.ownsRow w.heap.size 42 2 (.slice b1 D.C.length e1) D.C.length (cellsP D.C) := (own_below o1 hb3).down (by omega)
    have p2 : w3.ownsRow w.heap.size 3 1 (.slice b2 D.K.length e2) D.K.length (D.K.map (Value.int .i64)) := o2.down (by omega)
    obtain ⟨V3, hV3⟩ : ∃ V3, ((w3.setCell ⟨w.heap.size, 0, none⟩ (.slice b0 D.S.length e0)).setCell ⟨w.heap.size, 1, none⟩ (.slice b1 D.C.length e1)).setCell ⟨w.heap.size, 3, none⟩ (.slice b2 D.K.length e2) = V3 := ⟨_, rfl⟩
    have x4 := ((x3.set 0 (.slice b0 D.S.length e0)).set 1 (.slice b1 D.C.length e1)).set 3 (.slice b2 D.K.length e2)
    have y4 := ((y3.setOther ⟨w.heap.size, 0, none⟩ (.slice b0 D.S.length e0) (show w.heap.size + 1 ≠ w.heap.size by omega)).setOther ⟨w.heap.size, 1, none⟩ (.slice b1 D.C.length e1) (show w.heap.size + 1 ≠ w.heap.size by omega)).setOther ⟨w.heap.size, 3, none⟩ (.slice b2 D.K.length e2) (show w.heap.size + 1 ≠ w.heap.size by omega)
    have S4 : V3.heap.size = w3.heap.size := by rw [← hV3]; simp
    have K4 : ∀ g, g ≠ w.heap.size → V3.heap[g]? = w3.heap[g]? := fun g hg => by rw [← hV3, Below.heap_setCell _ _ _ _ hg, Below.heap_setCell _ _ _ _ hg, Below.heap_setCell _ _ _ _ hg]
    have B4 : Below w.heap.size w V3 := by rw [← hV3]; exact ((HB3.setCell (Nat.le_refl _) _).setCell (Nat.le_refl _) _).setCell (Nat.le_refl _) _
    rw [hV3] at x4 y4
    simp at x4
    have P0 : Hid (V3.ownsRow w.heap.size 9 1 (.slice b0 D.S.length e0) D.S.length (D.S.map Value.string)) := own_same p0 fun g e => K4 g (by rw [ob_slice] at e; have := g0' g e; omega)
    have P1 : Hid (V3.ownsRow w.heap.size 42 2 (.slice b1 D.C.length e1) D.C.length (cellsP D.C)) := own_same p1 fun g e => K4 g (by rw [ob_slice] at e; have := g1 g e; omega)
    have P2 : Hid (V3.ownsRow w.heap.size 3 1 (.slice b2 D.K.length e2) D.K.length (D.K.map (Value.int .i64))) := own_same p2 fun g e => K4 g (by rw [ob_slice] at e; have := g2 g e; omega)
    have G0 : Hid (∀ g, ob b0 = some g → w.heap.size + 1 < g ∧ g < w1.heap.size) := fun g e => by have := g0' g e; omega
    have G1 : Hid (∀ g, ob b1 = some g → w1.heap.size ≤ g ∧ g < w2.heap.size) := g1
    have G2 : Hid (∀ g, ob b2 = some g → w2.heap.size ≤ g ∧ g < w3.heap.size) := g2
    have HB4 : Hid (Below w.heap.size w V3) := B4
    have HS4 : Hid (V3.heap.size = w3.heap.size) := S4
    clear u0 u1 u3 t0 t1 t3 s0 s1 s2 s3 z0 z1 z3 v0 v1 v2 v3 hb1 hb2 hb3 o0 o1 o2 g0 g1 g2 g0' p0 p1 p2 x3 y3 HB3 K4 B4 S4
    obtain ⟨v0, v1, v2, v3⟩ := box4 x4
    obtain ⟨y0, yy1, y2, y3⟩ := box4 y4
    have z0 := y4.thaw 0
    have z1 := y4.thaw 1
    have z2 := y4.thaw 2
    have z3 := y4.thaw 3
    have Y4 : Hid (Box V3 (w.heap.size + 1) 27 #[.slice none 0 0, .slice none 0 0, .bool false, .slice none 0 0]) := y4
    clear x4 y4
    go_wp2
    refine ret_box1 Try.results45 rfl rfl (put4_box Y4.out _ _ _ _) ⟨⟨⟨b0, D.S.length, e0, b1, D.C.length, e1, D.A, b2, D.K.length, e2⟩, rfl, rfl, own_same P0.out fun g e => put4_same _ _ _ _ _ _ _ (by rw [ob_slice] at e; have := G0.out g e; omega), own_same P1.out fun g e => put4_same _ _ _ _ _ _ _ (by rw [ob_slice] at e; have := G1.out g e; omega), own_same P2.out fun g e => put4_same _ _ _ _ _ _ _ (by rw [ob_slice] at e; have := G2.out g e; omega), Nat.le_refl _, fun g e => ?_, fun g e => ?_, fun g e => ?_⟩, put4_below HB4.out (by omega) _ _ _ _⟩
    · have h0 := G0.out g e
      have := HS4.out
      refine ⟨by omega, by simp; omega, fun e' => ?_, fun e' => ?_⟩
      · have := G1.out g e'; omega
      · have := G2.out g e'; omega
    · have h0 := G1.out g e
      have := HS4.out
      refine ⟨by omega, by simp; omega, fun e' => ?_⟩
      have := G2.out g e'; omega
    · have h0 := G2.out g e
      have := HS4.out
      exact ⟨by omega, by simp; omega⟩
end Go.Proofs.Ytefbaemcdfmhpaa
