/-
  A crash: the specification's.
-/
import Derived.Test.YtefbaemcdfmhpaaCr
namespace Go.Proofs.Ytefbaemcdfmhpaa
open Go Go.RowKit
attribute [local go_sem ↓] Go.wp_at_zero Go.wp_at_succ

theorem own_empty {w : World} {B g e size : Nat} (h : Box w g e #[]) (hb : B ≤ g) : w.ownsRow B e size (.slice (some ⟨g, 0, none⟩) 0 0) 0 [] :=
  ⟨by simp, .inr ⟨g, 0, #[], rfl, hb, h, Nat.le_refl _, Nat.zero_le _, by simp, by simp⟩⟩
theorem two_empty {w : World} {B n c x y : Nat} {a : Option Addr} {S : List ByteArray} (hx : B ≤ x ∧ x < w.heap.size) (hy : B ≤ y ∧ y < w.heap.size) (hxy : x ≠ y) (o : w.ownsRow B 9 1 (.slice a n c) n (S.map Value.string)) (h1 : Box w x 42 #[]) (h2 : Box w y 3 #[]) (ha : ∀ g, ob a = some g → g ≠ x ∧ g ≠ y) :
    OwnD w B w.heap.size ⟨a, n, c, some ⟨x, 0, none⟩, 0, 0, false, some ⟨y, 0, none⟩, 0, 0⟩ ⟨S, [], false, []⟩ :=
  ⟨rfl, o, own_empty h1 hx.1, own_empty h2 hy.1, Nat.le_refl _, fun g e => by
    have e' : ob a = some g := e
    have h := ha g e'
    rw [← ob_slice _ n c] at e'
    exact ⟨(o.lt g e').1, (o.lt g e').2, fun h' => h.1 (Option.some.inj h').symm, fun h' => h.2 (Option.some.inj h').symm⟩,
   fun g e => by have e' : x = g := Option.some.inj e; subst e'; exact ⟨hx.1, hx.2, fun h' => hxy (Option.some.inj h').symm⟩,
   fun g e => by have e' : y = g := Option.some.inj e; subst e'; exact hy⟩

set_option maxHeartbeats 4000000 in
theorem c_specCrash (h : HD) (D : DD) (ka : Option Addr) (kn kc : Nat) (K : List Int) (w : World) (r : RdD w h D) (hk : HOK h) (hf : Fit D) (hg : goodD D) (rk : RdV w ka kn (K.map (Value.int .i64))) (hkn : kn ≤ 1048576) :
    Calls Try.prog 53 #[.agg #[.slice h.a0 h.n0 h.c0, .slice h.a1 h.n1 h.c1, .bool h.b, .slice h.a2 h.n2 h.c2], .slice ka kn kc] w fun e w' => (∃ h' : HD, e = .returned (.agg #[.slice h'.a0 h'.n0 h'.c0, .slice h'.a1 h'.n1 h'.c1, .bool h'.b, .slice h'.a2 h'.n2 h'.c2]) ∧ OwnD w' w.heap.size w'.heap.size h' (crashD D K)) ∧ Below w.heap.size w w' := by
  have k0 := r.l0
  have k1 := r.l1
  have k2 := r.l2
  have F : Hid (Fit D) := hf
  obtain ⟨f0, f1, f2, _, _⟩ := hf
  have R : Hid (RdD w h D) := r
  have HK0 : Hid (HOK h) := hk
  obtain ⟨rb, r0, r1, r2⟩ := r
  obtain ⟨a0, n0, c0, a1, n1, c1, b, a2, n2, c2⟩ := h
  simp only at *
  subst k0 k1 k2 rb
  have lk : K.length = kn := by simpa using rk.1
  have R1 : Hid (RdP w a1 D.C.length D.C) := r1
  have RK : Hid (RdV w ka kn (K.map (Value.int .i64))) := rk
  have HG : Hid (goodD D) := hg
  have HB : Hid (Below w.heap.size w ((w.alloc (.cells #[.slice a0 D.S.length c0, .slice a1 D.C.length c1, .bool D.A, .slice a2 D.K.length c2] 27)).alloc (.cells #[.slice none 0 0, .slice none 0 0, .bool false, .slice none 0 0] 27))) := ((Below.refl _ _).alloc (Nat.le_refl _) _).alloc (by simp) _
  have BX : Hid (Box ((w.alloc (.cells #[.slice a0 D.S.length c0, .slice a1 D.C.length c1, .bool D.A, .slice a2 D.K.length c2] 27)).alloc (.cells #[.slice none 0 0, .slice none 0 0, .bool false, .slice none 0 0] 27)) w.heap.size 27 #[.slice a0 D.S.length c0, .slice a1 D.C.length c1, .bool D.A, .slice a2 D.K.length c2]) := (Box.new _ _ _).alloc _
  have BR : Hid (Box ((w.alloc (.cells #[.slice a0 D.S.length c0, .slice a1 D.C.length c1, .bool D.A, .slice a2 D.K.length c2] 27)).alloc (.cells #[.slice none 0 0, .slice none 0 0, .bool false, .slice none 0 0] 27)) (w.heap.size + 1) 27 #[.slice none 0 0, .slice none 0 0, .bool false, .slice none 0 0]) := Box.new2 _ _ _ _
  clear r0 r1 r2 rk hg hk
  go_enter Try.func53, Try.ntmps53
  go_wp2_with fail
  refine (c_own ⟨a0, D.S.length, c0, a1, D.C.length, c1, D.A, a2, D.K.length, c2⟩ D _ (R.out.below HB.out) HK0.out F.out).mono ?_
  rintro e w1 ⟨⟨⟨u0, m0, d0, u1, m1, d1, ub, u2, m2, d2⟩, rfl, o1⟩, hb⟩
  have B1 : Hid (Below w.heap.size w (w1.alloc (.cells #[.slice u0 m0 d0, .slice u1 m1 d1, .bool ub, .slice u2 m2 d2] 27))) := (HB.out.trans (hb.mono HB.out.size)).alloc (Nat.le_trans HB.out.size hb.size) _
  have X1 : Hid (Box (w1.alloc (.cells #[.slice u0 m0 d0, .slice u1 m1 d1, .bool ub, .slice u2 m2 d2] 27)) w.heap.size 27 #[.slice a0 D.S.length c0, .slice a1 D.C.length c1, .bool D.A, .slice a2 D.K.length c2]) := (BX.out.belowS hb).alloc _
  have Y1 : Hid (Box (w1.alloc (.cells #[.slice u0 m0 d0, .slice u1 m1 d1, .bool ub, .slice u2 m2 d2] 27)) (w.heap.size + 1) 27 #[.slice none 0 0, .slice none 0 0, .bool false, .slice none 0 0]) := (BR.out.belowS hb).alloc _
  have Z1 : Hid (Box (w1.alloc (.cells #[.slice u0 m0 d0, .slice u1 m1 d1, .bool ub, .slice u2 m2 d2] 27)) w1.heap.size 27 #[.slice u0 m0 d0, .slice u1 m1 d1, .bool ub, .slice u2 m2 d2]) := Box.new _ _ _
  have hm0 : D.S.length = m0 := o1.rd.l0
  subst hm0
  have O1 : Hid ((w1.alloc (.cells #[.slice u0 D.S.length d0, .slice u1 m1 d1, .bool ub, .slice u2 m2 d2] 27)).ownsRow w.heap.size 9 1 (.slice u0 D.S.length d0) D.S.length (D.S.map Value.string)) := (o1.2.1.down (by simp; omega)).alloc _
  have G1 : Hid (∀ g, ob u0 = some g → w.heap.size + 1 < g ∧ g < w1.heap.size) := fun g e => by have := o1.2.2.2.2.2.1 g e; simp at this; omega
  have LW : Hid (w.heap.size + 1 < w1.heap.size) := (BR.out.belowS hb).lt
  clear hb o1 HB BX BR R HK0
  go_wp2
  go_loopw [6] (fun i wr => ∃ k : Nat, k ≤ D.C.length ∧ i = .int .i64 k ∧ wr.ownsRow w.heap.size 9 1 (.slice u0 D.S.length d0) D.S.length ((settle D.S (keptN D.C K k)).map Value.string) ∧ Below w.heap.size w wr ∧ Box wr w.heap.size 27 #[.slice a0 D.S.length c0, .slice a1 D.C.length c1, .bool D.A, .slice a2 D.K.length c2] ∧ Box wr (w.heap.size + 1) 27 #[.slice none 0 0, .slice none 0 0, .bool false, .slice none 0 0] ∧ Box wr w1.heap.size 27 #[.slice u0 D.S.length d0, .slice u1 m1 d1, .bool ub, .slice u2 m2 d2]) (fun i _ => D.C.length - (intOf i).toNat)
  case atStart => exact ⟨0, by omega, rfl, by simpa [keptN, settle] using O1.out, B1.out, X1.out, Y1.out, Z1.out⟩
  case round =>
    obtain ⟨k, hk, rfl, hown, hb, bx, br, bo⟩ := hrel
    obtain ⟨v0, v1, v2, v3⟩ := box4 bx
    obtain ⟨x0, x1, x2, x3⟩ := box4 bo
    have l0 := bx.lt
    have l1 := br.lt
    have l2 := bo.lt
    by_cases hlt : k < D.C.length
    · obtain ⟨bb, off, rfl, hbl, hc⟩ := R1.out.2 (by omega)
      obtain ⟨⟨xa, xt⟩, hx⟩ : ∃ x, x = D.C.getD k dP := ⟨_, rfl⟩
      obtain ⟨d0', d1'⟩ := hc k hlt
      rw [← hx] at d0' d1'
      have hgk : 0 ≤ xa ∧ xa < (D.S.length : Int) := by
        have := HG.out _ (getD_mem D.C k (by omega))
        rw [← hx] at this
        exact this
      obtain ⟨m, rfl⟩ : ∃ m : Nat, xa = (m : Int) := ⟨xa.toNat, by omega⟩
      have hm : m < D.S.length := by omega
      have e0 : wr.cell? ⟨bb, off + k * 2, none⟩ = some (.int .i64 m) := (hb.cell (p := ⟨bb, off + k * 2, none⟩) hbl).trans d0'
      have e1 : wr.cell? ⟨bb, off + k * 2 + 1, none⟩ = some (.string xt) := (hb.cell (p := ⟨bb, off + k * 2 + 1, none⟩) hbl).trans d1'
      have HX : Hid (((m : Int), xt) = D.C.getD k dP) := hx
      clear hc hx d0' d1'
      by_cases hkk : k < kn
      · obtain ⟨b3, off3, rfl, hbl3, hc3⟩ := RK.out.2 (by omega)
        obtain ⟨y, hy⟩ : ∃ y, y = K.getD k 0 := ⟨_, rfl⟩
        have d3 : wr.cell? ⟨b3, off3 + k, none⟩ = some (.int .i64 y) := by rw [hb.cell (p := ⟨b3, off3 + k, none⟩) hbl3, hc3 k hkk, hy]; exact map_get _ _ _ _ (by omega)
        clear hc3
        by_cases hz : y = 0
        · subst hz
          have HK : Hid (keptN D.C K (k + 1) = keptN D.C K k) := keptN_no hy.symm
          clear hy
          go_wp2
          go_roundw
          case rel => exact ⟨k + 1, by omega, by go_num, by rw [HK.out]; exact hown, hb, bx, br, bo⟩
          case measure => simp [intOf]; omega
        · have hyz : (y != 0) = true := by simpa using hz
          have HK : Hid (keptN D.C K (k + 1) = keptN D.C K k ++ [((m : Int), xt)]) := by rw [HX.out]; exact keptN_yes (by rw [← hy]; exact hz)
          clear hy hz
          rcases own_form hown with ⟨hv, h0⟩ | ⟨g, cap, hv, hg1, hg2⟩
          · omega
          · cases hv
            have hgr := G1.out g rfl
            have hsl : ((settle D.S (keptN D.C K k)).map Value.string).length = D.S.length := by simp [settle_len]
            obtain ⟨old, hold⟩ : ∃ old, wr.cell? ⟨g, m, none⟩ = some old := by
              rw [hown.cellAt m (by omega)]
              exact ⟨_, List.getElem?_eq_getElem (by omega)⟩
            have hfz := hown.frozenAt m
            have hown2 := (hown.stored m (.string xt)).1
            have hst : ((settle D.S (keptN D.C K k)).map Value.string).set m (.string xt) = (settle D.S (keptN D.C K (k + 1))).map Value.string := by
              rw [HK.out, settle_snoc, List.map_set]; simp
            rw [hst] at hown2
            have HO : Hid ((wr.setCell ⟨g, m, none⟩ (.string xt)).ownsRow w.heap.size 9 1 (.slice (some ⟨g, 0, none⟩) D.S.length d0) D.S.length _) := hown2
            have HB2 : Hid (Below w.heap.size w (wr.setCell ⟨g, m, none⟩ (.string xt))) := hb.setCell hg1 _
            have HX2 : Hid (Box (wr.setCell ⟨g, m, none⟩ (.string xt)) w.heap.size 27 _) := bx.setOther _ _ (show w.heap.size ≠ g by omega)
            have HY2 : Hid (Box (wr.setCell ⟨g, m, none⟩ (.string xt)) (w.heap.size + 1) 27 _) := br.setOther _ _ (show w.heap.size + 1 ≠ g by omega)
            have HZ2 : Hid (Box (wr.setCell ⟨g, m, none⟩ (.string xt)) w1.heap.size 27 _) := bo.setOther _ _ (show w1.heap.size ≠ g by omega)
            have g1 : (0 : Int) ≤ (k : Int) := by omega
            have g2 : (k : Int) < (D.C.length : Int) := by omega
            have g3 : (0 : Int) ≤ (m : Int) := by omega
            have g4 : (m : Int) < (D.S.length : Int) := by omega
            have KE0 : Hid ((wr.setCell ⟨g, m, none⟩ (.string xt)).cell? ⟨bb, off + k * 2, none⟩ = some (.int .i64 m)) := (World.cell?_of_block (Below.heap_setCell wr ⟨g, m, none⟩ _ bb (show bb ≠ g by omega))).trans e0
            have KE1 : Hid ((wr.setCell ⟨g, m, none⟩ (.string xt)).cell? ⟨bb, off + k * 2 + 1, none⟩ = some (.string xt)) := (World.cell?_of_block (Below.heap_setCell wr ⟨g, m, none⟩ _ bb (show bb ≠ g by omega))).trans e1
            have KK : Hid ((wr.setCell ⟨g, m, none⟩ (.string xt)).drew.cell? ⟨w1.heap.size, 0, none⟩ = some (.slice (some ⟨g, 0, none⟩) D.S.length d0) ∧ (wr.setCell ⟨g, m, none⟩ (.string xt)).drew.cell? ⟨w.heap.size, 1, none⟩ = some (.slice (some ⟨bb, off, none⟩) D.C.length c1) ∧ (wr.setCell ⟨g, m, none⟩ (.string xt)).drew.cell? ⟨bb, off + k * 2, none⟩ = some (.int .i64 m) ∧ (wr.setCell ⟨g, m, none⟩ (.string xt)).drew.cell? ⟨bb, off + k * 2 + 1, none⟩ = some (.string xt)) :=
              ⟨(box4 (HZ2.out.drewN 1)).1, (box4 (HX2.out.drewN 1)).2.1, KE0.out, KE1.out⟩
            clear hown hown2 hst hb bx br bo
            go_wp2_with fail
            go_region_held3 (fun x => x.cell? ⟨w1.heap.size, 0, none⟩ = some (.slice (some ⟨g, 0, none⟩) D.S.length d0) ∧ x.cell? ⟨w.heap.size, 1, none⟩ = some (.slice (some ⟨bb, off, none⟩) D.C.length c1) ∧ x.cell? ⟨bb, off + k * 2, none⟩ = some (.int .i64 m) ∧ x.cell? ⟨bb, off + k * 2 + 1, none⟩ = some (.string xt))
              (first | exact KK.out | go_keep)
              (first | fail)
            have HZD : Hid (Box (wr.setCell ⟨g, m, none⟩ (.string xt)).drew w1.heap.size 27 _) := HZ2.out.drewN 1
            have HXD : Hid (Box (wr.setCell ⟨g, m, none⟩ (.string xt)).drew w.heap.size 27 _) := HX2.out.drewN 1
            have HYD : Hid (Box (wr.setCell ⟨g, m, none⟩ (.string xt)).drew (w.heap.size + 1) 27 _) := HY2.out.drewN 1
            have HOD : Hid ((wr.setCell ⟨g, m, none⟩ (.string xt)).drew.ownsRow w.heap.size 9 1 (.slice (some ⟨g, 0, none⟩) D.S.length d0) D.S.length _) := HO.out
            have HBD : Hid (Below w.heap.size w (wr.setCell ⟨g, m, none⟩ (.string xt)).drew) := HB2.out.drew
            go_wp2
            go_roundw
            case rel => exact ⟨k + 1, by omega, by go_num, HOD.out, HBD.out, HXD.out, HYD.out, HZD.out⟩
            case measure => simp [intOf]; omega
      · have HK : Hid (keptN D.C K (k + 1) = keptN D.C K k) := keptN_no (getD_beyond K k (by omega))
        go_wp2
        go_roundw
        case rel => exact ⟨k + 1, by omega, by go_num, by rw [HK.out]; exact hown, hb, bx, br, bo⟩
        case measure => simp [intOf]; omega
    · have e : k = D.C.length := by omega
      subst e
      clear x0 x1 x2 x3
      obtain ⟨W1, hW1⟩ : ∃ W1, wr.alloc (.cells #[] 42) = W1 := ⟨_, rfl⟩
      obtain ⟨W2, hW2⟩ : ∃ W2, W1.setCell ⟨w1.heap.size, 1, none⟩ (.slice (some ⟨wr.heap.size, 0, none⟩) 0 0) = W2 := ⟨_, rfl⟩
      obtain ⟨W3, hW3⟩ : ∃ W3, W2.setCell ⟨w1.heap.size, 2, none⟩ (.bool false) = W3 := ⟨_, rfl⟩
      obtain ⟨W4, hW4⟩ : ∃ W4, W3.alloc (.cells #[] 3) = W4 := ⟨_, rfl⟩
      obtain ⟨W5, hW5⟩ : ∃ W5, W4.setCell ⟨w1.heap.size, 3, none⟩ (.slice (some ⟨W3.heap.size, 0, none⟩) 0 0) = W5 := ⟨_, rfl⟩
      have o1 := bo.alloc (.cells #[] 42)
      have p1 := br.alloc (.cells #[] 42)
      rw [hW1] at o1 p1
      have o2 := o1.set 1 (.slice (some ⟨wr.heap.size, 0, none⟩) 0 0)
      have p2 := p1.setOther ⟨w1.heap.size, 1, none⟩ (.slice (some ⟨wr.heap.size, 0, none⟩) 0 0) (show w.heap.size + 1 ≠ w1.heap.size by have := LW.out; omega)
      rw [hW2] at o2 p2
      have o3 := o2.set 2 (.bool false)
      have p3 := p2.setOther ⟨w1.heap.size, 2, none⟩ (.bool false) (show w.heap.size + 1 ≠ w1.heap.size by have := LW.out; omega)
      rw [hW3] at o3 p3
      have o4 := o3.alloc (.cells #[] 3)
      have p4 := p3.alloc (.cells #[] 3)
      rw [hW4] at o4 p4
      have o5 := o4.set 3 (.slice (some ⟨W3.heap.size, 0, none⟩) 0 0)
      have p5 := p4.setOther ⟨w1.heap.size, 3, none⟩ (.slice (some ⟨W3.heap.size, 0, none⟩) 0 0) (show w.heap.size + 1 ≠ w1.heap.size by have := LW.out; omega)
      rw [hW5] at o5 p5
      simp at o2 o3 o4 o5
      have s1 := o1.cell 1
      have t1 := o1.thaw 1
      have s2 := o2.cell 2
      have t2 := o2.thaw 2
      have s3 := o4.cell 3
      have t3 := o4.thaw 3
      simp at s1 s2 s3
      obtain ⟨x0, x1, x2, x3⟩ := box4 o5
      obtain ⟨y0, y1, y2, y3⟩ := box4 p5
      have z0 := p5.thaw 0
      have z1 := p5.thaw 1
      have z2 := p5.thaw 2
      have z3 := p5.thaw 3
      have P5 : Hid (Box W5 (w.heap.size + 1) 27 #[.slice none 0 0, .slice none 0 0, .bool false, .slice none 0 0]) := p5
      have B5 : Hid (Below w.heap.size w W5) := by
        unfold Hid
        rw [← hW5, ← hW4, ← hW3, ← hW2, ← hW1]
        exact (((((hb.alloc hb.size _).setCell (show w.heap.size ≤ w1.heap.size by have := LW.out; omega) _).setCell (show w.heap.size ≤ w1.heap.size by have := LW.out; omega) _).alloc (by have := hb.size; simp; omega) _).setCell (show w.heap.size ≤ w1.heap.size by have := LW.out; omega) _)
      have S5 : Hid (W3.heap.size = wr.heap.size + 1 ∧ W5.heap.size = wr.heap.size + 1 + 1) := by
        unfold Hid
        rw [← hW5, ← hW4, ← hW3, ← hW2, ← hW1]; simp
      have K5 : Hid (∀ g, g ≠ w1.heap.size → g < wr.heap.size → W5.heap[g]? = wr.heap[g]?) := fun g h1 h2 => by
        rw [← hW5, Below.heap_setCell _ _ _ _ h1, ← hW4, Below.heap_alloc _ _ _ (by rw [← hW3, ← hW2, ← hW1]; simp; omega), ← hW3, Below.heap_setCell _ _ _ _ h1, ← hW2, Below.heap_setCell _ _ _ _ h1, ← hW1, Below.heap_alloc _ _ _ h2]
      have E1 : Hid (Box W5 wr.heap.size 42 #[]) := by
        have := ((((Box.new wr #[] 42).setOther ⟨w1.heap.size, 1, none⟩ (.slice (some ⟨wr.heap.size, 0, none⟩) 0 0) (show wr.heap.size ≠ w1.heap.size by omega)).setOther ⟨w1.heap.size, 2, none⟩ (.bool false) (show wr.heap.size ≠ w1.heap.size by omega)).alloc (.cells #[] 3)).setOther ⟨w1.heap.size, 3, none⟩ (.slice (some ⟨W3.heap.size, 0, none⟩) 0 0) (show wr.heap.size ≠ w1.heap.size by omega)
        rwa [hW1, hW2, hW3, hW4, hW5] at this
      have E2 : Hid (Box W5 W3.heap.size 3 #[]) := by
        have := (Box.new W3 #[] 3).setOther ⟨w1.heap.size, 3, none⟩ (.slice (some ⟨W3.heap.size, 0, none⟩) 0 0) (show W3.heap.size ≠ w1.heap.size by have := S5.out; omega)
        rwa [hW4, hW5] at this
      have O5 : Hid (W5.ownsRow w.heap.size 9 1 (.slice u0 D.S.length d0) D.S.length ((settle D.S (keptN D.C K D.C.length)).map Value.string)) := own_same hown fun g e => K5.out g (by rw [ob_slice] at e; have := G1.out g e; omega) (hown.lt g e).2
      clear o1 o2 o3 o4 o5 p1 p2 p3 p4 p5 hown hb bx br bo
      go_wp2
      refine ret_box1 Try.results53 rfl rfl (put4_box P5.out _ _ _ _) ⟨⟨⟨u0, D.S.length, d0, some ⟨wr.heap.size, 0, none⟩, 0, 0, false, some ⟨W3.heap.size, 0, none⟩, 0, 0⟩, rfl, ?_⟩, put4_below B5.out (by omega) _ _ _ _⟩
      have hs5 := S5.out
      have hlw := LW.out
      refine two_empty (by simp; omega) (by simp; omega) (by omega) (own_same O5.out fun g e => put4_same _ _ _ _ _ _ _ (by rw [ob_slice] at e; have := G1.out g e; omega)) ((put4_same _ _ _ _ _ _ _ (by omega)).trans E1.out) ((put4_same _ _ _ _ _ _ _ (by omega)).trans E2.out) (fun g e => by have := G1.out g e; omega)
end Go.Proofs.Ytefbaemcdfmhpaa
