/-
  A sync: the specification's.
-/
import Derived.Test.YtefbaemcdfmhpaaWc
namespace Go.Proofs.Ytefbaemcdfmhpaa
open Go Go.RowKit
attribute [local go_sem ↓] Go.wp_at_zero Go.wp_at_succ

/-- What a sync leaves. -/
def syncD (D : DD) : DD := if D.A = true then crashD D D.K else ⟨settle D.S D.C, [], false, []⟩
theorem ok_unarmed {D : DD} (h : okD D = true) (ha : D.A = false) : D.K = [] := by
  cases hk : D.K with
  | nil => rfl
  | cons x xs => rw [ok_no3 ha (by rw [hk]; simp)] at h; cases h
set_option maxHeartbeats 4000000 in
theorem c_specSync (h : HD) (D : DD) (w : World) (r : RdD w h D) (hk : HOK h) (hf : Fit D) (hok : okD D = true) :
    Calls Try.prog 71 #[.agg #[.slice h.a0 h.n0 h.c0, .slice h.a1 h.n1 h.c1, .bool h.b, .slice h.a2 h.n2 h.c2]] w fun e w' => (∃ h' : HD, e = .returned (.tuple #[.agg #[.slice h'.a0 h'.n0 h'.c0, .slice h'.a1 h'.n1 h'.c1, .bool h'.b, .slice h'.a2 h'.n2 h'.c2], .bool (!D.A)]) ∧ OwnD w' w.heap.size w'.heap.size h' (syncD D)) ∧ Below w.heap.size w w' := by
  have k0 := r.l0
  have k1 := r.l1
  have k2 := r.l2
  have F : Hid (Fit D) := hf
  obtain ⟨f0, f1, f2, _, _⟩ := hf
  have R : Hid (RdD w h D) := r
  have HK0 : Hid (HOK h) := hk
  obtain ⟨rb, r0, r1, r2⟩ := r
  obtain ⟨a0, n0, c0, a1, n1, c1, b, a2, n2, c2⟩ := h
  simp only at *
  subst k0 k1 k2 rb
  have R1 : Hid (RdP w a1 D.C.length D.C) := r1
  have R2 : Hid (RdV w a2 D.K.length (D.K.map (Value.int .i64))) := r2
  have HG : Hid (goodD D) := ok_good hok
  have HB : Hid (Below w.heap.size w ((w.alloc (.cells #[.slice a0 D.S.length c0, .slice a1 D.C.length c1, .bool D.A, .slice a2 D.K.length c2] 27)).alloc (.cells #[.slice none 0 0, .slice none 0 0, .bool false, .slice none 0 0] 27))) := ((Below.refl _ _).alloc (Nat.le_refl _) _).alloc (by simp) _
  have BX : Hid (Box ((w.alloc (.cells #[.slice a0 D.S.length c0, .slice a1 D.C.length c1, .bool D.A, .slice a2 D.K.length c2] 27)).alloc (.cells #[.slice none 0 0, .slice none 0 0, .bool false, .slice none 0 0] 27)) w.heap.size 27 #[.slice a0 D.S.length c0, .slice a1 D.C.length c1, .bool D.A, .slice a2 D.K.length c2]) := (Box.new _ _ _).alloc _
  have BR : Hid (Box ((w.alloc (.cells #[.slice a0 D.S.length c0, .slice a1 D.C.length c1, .bool D.A, .slice a2 D.K.length c2] 27)).alloc (.cells #[.slice none 0 0, .slice none 0 0, .bool false, .slice none 0 0] 27)) (w.heap.size + 1) 27 #[.slice none 0 0, .slice none 0 0, .bool false, .slice none 0 0]) := Box.new2 _ _ _ _
  clear r0 r1 r2 hk
  obtain ⟨A, hA⟩ : ∃ A, A = D.A := ⟨_, rfl⟩
  have HA : Hid (A = D.A) := hA
  rw [← hA] at HB BX BR R HK0 ⊢
  clear hA
  cases A
  · have HKE : Hid (D.K = []) := ok_unarmed hok HA.out.symm
    have HSD : Hid (syncD D = ⟨settle D.S D.C, [], false, []⟩) := by unfold Hid syncD; rw [if_neg (by rw [← HA.out]; decide)]
    clear hok
    go_enter Try.func71, Try.ntmps71
    go_wp2_with fail
    refine (c_own ⟨a0, D.S.length, c0, a1, D.C.length, c1, false, a2, D.K.length, c2⟩ D _ (R.out.below HB.out) HK0.out F.out).mono ?_
    rintro e w1 ⟨⟨⟨u0, m0, d0, u1, m1, d1, ub, u2, m2, d2⟩, rfl, o1⟩, hb⟩
    have hub : ub = false := o1.1.trans HA.out.symm
    subst hub
    have B1 : Hid (Below w.heap.size w (w1.alloc (.cells #[.slice u0 m0 d0, .slice u1 m1 d1, .bool false, .slice u2 m2 d2] 27))) := (HB.out.trans (hb.mono HB.out.size)).alloc (Nat.le_trans HB.out.size hb.size) _
    have X1 : Hid (Box (w1.alloc (.cells #[.slice u0 m0 d0, .slice u1 m1 d1, .bool false, .slice u2 m2 d2] 27)) w.heap.size 27 #[.slice a0 D.S.length c0, .slice a1 D.C.length c1, .bool false, .slice a2 D.K.length c2]) := (BX.out.belowS hb).alloc _
    have Y1 : Hid (Box (w1.alloc (.cells #[.slice u0 m0 d0, .slice u1 m1 d1, .bool false, .slice u2 m2 d2] 27)) (w.heap.size + 1) 27 #[.slice none 0 0, .slice none 0 0, .bool false, .slice none 0 0]) := (BR.out.belowS hb).alloc _
    have Z1 : Hid (Box (w1.alloc (.cells #[.slice u0 m0 d0, .slice u1 m1 d1, .bool false, .slice u2 m2 d2] 27)) w1.heap.size 27 #[.slice u0 m0 d0, .slice u1 m1 d1, .bool false, .slice u2 m2 d2]) := Box.new _ _ _
    have hm0 : D.S.length = m0 := o1.rd.l0
    have hm2 : D.K.length = m2 := o1.rd.l2
    have hk0 : D.K.length = 0 := by rw [HKE.out]; rfl
    have hm2' : m2 = 0 := by omega
    subst hm0 hm2'
    have O1 : Hid ((w1.alloc (.cells #[.slice u0 D.S.length d0, .slice u1 m1 d1, .bool false, .slice u2 0 d2] 27)).ownsRow w.heap.size 9 1 (.slice u0 D.S.length d0) D.S.length (D.S.map Value.string)) := (o1.2.1.down (by simp; omega)).alloc _
    have K1 : Hid ((w1.alloc (.cells #[.slice u0 D.S.length d0, .slice u1 m1 d1, .bool false, .slice u2 0 d2] 27)).ownsRow w.heap.size 3 1 (.slice u2 0 d2) 0 []) := by
      have := (o1.2.2.2.1.down (B' := w.heap.size) (by simp; omega)).alloc (.cells #[.slice u0 D.S.length d0, .slice u1 m1 d1, .bool false, .slice u2 0 d2] 27)
      rw [HKE.out] at this
      exact this
    have G1 : Hid (∀ g, ob u0 = some g → w.heap.size + 1 < g ∧ g < w1.heap.size ∧ ob u2 ≠ some g) := fun g e => by have := o1.2.2.2.2.2.1 g e; simp at this; exact ⟨by omega, by omega, this.2.2.2⟩
    have G2 : Hid (∀ g, ob u2 = some g → w.heap.size + 1 < g ∧ g < w1.heap.size) := fun g e => by have := o1.2.2.2.2.2.2.2 g e; simp at this; omega
    have LW : Hid (w.heap.size + 1 < w1.heap.size) := (BR.out.belowS hb).lt
    clear hb o1 HB BX BR R HK0 hm2
    go_wp2
    go_loopw [5] (fun i wr => ∃ k : Nat, k ≤ D.C.length ∧ i = .int .i64 k ∧ wr.ownsRow w.heap.size 9 1 (.slice u0 D.S.length d0) D.S.length ((settle D.S (D.C.take k)).map Value.string) ∧ Below w.heap.size w wr ∧ Box wr w.heap.size 27 #[.slice a0 D.S.length c0, .slice a1 D.C.length c1, .bool false, .slice a2 D.K.length c2] ∧ Box wr (w.heap.size + 1) 27 #[.slice none 0 0, .slice none 0 0, .bool false, .slice none 0 0] ∧ Box wr w1.heap.size 27 #[.slice u0 D.S.length d0, .slice u1 m1 d1, .bool false, .slice u2 0 d2] ∧ wr.ownsRow w.heap.size 3 1 (.slice u2 0 d2) 0 []) (fun i _ => D.C.length - (intOf i).toNat)
    case atStart => exact ⟨0, by omega, rfl, by simpa [settle] using O1.out, B1.out, X1.out, Y1.out, Z1.out, K1.out⟩
    case round =>
      obtain ⟨k, hk, rfl, hown, hb, bx, br, bo, hkeep⟩ := hrel
      obtain ⟨v0, v1, v2, v3⟩ := box4 bx
      obtain ⟨x0, x1, x2, x3⟩ := box4 bo
      have l0 := bx.lt
      have l1 := br.lt
      have l2 := bo.lt
      by_cases hlt : k < D.C.length
      · obtain ⟨bb, off, rfl, hbl, hc⟩ := R1.out.2 (by omega)
        obtain ⟨⟨xa, xt⟩, hx⟩ : ∃ x, x = D.C.getD k dP := ⟨_, rfl⟩
        obtain ⟨d0', d1'⟩ := hc k hlt
        rw [← hx] at d0' d1'
        have hgk : 0 ≤ xa ∧ xa < (D.S.length : Int) := by
          have := HG.out _ (getD_mem D.C k (by omega))
          rw [← hx] at this
          exact this
        obtain ⟨m, rfl⟩ : ∃ m : Nat, xa = (m : Int) := ⟨xa.toNat, by omega⟩
        have hm : m < D.S.length := by omega
        have e0 : wr.cell? ⟨bb, off + k * 2, none⟩ = some (.int .i64 m) := (hb.cell (p := ⟨bb, off + k * 2, none⟩) hbl).trans d0'
        have e1 : wr.cell? ⟨bb, off + k * 2 + 1, none⟩ = some (.string xt) := (hb.cell (p := ⟨bb, off + k * 2 + 1, none⟩) hbl).trans d1'
        rcases own_form hown with ⟨hv, h0⟩ | ⟨g, cap, hv, hg1, hg2⟩
        · omega
        · cases hv
          have hgr := G1.out g rfl
          have hsl : ((settle D.S (D.C.take k)).map Value.string).length = D.S.length := by simp [settle_len]
          obtain ⟨old, hold⟩ : ∃ old, wr.cell? ⟨g, m, none⟩ = some old := by
            rw [hown.cellAt m (by omega)]
            exact ⟨_, List.getElem?_eq_getElem (by omega)⟩
          have hfz := hown.frozenAt m
          have hown2 := (hown.stored m (.string xt)).1
          have hst : ((settle D.S (D.C.take k)).map Value.string).set m (.string xt) = (settle D.S (D.C.take (k + 1))).map Value.string := by
            rw [take_snoc D.C k (by omega), ← hx, settle_snoc, List.map_set]; simp
          rw [hst] at hown2
          have HO : Hid ((wr.setCell ⟨g, m, none⟩ (.string xt)).ownsRow w.heap.size 9 1 (.slice (some ⟨g, 0, none⟩) D.S.length d0) D.S.length _) := hown2
          have HB2 : Hid (Below w.heap.size w (wr.setCell ⟨g, m, none⟩ (.string xt))) := hb.setCell hg1 _
          have HX2 : Hid (Box (wr.setCell ⟨g, m, none⟩ (.string xt)) w.heap.size 27 _) := bx.setOther _ _ (show w.heap.size ≠ g by omega)
          have HY2 : Hid (Box (wr.setCell ⟨g, m, none⟩ (.string xt)) (w.heap.size + 1) 27 _) := br.setOther _ _ (show w.heap.size + 1 ≠ g by omega)
          have HZ2 : Hid (Box (wr.setCell ⟨g, m, none⟩ (.string xt)) w1.heap.size 27 _) := bo.setOther _ _ (show w1.heap.size ≠ g by omega)
          have HKD : Hid ((wr.setCell ⟨g, m, none⟩ (.string xt)).drew.ownsRow w.heap.size 3 1 (.slice u2 0 d2) 0 []) := own_same hkeep fun g' e => Below.heap_setCell wr ⟨g, m, none⟩ _ g' (fun h' => hgr.2.2 (by rw [ob_slice] at e; rw [e]; exact congrArg some h'))
          have g1 : (0 : Int) ≤ (k : Int) := by omega
          have g2 : (k : Int) < (D.C.length : Int) := by omega
          have g3 : (0 : Int) ≤ (m : Int) := by omega
          have g4 : (m : Int) < (D.S.length : Int) := by omega
          have KE0 : Hid ((wr.setCell ⟨g, m, none⟩ (.string xt)).cell? ⟨bb, off + k * 2, none⟩ = some (.int .i64 m)) := (World.cell?_of_block (Below.heap_setCell wr ⟨g, m, none⟩ _ bb (show bb ≠ g by omega))).trans e0
          have KE1 : Hid ((wr.setCell ⟨g, m, none⟩ (.string xt)).cell? ⟨bb, off + k * 2 + 1, none⟩ = some (.string xt)) := (World.cell?_of_block (Below.heap_setCell wr ⟨g, m, none⟩ _ bb (show bb ≠ g by omega))).trans e1
          have KK : Hid ((wr.setCell ⟨g, m, none⟩ (.string xt)).drew.cell? ⟨w1.heap.size, 0, none⟩ = some (.slice (some ⟨g, 0, none⟩) D.S.length d0) ∧ (wr.setCell ⟨g, m, none⟩ (.string xt)).drew.cell? ⟨w.heap.size, 1, none⟩ = some (.slice (some ⟨bb, off, none⟩) D.C.length c1) ∧ (wr.setCell ⟨g, m, none⟩ (.string xt)).drew.cell? ⟨bb, off + k * 2, none⟩ = some (.int .i64 m) ∧ (wr.setCell ⟨g, m, none⟩ (.string xt)).drew.cell? ⟨bb, off + k * 2 + 1, none⟩ = some (.string xt)) :=
            ⟨(box4 (HZ2.out.drewN 1)).1, (box4 (HX2.out.drewN 1)).2.1, KE0.out, KE1.out⟩
          clear hown hown2 hst hb bx br bo hkeep hc hx d0' d1'
          go_wp2_with fail
          go_region_held3 (fun x => x.cell? ⟨w1.heap.size, 0, none⟩ = some (.slice (some ⟨g, 0, none⟩) D.S.length d0) ∧ x.cell? ⟨w.heap.size, 1, none⟩ = some (.slice (some ⟨bb, off, none⟩) D.C.length c1) ∧ x.cell? ⟨bb, off + k * 2, none⟩ = some (.int .i64 m) ∧ x.cell? ⟨bb, off + k * 2 + 1, none⟩ = some (.string xt))
            (first | exact KK.out | go_keep)
            (first | fail)
          have HZD : Hid (Box (wr.setCell ⟨g, m, none⟩ (.string xt)).drew w1.heap.size 27 _) := HZ2.out.drewN 1
          have HXD : Hid (Box (wr.setCell ⟨g, m, none⟩ (.string xt)).drew w.heap.size 27 _) := HX2.out.drewN 1
          have HYD : Hid (Box (wr.setCell ⟨g, m, none⟩ (.string xt)).drew (w.heap.size + 1) 27 _) := HY2.out.drewN 1
          have HOD : Hid ((wr.setCell ⟨g, m, none⟩ (.string xt)).drew.ownsRow w.heap.size 9 1 (.slice (some ⟨g, 0, none⟩) D.S.length d0) D.S.length _) := HO.out
          have HBD : Hid (Below w.heap.size w (wr.setCell ⟨g, m, none⟩ (.string xt)).drew) := HB2.out.drew
          go_wp2
          go_roundw
          case rel => exact ⟨k + 1, by omega, by go_num, HOD.out, HBD.out, HXD.out, HYD.out, HZD.out, HKD.out⟩
          case measure => simp [intOf]; omega
      · have e : k = D.C.length := by omega
        subst e
        rw [List.take_of_length_le (Nat.le_refl _)] at hown
        clear x0 x1 x2 x3
        obtain ⟨W1, hW1⟩ : ∃ W1, wr.alloc (.cells #[] 42) = W1 := ⟨_, rfl⟩
        obtain ⟨W2, hW2⟩ : ∃ W2, W1.setCell ⟨w1.heap.size, 1, none⟩ (.slice (some ⟨wr.heap.size, 0, none⟩) 0 0) = W2 := ⟨_, rfl⟩
        have o1 := bo.alloc (.cells #[] 42)
        have p1 := br.alloc (.cells #[] 42)
        rw [hW1] at o1 p1
        have o2 := o1.set 1 (.slice (some ⟨wr.heap.size, 0, none⟩) 0 0)
        have p2 := p1.setOther ⟨w1.heap.size, 1, none⟩ (.slice (some ⟨wr.heap.size, 0, none⟩) 0 0) (show w.heap.size + 1 ≠ w1.heap.size by have := LW.out; omega)
        rw [hW2] at o2 p2
        simp at o2
        have s1 := o1.cell 1
        have t1 := o1.thaw 1
        simp at s1
        obtain ⟨x0, x1, x2, x3⟩ := box4 o2
        obtain ⟨y0, y1, y2, y3⟩ := box4 p2
        have z0 := p2.thaw 0
        have z1 := p2.thaw 1
        have z2 := p2.thaw 2
        have z3 := p2.thaw 3
        have P5 : Hid (Box W2 (w.heap.size + 1) 27 #[.slice none 0 0, .slice none 0 0, .bool false, .slice none 0 0]) := p2
        have B5 : Hid (Below w.heap.size w W2) := by
          unfold Hid
          rw [← hW2, ← hW1]
          exact (hb.alloc hb.size _).setCell (show w.heap.size ≤ w1.heap.size by have := LW.out; omega) _
        have S5 : Hid (W2.heap.size = wr.heap.size + 1) := by
          unfold Hid
          rw [← hW2, ← hW1]; simp
        have K5 : Hid (∀ g, g ≠ w1.heap.size → g < wr.heap.size → W2.heap[g]? = wr.heap[g]?) := fun g h1 h2 => by
          rw [← hW2, Below.heap_setCell _ _ _ _ h1, ← hW1, Below.heap_alloc _ _ _ h2]
        have E1 : Hid (Box W2 wr.heap.size 42 #[]) := by
          have := (Box.new wr #[] 42).setOther ⟨w1.heap.size, 1, none⟩ (.slice (some ⟨wr.heap.size, 0, none⟩) 0 0) (show wr.heap.size ≠ w1.heap.size by omega)
          rwa [hW1, hW2] at this
        have O5 : Hid (W2.ownsRow w.heap.size 9 1 (.slice u0 D.S.length d0) D.S.length ((settle D.S D.C).map Value.string)) := own_same hown fun g e => K5.out g (by rw [ob_slice] at e; have := G1.out g e; omega) (hown.lt g e).2
        have O6 : Hid (W2.ownsRow w.heap.size 3 1 (.slice u2 0 d2) 0 []) := own_same hkeep fun g e => K5.out g (by rw [ob_slice] at e; have := G2.out g e; omega) (hkeep.lt g e).2
        clear o1 o2 p1 p2 hown hb bx br bo hkeep
        go_wp2
        refine ret_box2 (v := .bool true) Try.results71 rfl rfl rfl (put4_box P5.out _ _ _ _) ⟨⟨⟨u0, D.S.length, d0, some ⟨wr.heap.size, 0, none⟩, 0, 0, false, u2, 0, d2⟩, rfl, ?_⟩, put4_below B5.out (by omega) _ _ _ _⟩
        rw [HSD.out]
        have hs5 := S5.out
        have hlw := LW.out
        refine ⟨rfl, own_same O5.out fun g e => put4_same _ _ _ _ _ _ _ (by rw [ob_slice] at e; have := G1.out g e; omega), own_empty ((put4_same _ _ _ _ _ _ _ (by omega)).trans E1.out) (by omega), own_same O6.out fun g e => put4_same _ _ _ _ _ _ _ (by rw [ob_slice] at e; have := G2.out g e; omega), Nat.le_refl _, fun g e => ?_, fun g e => ?_, fun g e => ?_⟩
        · have h0 := G1.out g e
          refine ⟨by omega, by simp; omega, fun h' => ?_, h0.2.2⟩
          have h'' : wr.heap.size = g := Option.some.inj h'
          omega
        · have e' : wr.heap.size = g := Option.some.inj e
          refine ⟨by omega, by simp; omega, fun h' => ?_⟩
          have := G2.out g h'; omega
        · have h0 := G2.out g e
          exact ⟨by omega, by simp; omega⟩
  · have HSD : Hid (syncD D = crashD D D.K) := by unfold Hid syncD; rw [if_pos HA.out.symm]
    clear hok
    go_enter Try.func71, Try.ntmps71
    go_wp2_with fail
    refine (c_specCrash ⟨a0, D.S.length, c0, a1, D.C.length, c1, true, a2, D.K.length, c2⟩ D a2 D.K.length c2 D.K _ (R.out.below HB.out) HK0.out F.out HG.out (R2.out.below HB.out) f2).mono ?_
    rintro e w2 ⟨⟨h', rfl, o⟩, hb⟩
    have B2 : Hid (Below w.heap.size w w2) := HB.out.trans (hb.mono HB.out.size)
    have y1 := BR.out.belowS hb
    have O : Hid (OwnD w2 (w.heap.size + 1 + 1) w2.heap.size h' (crashD D D.K)) := by
      have := o
      simp at this
      exact this
    clear hb o
    obtain ⟨y0, yy1, y2, y3⟩ := box4 y1
    have z0 := y1.thaw 0
    have z1 := y1.thaw 1
    have z2 := y1.thaw 2
    have z3 := y1.thaw 3
    have BR2 : Hid (Box w2 (w.heap.size + 1) 27 #[.slice none 0 0, .slice none 0 0, .bool false, .slice none 0 0]) := y1
    clear y1
    go_wp2
    refine ret_box2 (v := .bool false) Try.results71 rfl rfl rfl (put4_box BR2.out _ _ _ _) ⟨⟨h', rfl, by rw [HSD.out]; exact O.out.put (by omega) (by simp) (by omega) (fun g hg => put4_same _ _ _ _ _ _ _ hg)⟩, put4_below B2.out (by omega) _ _ _ _⟩
end Go.Proofs.Ytefbaemcdfmhpaa
