/-
  Records that are put into pages: the walk of the specification's PageInsert.
-/
import Derived.Test.YtggnfkdeakkpaaaDoorPi
namespace Go.Proofs.YtggnfkdeakkpaaaDoor
open Go Go.RowKit
attribute [local go_sem ↓] Go.wp_at_zero Go.wp_at_succ


set_option maxRecDepth 100000 in
set_option maxHeartbeats 4000000 in
theorem c_specIns (h : HG) (D : DG) (d : ByteArray) (w : World) (r : RdG w h D) (hk : SrcG h) (hf : FitG D) (hd : d.size ≤ 1048576) :
    Calls Tryd.prog 8 #[.agg #[.int .i64 h.l, .slice h.a h.n h.c], .string d] w fun e w' => (∃ h' : HG, e = .returned (.tuple #[.agg #[.int .i64 h'.l, .slice h'.a h'.n h'.c], .int .i64 (insK D d), .int .i64 (insC D d)]) ∧ OwnG w' w.heap.size w'.heap.size h' (insR D d)) ∧ Below w.heap.size w w' := by
  have CO : Hid (∀ (W : World), RdG W h D → Calls Tryd.prog 34 #[.agg #[.int .i64 h.l, .slice h.a h.n h.c]] W fun e w' => e = .returned (.bool (okG D)) ∧ Below W.heap.size W w') := fun W hW => c_specOK h D W hW hf
  have RR : Hid (RdG w h D) := r
  have SR : Hid (SrcG h) := hk
  have FD : Hid (FitG D) := hf
  clear hk
  have k0 := r.len
  clear hf
  obtain ⟨rl, r0⟩ := r
  obtain ⟨l, a, n, c⟩ := h
  simp only at *
  subst k0 rl
  have R0 : Hid (RdV w a D.S.length (D.S.map Value.string)) := r0
  clear r0
  obtain ⟨V, hV⟩ : ∃ V, (w.alloc (.cells #[.int .i64 D.L, .slice a D.S.length c] 25)).alloc (.cells #[.int .i64 0, .slice none 0 0] 25) = V := ⟨_, rfl⟩
  have HB : Hid (Below w.heap.size w V) := by unfold Hid; rw [← hV]; exact ((Below.refl _ _).alloc (Nat.le_refl _) _).alloc (by simp) _
  have BX : Hid (Box V w.heap.size 25 #[.int .i64 D.L, .slice a D.S.length c]) := by unfold Hid; rw [← hV]; exact (Box.new _ _ _).alloc _
  have BR : Hid (Box V (w.heap.size + 1) 25 #[.int .i64 0, .slice none 0 0]) := by unfold Hid; rw [← hV]; exact Box.new2 _ _ _ _
  have SZ : Hid (V.heap.size = w.heap.size + 1 + 1) := by unfold Hid; rw [← hV]; simp
  obtain ⟨v0, v1⟩ := box2 BX.out
  obtain ⟨u0, u1⟩ := box2 BR.out
  have t0 := BR.out.thaw 0
  have t1 := BR.out.thaw 1
  have l0 := BX.out.lt
  have l1 := BR.out.lt
  have q01 : w.heap.size + 1 + 1 ≤ V.heap.size := by have := SZ.out; omega
  by_cases hL : 65536 < d.size
  · have E : Hid (insC D d = 2 ∧ insK D d = 0 ∧ insR D d = ⟨0, []⟩) := ins2 hL
    go_enter Tryd.func8, Tryd.ntmps8
    go_wp2
    refine retG3 Tryd.results8 rfl rfl rfl rfl (put2_box BR.out _ _) ⟨?_, put2_below HB.out (by omega) _ _⟩
    rw [E.out.1, E.out.2.1, E.out.2.2]
    exact ⟨⟨0, none, 0, 0⟩, rfl, own_zero _ _ _ (Nat.le_refl _)⟩
  have HL : Hid (¬ 65536 < d.size) := hL
  go_enter Tryd.func8, Tryd.ntmps8
  go_wp2_with fail
  refine (CO.out V (RR.out.below HB.out)).mono ?_
  rintro e w1 ⟨rfl, hb⟩
  have B1 : Hid (Below w.heap.size w w1) := HB.out.trans (hb.mono HB.out.size)
  have X1 : Hid (Box w1 w.heap.size 25 #[.int .i64 D.L, .slice a D.S.length c]) := BX.out.belowS hb
  have BR1 : Hid (Box w1 (w.heap.size + 1) 25 #[.int .i64 0, .slice none 0 0]) := BR.out.belowS hb
  have q12 : V.heap.size ≤ w1.heap.size := hb.size
  clear hb HB BX BR SZ v0 v1 u0 u1 t0 t1 hV l0 l1 CO
  obtain ⟨v0, v1⟩ := box2 X1.out
  obtain ⟨u0, u1⟩ := box2 BR1.out
  have t0 := BR1.out.thaw 0
  have t1 := BR1.out.thaw 1
  cases hok : okG D
  · have E : Hid (insC D d = 1 ∧ insK D d = 0 ∧ insR D d = ⟨0, []⟩) := ins1 HL.out hok
    clear hok
    go_wp2
    refine retG3 Tryd.results8 rfl rfl rfl rfl (put2_box BR1.out _ _) ⟨?_, put2_below B1.out (by omega) _ _⟩
    rw [E.out.1, E.out.2.1, E.out.2.2]
    exact ⟨⟨0, none, 0, 0⟩, rfl, own_zero _ _ _ (Nat.le_refl _)⟩
  have HO : Hid (okG D = true) := hok
  have H4 : Hid (D.S.length = 4) := (okG_parts hok).2.2.1
  clear hok
  cases h2 : inB d.size 1 30
  · have E : Hid (insC D d = 4 ∧ insK D d = 0 ∧ insR D d = ⟨0, []⟩) := ins4 HL.out HO.out h2
    go_wp2_with (go_at_call 35; refine (c_in _ _ _ _).mono ?_; rintro e w' ⟨rfl, hq⟩; have hq' := hq.symm; subst hq'; clear hq; rw [h2])
    refine retG3 Tryd.results8 rfl rfl rfl rfl (put2_box BR1.out _ _) ⟨?_, put2_below B1.out (by omega) _ _⟩
    rw [E.out.1, E.out.2.1, E.out.2.2]
    exact ⟨⟨0, none, 0, 0⟩, rfl, own_zero _ _ _ (Nat.le_refl _)⟩
  have H2 : Hid (inB d.size 1 30 = true) := h2
  go_wp2_with (go_at_call 35; refine (c_in _ _ _ _).mono ?_; rintro e w' ⟨rfl, hq⟩; have hq' := hq.symm; subst hq'; clear hq; rw [h2])
  refine (c_free ⟨D.L, a, D.S.length, c⟩ D w1 (RR.out.below B1.out) H4.out).mono ?_
  rintro e w2 ⟨rfl, hb⟩
  have B2 : Hid (Below w.heap.size w w2) := B1.out.trans (hb.mono B1.out.size)
  have X2 : Hid (Box w2 w.heap.size 25 #[.int .i64 D.L, .slice a D.S.length c]) := X1.out.belowS hb
  have BR2 : Hid (Box w2 (w.heap.size + 1) 25 #[.int .i64 0, .slice none 0 0]) := BR1.out.belowS hb
  have q23 : w1.heap.size ≤ w2.heap.size := hb.size
  clear u0 u1 t0 t1 v0 v1 hb B1 X1 BR1 h2
  obtain ⟨v0, v1⟩ := box2 X2.out
  rcases free_cases D.S with hf | ⟨k, hf, hk, _⟩
  · have E : Hid (insC D d = 7 ∧ insK D d = 0 ∧ insR D d = D) := ins7 HL.out HO.out H2.out hf
    rw [hf]
    clear hf
    go_wp2_with fail
    refine (c_own ⟨D.L, a, D.S.length, c⟩ D w2 (RR.out.below B2.out) SR.out FD.out).mono ?_
    rintro e w3 ⟨⟨h3, rfl, o3⟩, hb⟩
    have B3 : Hid (Below w.heap.size w w3) := B2.out.trans (hb.mono B2.out.size)
    have BR3 : Hid (Box w3 (w.heap.size + 1) 25 #[.int .i64 0, .slice none 0 0]) := BR2.out.belowS hb
    have O3 : Hid (OwnG w3 w2.heap.size w3.heap.size h3 D) := o3
    clear hb o3 v0 v1 B2 X2 BR2
    obtain ⟨u0, u1⟩ := box2 BR3.out
    have t0 := BR3.out.thaw 0
    have t1 := BR3.out.thaw 1
    go_wp2
    refine retG3 Tryd.results8 rfl rfl rfl rfl (put2_box BR3.out _ _) ⟨?_, put2_below B3.out (by omega) _ _⟩
    rw [E.out.1, E.out.2.1, E.out.2.2]
    have := O3.out.put2 (r := w.heap.size + 1) (.inl (by omega)) (.int .i64 h3.l) (.slice h3.a h3.n h3.c)
    exact ⟨h3, rfl, this.wide (B' := w.heap.size) (by omega)⟩
  · have E : Hid (insC D d = 0 ∧ insK D d = (k : Int) ∧ insR D d = ⟨D.L, D.S.set k d⟩) := ins0 HL.out HO.out H2.out hf
    rw [hf]
    have HK : Hid (k < D.S.length) := hk
    have hk4 : k < 4 := by have := H4.out; omega
    clear hf hk
    go_wp2_with fail
    refine (c_own ⟨D.L, a, D.S.length, c⟩ D w2 (RR.out.below B2.out) SR.out FD.out).mono ?_
    rintro e w3 ⟨⟨h3, rfl, o3⟩, hb⟩
    obtain ⟨g, c1, rfl, hg1, hg2⟩ := o3.some_of (by have := H4.out; omega)
    have B3 : Hid (Below w.heap.size w w3) := B2.out.trans (hb.mono B2.out.size)
    have BR3 : Hid (Box w3 (w.heap.size + 1) 25 #[.int .i64 0, .slice none 0 0]) := BR2.out.belowS hb
    have O3 : Hid (OwnG w3 w2.heap.size w3.heap.size ⟨D.L, some ⟨g, 0, none⟩, D.S.length, c1⟩ D) := o3
    have q34 : w2.heap.size ≤ w3.heap.size := hb.size
    clear hb o3 v0 v1 B2 X2 BR2
    obtain ⟨V4, hV4⟩ : ∃ W, w3.alloc (.cells #[.int .i64 D.L, .slice (some ⟨g, 0, none⟩) D.S.length c1] 25) = W := ⟨_, rfl⟩
    have hb2 : Below w3.heap.size w3 V4 := by rw [← hV4]; exact (Below.refl _ _).alloc (Nat.le_refl _) _
    have B4 : Hid (Below w.heap.size w V4) := B3.out.trans (hb2.mono B3.out.size)
    have BR4 : Hid (Box V4 (w.heap.size + 1) 25 #[.int .i64 0, .slice none 0 0]) := BR3.out.belowS hb2
    have BO4 : Hid (Box V4 w3.heap.size 25 #[.int .i64 D.L, .slice (some ⟨g, 0, none⟩) D.S.length c1]) := by unfold Hid; rw [← hV4]; exact Box.new _ _ _
    have O4 : Hid (OwnG V4 w2.heap.size w3.heap.size ⟨D.L, some ⟨g, 0, none⟩, D.S.length, c1⟩ D) := O3.out.below hb2
    clear hb2 B3 BR3 O3
    obtain ⟨V5, hV5⟩ : ∃ W, V4.setCell ⟨g, k, none⟩ (.string d) = W := ⟨_, rfl⟩
    have B5 : Hid (Below w.heap.size w V5) := by unfold Hid; rw [← hV5]; exact B4.out.setCell (by simp; omega) _
    have BR5 : Hid (Box V5 (w.heap.size + 1) 25 #[.int .i64 0, .slice none 0 0]) := by unfold Hid; rw [← hV5]; exact BR4.out.setOther _ _ (by simp; omega)
    have BO5 : Hid (Box V5 w3.heap.size 25 #[.int .i64 D.L, .slice (some ⟨g, 0, none⟩) D.S.length c1]) := by unfold Hid; rw [← hV5]; exact BO4.out.setOther _ _ (by simp; omega)
    have O5 : Hid (OwnG V5 w2.heap.size w3.heap.size ⟨D.L, some ⟨g, 0, none⟩, D.S.length, c1⟩ ⟨D.L, D.S.set k d⟩) := by unfold Hid; rw [← hV5]; exact O4.out.put k d
    obtain ⟨y0, y1⟩ := box2 BO4.out
    obtain ⟨old, hold⟩ : ∃ old, V4.cell? ⟨g, k, none⟩ = some old := by
      rw [O4.out.2.1.cellAt k (by have := H4.out; simp; omega)]
      exact ⟨_, List.getElem?_eq_getElem (by have := O4.out.2.1.1; have := H4.out; simp at *; omega)⟩
    have hfz := O4.out.2.1.frozenAt k
    obtain ⟨x0, x1⟩ := box2 BO5.out
    obtain ⟨u0, u1⟩ := box2 BR5.out
    have t0 := BR5.out.thaw 0
    have t1 := BR5.out.thaw 1
    have g2 : (k : Int) < (D.S.length : Int) := by have := H4.out; omega
    clear B4 BR4 BO4 O4 BO5
    go_wp2
    refine retG3 Tryd.results8 rfl rfl rfl rfl (put2_box BR5.out _ _) ⟨?_, put2_below B5.out (by omega) _ _⟩
    rw [E.out.1, E.out.2.1, E.out.2.2]
    have := O5.out.put2 (r := w.heap.size + 1) (.inl (by omega)) (.int .i64 D.L) (.slice (some ⟨g, 0, none⟩) D.S.length c1)
    exact ⟨⟨D.L, some ⟨g, 0, none⟩, D.S.length, c1⟩, rfl, this.wide (B' := w.heap.size) (by omega)⟩

end Go.Proofs.YtggnfkdeakkpaaaDoor
