/-
  Records that are put into pages: the walk of the program's PageInsert.
-/
import Derived.Test.YtggnfkdeakkpaaaDoorPi
namespace Go.Proofs.YtggnfkdeakkpaaaDoor
open Go Go.RowKit
attribute [local go_sem ↓] Go.wp_at_zero Go.wp_at_succ


set_option maxRecDepth 100000 in
set_option maxHeartbeats 4000000 in
theorem c_implIns (h : HG) (D : DG) (d : ByteArray) (w : World) (r : RdG w h D) (hk : SrcG h) (hf : FitG D) (hd : d.size ≤ 1048576) :
    Calls Tryd.prog 7 #[.agg #[.int .i64 h.l, .slice h.a h.n h.c], .string d] w fun e w' => (∃ h' : HG, e = .returned (.tuple #[.agg #[.int .i64 h'.l, .slice h'.a h'.n h'.c], .int .i64 (insK D d), .int .i64 (insC D d)]) ∧ OwnG w' w.heap.size w'.heap.size h' (insR D d)) ∧ Below w.heap.size w w' := by
  have CO : Hid (∀ (W : World), RdG W h D → Calls Tryd.prog 16 #[.agg #[.int .i64 h.l, .slice h.a h.n h.c]] W fun e w' => e = .returned (.bool (okG D)) ∧ Below W.heap.size W w') := fun W hW => c_implOK h D W hW hf
  have RR : Hid (RdG w h D) := r
  have SR : Hid (SrcG h) := hk
  have FD : Hid (FitG D) := hf
  clear hk
  have k0 := r.len
  clear hf
  obtain ⟨rl, r0⟩ := r
  obtain ⟨l, a, n, c⟩ := h
  simp only at *
  subst k0 rl
  have R0 : Hid (RdV w a D.S.length (D.S.map Value.string)) := r0
  clear r0
  obtain ⟨V, hV⟩ : ∃ V, (w.alloc (.cells #[.int .i64 D.L, .slice a D.S.length c] 25)).alloc (.cells #[.int .i64 0, .slice none 0 0] 25) = V := ⟨_, rfl⟩
  have HB : Hid (Below w.heap.size w V) := by unfold Hid; rw [← hV]; exact ((Below.refl _ _).alloc (Nat.le_refl _) _).alloc (by simp) _
  have BX : Hid (Box V w.heap.size 25 #[.int .i64 D.L, .slice a D.S.length c]) := by unfold Hid; rw [← hV]; exact (Box.new _ _ _).alloc _
  have BR : Hid (Box V (w.heap.size + 1) 25 #[.int .i64 0, .slice none 0 0]) := by unfold Hid; rw [← hV]; exact Box.new2 _ _ _ _
  have SZ : Hid (V.heap.size = w.heap.size + 1 + 1) := by unfold Hid; rw [← hV]; simp
  obtain ⟨v0, v1⟩ := box2 BX.out
  obtain ⟨u0, u1⟩ := box2 BR.out
  have t0 := BR.out.thaw 0
  have t1 := BR.out.thaw 1
  have l0 := BX.out.lt
  have l1 := BR.out.lt
  have q01 : w.heap.size + 1 + 1 ≤ V.heap.size := by have := SZ.out; omega
  by_cases hL : 65536 < d.size
  · have E : Hid (insC D d = 2 ∧ insK D d = 0 ∧ insR D d = ⟨0, []⟩) := ins2 hL
    go_enter Tryd.func7, Tryd.ntmps7
    go_wp2
    refine retG3 Tryd.results7 rfl rfl rfl rfl (put2_box BR.out _ _) ⟨?_, put2_below HB.out (by omega) _ _⟩
    rw [E.out.1, E.out.2.1, E.out.2.2]
    exact ⟨⟨0, none, 0, 0⟩, rfl, own_zero _ _ _ (Nat.le_refl _)⟩
  have HL : Hid (¬ 65536 < d.size) := hL
  go_enter Tryd.func7, Tryd.ntmps7
  go_wp2_with fail
  refine (CO.out V (RR.out.below HB.out)).mono ?_
  rintro e w1 ⟨rfl, hb⟩
  have B1 : Hid (Below w.heap.size w w1) := HB.out.trans (hb.mono HB.out.size)
  have X1 : Hid (Box w1 w.heap.size 25 #[.int .i64 D.L, .slice a D.S.length c]) := BX.out.belowS hb
  have BR1 : Hid (Box w1 (w.heap.size + 1) 25 #[.int .i64 0, .slice none 0 0]) := BR.out.belowS hb
  have q12 : V.heap.size ≤ w1.heap.size := hb.size
  clear hb HB BX BR SZ v0 v1 u0 u1 t0 t1 hV l0 l1 CO
  obtain ⟨v0, v1⟩ := box2 X1.out
  obtain ⟨u0, u1⟩ := box2 BR1.out
  have t0 := BR1.out.thaw 0
  have t1 := BR1.out.thaw 1
  cases hok : okG D
  · have E : Hid (insC D d = 1 ∧ insK D d = 0 ∧ insR D d = ⟨0, []⟩) := ins1 HL.out hok
    clear hok
    go_wp2
    refine retG3 Tryd.results7 rfl rfl rfl rfl (put2_box BR1.out _ _) ⟨?_, put2_below B1.out (by omega) _ _⟩
    rw [E.out.1, E.out.2.1, E.out.2.2]
    exact ⟨⟨0, none, 0, 0⟩, rfl, own_zero _ _ _ (Nat.le_refl _)⟩
  have HO : Hid (okG D = true) := hok
  have H4 : Hid (D.S.length = 4) := (okG_parts hok).2.2.1
  clear hok
  have h24 : ∀ b, inB d.size 1 30 = b → (b = false → Hid (insC D d = 4 ∧ insK D d = 0 ∧ insR D d = ⟨0, []⟩)) := fun b h hb => ins4 HL.out HO.out (h.trans hb)
  cases h1 : d.toList.isEmpty
  case true =>
    have hz : d.size = 0 := by
      have := congrArg List.length (List.isEmpty_iff.1 h1)
      rw [ByteArray.toList_eq] at this
      simpa using this
    have E := h24 _ (decide_eq_false (by omega)) rfl
    clear h24 hz
    go_wp2
    refine retG3 Tryd.results7 rfl rfl rfl rfl (put2_box BR1.out _ _) ⟨?_, put2_below B1.out (by omega) _ _⟩
    rw [E.out.1, E.out.2.1, E.out.2.2]
    exact ⟨⟨0, none, 0, 0⟩, rfl, own_zero _ _ _ (Nat.le_refl _)⟩
  have hz : 0 < d.size := by
    rcases Nat.eq_zero_or_pos d.size with h | h
    · exfalso
      have : d.toList = [] := by
        rw [ByteArray.toList_eq]
        exact List.eq_nil_of_length_eq_zero (by simpa using h)
      rw [this] at h1
      cases h1
    · exact h
  cases h3 : longB d
  case true =>
    have E := h24 _ (decide_eq_false (by unfold longB at h3; have := of_decide_eq_true h3; omega)) rfl
    clear h24
    go_wp2_with (go_at_call 31; refine (c_tooLong d _ (by unfold maxLen; omega)).mono ?_; rintro e w' ⟨rfl, hq⟩; have hq' := hq.symm; subst hq'; clear hq; rw [h3])
    refine retG3 Tryd.results7 rfl rfl rfl rfl (put2_box BR1.out _ _) ⟨?_, put2_below B1.out (by omega) _ _⟩
    rw [E.out.1, E.out.2.1, E.out.2.2]
    exact ⟨⟨0, none, 0, 0⟩, rfl, own_zero _ _ _ (Nat.le_refl _)⟩
  have H2 : Hid (inB d.size 1 30 = true) := decide_eq_true (by unfold longB at h3; have := of_decide_eq_false h3; omega)
  have f0 : D.S.length ≤ 1048576 := FD.out.1
  clear h24
  go_wp2_with (go_at_call 31; refine (c_tooLong d _ (by unfold maxLen; omega)).mono ?_; rintro e w' ⟨rfl, hq⟩; have hq' := hq.symm; subst hq'; clear hq; rw [h3])
  refine (c_cpS a _ c D.S w1 (R0.out.below B1.out) SR.out f0).mono ?_
  rintro e w2 ⟨⟨a2, c2, rfl, o2, l2⟩, hb⟩
  obtain ⟨g, c3, hh, hg1, hg2⟩ := (show OwnG w2 w1.heap.size w2.heap.size ⟨D.L, a2, D.S.length, c2⟩ D from ⟨rfl, o2, Nat.le_refl _, l2⟩).some_of (by have := H4.out; omega)
  simp only [HG.mk.injEq, true_and] at hh
  obtain ⟨rfl, rfl⟩ := hh
  have O2 : Hid (OwnG w2 w1.heap.size w2.heap.size ⟨D.L, some ⟨g, 0, none⟩, D.S.length, c2⟩ D) := ⟨rfl, o2, Nat.le_refl _, l2⟩
  have B2 : Hid (Below w.heap.size w w2) := B1.out.trans (hb.mono B1.out.size)
  have X2 : Hid (Box w2 w.heap.size 25 #[.int .i64 D.L, .slice a D.S.length c]) := X1.out.belowS hb
  have BR2 : Hid (Box w2 (w.heap.size + 1) 25 #[.int .i64 0, .slice none 0 0]) := BR1.out.belowS hb
  clear u0 u1 t0 t1 v0 v1 hb o2 l2 h1 h3
  obtain ⟨V3, hV3⟩ : ∃ W, w2.setCell ⟨w.heap.size, 1, none⟩ (.slice (some ⟨g, 0, none⟩) D.S.length c2) = W := ⟨_, rfl⟩
  have B3 : Hid (Below w.heap.size w V3) := by unfold Hid; rw [← hV3]; exact B2.out.setCell (Nat.le_refl _) _
  have X3 : Hid (Box V3 w.heap.size 25 #[.int .i64 D.L, .slice (some ⟨g, 0, none⟩) D.S.length c2]) := by unfold Hid; rw [← hV3]; have := X2.out.set 1 (.slice (some ⟨g, 0, none⟩) D.S.length c2); simpa using this
  have BR3 : Hid (Box V3 (w.heap.size + 1) 25 #[.int .i64 0, .slice none 0 0]) := by unfold Hid; rw [← hV3]; exact BR2.out.setOther _ _ (by simp)
  have O3 : Hid (OwnG V3 w1.heap.size w2.heap.size ⟨D.L, some ⟨g, 0, none⟩, D.S.length, c2⟩ D) := by unfold Hid; rw [← hV3]; exact O2.out.setO (.inl (by omega)) _
  obtain ⟨a0, a1⟩ := box2 X2.out
  have b1 := X2.out.thaw 1
  obtain ⟨a2, a3⟩ := box2 X3.out
  have IX : Hid (∀ W, RdV W (some ⟨g, 0, none⟩) D.S.length (D.S.map Value.string) → Calls Tryd.prog 33 #[.slice (some ⟨g, 0, none⟩) D.S.length c2, .string ⟨#[]⟩] W fun e w' => e = .returned (.int .i64 (freeI D.S)) ∧ w' = W) := fun W hW => c_index _ _ c2 D.S W hW f0
  clear B2 X2 BR2 O2 B1 X1 BR1
  go_wp2_with fail
  refine (IX.out V3 (RdV.own O3.out.2.1)).mono ?_
  rintro e w4 ⟨rfl, hq⟩
  have hq' := hq.symm
  subst hq'
  clear hq a0 a1 b1 IX hV3
  rcases free_cases D.S with hf | ⟨k, hf, hk, _⟩
  · have E : Hid (insC D d = 7 ∧ insK D d = 0 ∧ insR D d = D) := ins7 HL.out HO.out H2.out hf
    rw [hf]
    clear hf
    obtain ⟨u0, u1⟩ := box2 BR3.out
    have t0 := BR3.out.thaw 0
    have t1 := BR3.out.thaw 1
    go_wp2
    refine retG3 Tryd.results7 rfl rfl rfl rfl (put2_box BR3.out _ _) ⟨?_, put2_below B3.out (by omega) _ _⟩
    rw [E.out.1, E.out.2.1, E.out.2.2]
    have := O3.out.put2 (r := w.heap.size + 1) (.inl (by omega)) (.int .i64 D.L) (.slice (some ⟨g, 0, none⟩) D.S.length c2)
    exact ⟨⟨D.L, some ⟨g, 0, none⟩, D.S.length, c2⟩, rfl, this.wide (B' := w.heap.size) (by omega)⟩
  · have E : Hid (insC D d = 0 ∧ insK D d = (k : Int) ∧ insR D d = ⟨D.L, D.S.set k d⟩) := ins0 HL.out HO.out H2.out hf
    rw [hf]
    have hk4 : k < 4 := by have := H4.out; omega
    clear hf hk
    obtain ⟨V4, hV4⟩ : ∃ W, V3.setCell ⟨g, k, none⟩ (.string d) = W := ⟨_, rfl⟩
    have B4 : Hid (Below w.heap.size w V4) := by unfold Hid; rw [← hV4]; exact B3.out.setCell (by simp; omega) _
    have X4 : Hid (Box V4 w.heap.size 25 #[.int .i64 D.L, .slice (some ⟨g, 0, none⟩) D.S.length c2]) := by unfold Hid; rw [← hV4]; exact X3.out.setOther _ _ (by simp; omega)
    have BR4 : Hid (Box V4 (w.heap.size + 1) 25 #[.int .i64 0, .slice none 0 0]) := by unfold Hid; rw [← hV4]; exact BR3.out.setOther _ _ (by simp; omega)
    have O4 : Hid (OwnG V4 w1.heap.size w2.heap.size ⟨D.L, some ⟨g, 0, none⟩, D.S.length, c2⟩ ⟨D.L, D.S.set k d⟩) := by unfold Hid; rw [← hV4]; exact O3.out.put k d
    obtain ⟨old, hold⟩ : ∃ old, V3.cell? ⟨g, k, none⟩ = some old := by
      rw [O3.out.2.1.cellAt k (by have := H4.out; simp; omega)]
      exact ⟨_, List.getElem?_eq_getElem (by have := O3.out.2.1.1; have := H4.out; simp at *; omega)⟩
    have hfz := O3.out.2.1.frozenAt k
    obtain ⟨a4, a5⟩ := box2 X4.out
    obtain ⟨u0, u1⟩ := box2 BR4.out
    have t0 := BR4.out.thaw 0
    have t1 := BR4.out.thaw 1
    have g2 : (k : Int) < (D.S.length : Int) := by have := H4.out; omega
    clear B3 X3 BR3 O3
    go_wp2
    refine retG3 Tryd.results7 rfl rfl rfl rfl (put2_box BR4.out _ _) ⟨?_, put2_below B4.out (by omega) _ _⟩
    rw [E.out.1, E.out.2.1, E.out.2.2]
    have := O4.out.put2 (r := w.heap.size + 1) (.inl (by omega)) (.int .i64 D.L) (.slice (some ⟨g, 0, none⟩) D.S.length c2)
    exact ⟨⟨D.L, some ⟨g, 0, none⟩, D.S.length, c2⟩, rfl, this.wide (B' := w.heap.size) (by omega)⟩

end Go.Proofs.YtggnfkdeakkpaaaDoor
