/-
  Pages that are set: the walks of PageSet, the program's and the specification's.
-/
import Derived.Test.YtaemdndkajomcaaPx
namespace Go.Proofs.Ytaemdndkajomcaa
open Go Go.RowKit
attribute [local go_sem ↓] Go.wp_at_zero Go.wp_at_succ


set_option maxRecDepth 100000 in
set_option maxHeartbeats 4000000 in
theorem c_specSet (h : HG) (D : DG) (sl : Int) (d : ByteArray) (x : Int) (w : World) (r : RdG w h D) (hk : SrcG h) (hf : FitG D) (hd : d.size ≤ 1048576) :
    Calls Try.prog 41 #[.agg #[.int .i64 h.l, .slice h.a h.n h.c], .int .i64 sl, .string d, .int .i64 x] w fun e w' => (∃ h' : HG, e = .returned (.tuple #[.agg #[.int .i64 h'.l, .slice h'.a h'.n h'.c], .int .i64 (setC D sl d x)]) ∧ OwnG w' w.heap.size w'.heap.size h' (setR D sl d x)) ∧ Below w.heap.size w w' := by
  have CO : Hid (∀ (W : World), RdG W h D → Calls Try.prog 36 #[.agg #[.int .i64 h.l, .slice h.a h.n h.c]] W fun e w' => e = .returned (.bool (okG D)) ∧ Below W.heap.size W w') := fun W hW => c_specOK h D W hW hf
  have RR : Hid (RdG w h D) := r
  have SR : Hid (SrcG h) := hk
  have FD : Hid (FitG D) := hf
  clear hk
  have k0 := r.len
  clear hf
  obtain ⟨rl, r0⟩ := r
  obtain ⟨l, a, n, c⟩ := h
  simp only at *
  subst k0 rl
  have R0 : Hid (RdV w a D.S.length (D.S.map Value.string)) := r0
  clear r0
  obtain ⟨V, hV⟩ : ∃ V, (w.alloc (.cells #[.int .i64 D.L, .slice a D.S.length c] 45)).alloc (.cells #[.int .i64 0, .slice none 0 0] 45) = V := ⟨_, rfl⟩
  have HB : Hid (Below w.heap.size w V) := by unfold Hid; rw [← hV]; exact ((Below.refl _ _).alloc (Nat.le_refl _) _).alloc (by simp) _
  have BX : Hid (Box V w.heap.size 45 #[.int .i64 D.L, .slice a D.S.length c]) := by unfold Hid; rw [← hV]; exact (Box.new _ _ _).alloc _
  have BR : Hid (Box V (w.heap.size + 1) 45 #[.int .i64 0, .slice none 0 0]) := by unfold Hid; rw [← hV]; exact Box.new2 _ _ _ _
  have SZ : Hid (V.heap.size = w.heap.size + 1 + 1) := by unfold Hid; rw [← hV]; simp
  obtain ⟨v0, v1⟩ := box2 BX.out
  obtain ⟨u0, u1⟩ := box2 BR.out
  have t0 := BR.out.thaw 0
  have t1 := BR.out.thaw 1
  have l0 := BX.out.lt
  have l1 := BR.out.lt
  have q01 : w.heap.size + 1 + 1 ≤ V.heap.size := by have := SZ.out; omega
  by_cases hL : 65536 < d.size
  · have E : Hid (setC D sl d x = 2 ∧ setR D sl d x = ⟨0, []⟩) := set2 hL
    go_enter Try.func41, Try.ntmps41
    go_wp2
    refine retG2 Try.results41 rfl rfl rfl (put2_box BR.out _ _) ⟨?_, put2_below HB.out (by omega) _ _⟩
    rw [E.out.1, E.out.2]
    exact ⟨⟨0, none, 0, 0⟩, rfl, own_zero _ _ _ (Nat.le_refl _)⟩
  have HL : Hid (¬ 65536 < d.size) := hL
  go_enter Try.func41, Try.ntmps41
  go_wp2_with fail
  refine (CO.out V (RR.out.below HB.out)).mono ?_
  rintro e w1 ⟨rfl, hb⟩
  have B1 : Hid (Below w.heap.size w w1) := HB.out.trans (hb.mono HB.out.size)
  have X1 : Hid (Box w1 w.heap.size 45 #[.int .i64 D.L, .slice a D.S.length c]) := BX.out.belowS hb
  have BR1 : Hid (Box w1 (w.heap.size + 1) 45 #[.int .i64 0, .slice none 0 0]) := BR.out.belowS hb
  have q12 : V.heap.size ≤ w1.heap.size := hb.size
  clear hb HB BX BR SZ v0 v1 u0 u1 t0 t1 hV l0 l1 CO
  obtain ⟨v0, v1⟩ := box2 X1.out
  obtain ⟨u0, u1⟩ := box2 BR1.out
  have t0 := BR1.out.thaw 0
  have t1 := BR1.out.thaw 1
  cases hok : okG D
  · have E : Hid (setC D sl d x = 1 ∧ setR D sl d x = ⟨0, []⟩) := set1 HL.out hok
    clear hok
    go_wp2
    refine retG2 Try.results41 rfl rfl rfl (put2_box BR1.out _ _) ⟨?_, put2_below B1.out (by omega) _ _⟩
    rw [E.out.1, E.out.2]
    exact ⟨⟨0, none, 0, 0⟩, rfl, own_zero _ _ _ (Nat.le_refl _)⟩
  have HO : Hid (okG D = true) := hok
  have H4 : Hid (D.S.length = 4) := (okG_parts hok).2.2.1
  clear hok
  have mk4 : setOK sl d x = false → Hid (setC D sl d x = 4 ∧ setR D sl d x = ⟨0, []⟩) := fun h => set4 HL.out HO.out h
  cases h1 : inB sl 0 3
  · have E := mk4 (by unfold setOK; rw [h1]; rfl)
    clear mk4
    go_wp2_with (go_at_call 63; refine (c_in _ _ _ _).mono ?_; rintro e w' ⟨rfl, hq⟩; have hq' := hq.symm; subst hq'; clear hq; rw [h1])
    refine retG2 Try.results41 rfl rfl rfl (put2_box BR1.out _ _) ⟨?_, put2_below B1.out (by omega) _ _⟩
    rw [E.out.1, E.out.2]
    exact ⟨⟨0, none, 0, 0⟩, rfl, own_zero _ _ _ (Nat.le_refl _)⟩
  by_cases h2 : 30 < d.size
  · have E := mk4 (by unfold setOK longB; rw [decide_eq_true h2]; simp)
    clear mk4
    go_wp2_with (go_at_call 63; refine (c_in _ _ _ _).mono ?_; rintro e w' ⟨rfl, hq⟩; have hq' := hq.symm; subst hq'; clear hq; rw [h1])
    refine retG2 Try.results41 rfl rfl rfl (put2_box BR1.out _ _) ⟨?_, put2_below B1.out (by omega) _ _⟩
    rw [E.out.1, E.out.2]
    exact ⟨⟨0, none, 0, 0⟩, rfl, own_zero _ _ _ (Nat.le_refl _)⟩
  have H2 : Hid (¬ 30 < d.size) := h2
  cases h3 : inB x 0 1000
  · have E := mk4 (by unfold setOK; rw [h3]; simp)
    clear mk4
    go_wp2_with (go_at_call 63; refine (c_in _ _ _ _).mono ?_; rintro e w' ⟨rfl, hq⟩; have hq' := hq.symm; subst hq'; clear hq; (first | rw [h1] | rw [h3]))
    refine retG2 Try.results41 rfl rfl rfl (put2_box BR1.out _ _) ⟨?_, put2_below B1.out (by omega) _ _⟩
    rw [E.out.1, E.out.2]
    exact ⟨⟨0, none, 0, 0⟩, rfl, own_zero _ _ _ (Nat.le_refl _)⟩
  have E : Hid (setC D sl d x = 0 ∧ setR D sl d x = ⟨x, D.S.set sl.toNat d⟩) := set0 HL.out HO.out (by unfold setOK longB; rw [h1, h3, decide_eq_false H2.out]; rfl)
  have hsl : 0 ≤ sl ∧ sl ≤ 3 := by simpa [inB] using h1
  obtain ⟨k, rfl⟩ := Int.eq_ofNat_of_zero_le hsl.1
  have hk4 : k < 4 := by omega
  clear mk4 hsl
  have CT : Hid (∀ (W : World), RdG W ⟨D.L, a, D.S.length, c⟩ D → Calls Try.prog 72 #[.agg #[.int .i64 D.L, .slice a D.S.length c], .int .i64 k, .string d, .int .i64 x] W fun e w' => (∃ h' : HG, e = .returned (.agg #[.int .i64 h'.l, .slice h'.a h'.n h'.c]) ∧ OwnG w' W.heap.size w'.heap.size h' ⟨x, D.S.set k d⟩) ∧ Below W.heap.size W w') := fun W hW => c_set ⟨D.L, a, D.S.length, c⟩ D k d x W hW SR.out FD.out H4.out hk4
  go_wp2_with (first
    | (go_at_call 63; refine (c_in _ _ _ _).mono ?_; rintro e w' ⟨rfl, hq⟩; have hq' := hq.symm; subst hq'; clear hq; (first | rw [h1] | rw [h3]))
    | (go_at_call 72; refine (CT.out w1 (RR.out.below B1.out)).mono ?_; rintro e w2 ⟨⟨h2', rfl, o2⟩, hb⟩; have O2 : Hid (OwnG w2 w1.heap.size w2.heap.size h2' ⟨x, D.S.set k d⟩) := o2; have B2 : Hid (Below w.heap.size w w2) := B1.out.trans (hb.mono B1.out.size); have BR2 : Hid (Box w2 (w.heap.size + 1) 45 #[.int .i64 0, .slice none 0 0]) := BR1.out.belowS hb; clear u0 u1 t0 t1 v0 v1 hb o2; obtain ⟨u0, u1⟩ := box2 BR2.out; have t0 := BR2.out.thaw 0; have t1 := BR2.out.thaw 1))
  refine retG2 Try.results41 rfl rfl rfl (put2_box BR2.out _ _) ⟨?_, put2_below B2.out (by omega) _ _⟩
  rw [E.out.1, E.out.2]
  have := O2.out.put2 (r := w.heap.size + 1) (.inl (by omega)) (.int .i64 h2'.l) (.slice h2'.a h2'.n h2'.c)
  exact ⟨h2', rfl, this.wide (B' := w.heap.size) (by omega)⟩

end Go.Proofs.Ytaemdndkajomcaa
