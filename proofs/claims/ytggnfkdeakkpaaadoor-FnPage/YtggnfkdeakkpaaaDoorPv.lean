/-
  The bytes of a page: the walk of the specification's PageBytes.
-/
import Derived.Test.YtggnfkdeakkpaaaDoorPt
namespace Go.Proofs.YtggnfkdeakkpaaaDoor
open Go Go.RowKit
attribute [local go_sem ↓] Go.wp_at_zero Go.wp_at_succ


set_option maxRecDepth 100000 in
set_option maxHeartbeats 4000000 in
theorem c_specPB (h : HG) (D : DG) (no : Int) (w : World) (r : RdG w h D) (hf : FitG D) :
    Calls Tryd.prog 13 #[.int .i64 no, .agg #[.int .i64 h.l, .slice h.a h.n h.c]] w fun e w' => (∃ ha hc, e = .returned (.tuple #[.slice ha (pbR D no).length hc, .int .i64 (pbC D no)]) ∧ w'.ownsRow w.heap.size 5 1 (.slice ha (pbR D no).length hc) (pbR D no).length ((pbR D no).map (Value.int .u8))) ∧ Below w.heap.size w w' := by
  have CO : Hid (∀ (W : World), RdG W h D → Calls Tryd.prog 34 #[.agg #[.int .i64 h.l, .slice h.a h.n h.c]] W fun e w' => e = .returned (.bool (okG D)) ∧ Below W.heap.size W w') := fun W hW => c_specOK h D W hW hf
  have CB : Hid (okG D = true → 0 ≤ no ∧ no ≤ 255 → ∀ (W : World), RdG W h D → Calls Tryd.prog 41 #[.int .i64 no, .agg #[.int .i64 h.l, .slice h.a h.n h.c]] W fun e w' => (∃ a' c', e = .returned (.slice a' (8 + (fbZ D.S 4 4).length) c') ∧ w'.ownsRow W.heap.size 5 1 (.slice a' (8 + (fbZ D.S 4 4).length) c') (8 + (fbZ D.S 4 4).length) ((pbZ D no ++ sumZ (Crc.crc (pbZ D no) : Nat)).map (Value.int .u8))) ∧ Below W.heap.size W w') := fun h1 h2 W hW => c_bytes h D no W hW h1 h2 _ rfl
  have RR : Hid (RdG w h D) := r
  have k0 := r.len
  obtain ⟨f0, f1⟩ := hf
  obtain ⟨rl, r0⟩ := r
  obtain ⟨l, a, n, c⟩ := h
  simp only at *
  subst k0 rl
  clear r0 f1
  obtain ⟨V, hV⟩ : ∃ V, w.alloc (.cells #[.int .i64 D.L, .slice a D.S.length c] 25) = V := ⟨_, rfl⟩
  have HB : Hid (Below w.heap.size w V) := by unfold Hid; rw [← hV]; exact (Below.refl _ _).alloc (Nat.le_refl _) _
  have BX : Box V w.heap.size 25 #[.int .i64 D.L, .slice a D.S.length c] := by rw [← hV]; exact Box.new _ _ _
  obtain ⟨v0, v1⟩ := box2 BX
  go_enter Tryd.func13, Tryd.ntmps13
  go_wp2_with fail
  refine (CO.out V (RR.out.below HB.out)).mono ?_
  rintro e w1 ⟨rfl, hb⟩
  have B1 : Hid (Below w.heap.size w w1) := HB.out.trans (hb.mono HB.out.size)
  have X1 : Hid (Box w1 w.heap.size 25 #[.int .i64 D.L, .slice a D.S.length c]) := BX.belowS hb
  obtain ⟨x0, x1⟩ := box2 X1.out
  have q01 : w.heap.size < w1.heap.size := X1.out.lt
  clear hb hV HB BX v0 v1 CO
  cases hok : okG D
  · have E : Hid (pbC D no = 1 ∧ pbR D no = []) := pb1 hok
    clear hok
    go_wp2
    go_ret2
    rw [E.out.1, E.out.2]
    exact ⟨⟨_, 0, rfl, World.ownsRow_lit w1 #[] 0 B1.out.size (Nat.zero_le _) rfl⟩, B1.out.alloc B1.out.size _⟩
  have HO : Hid (okG D = true) := hok
  clear hok
  cases h1 : inB no 0 255
  · have E : Hid (pbC D no = 4 ∧ pbR D no = []) := pb4 HO.out h1
    go_wp2_with (go_at_call 35; refine (c_in _ _ _ _).mono ?_; rintro e w' ⟨rfl, hq⟩; have hq' := hq.symm; subst hq'; clear hq; rw [h1])
    go_ret2
    rw [E.out.1, E.out.2]
    exact ⟨⟨_, 0, rfl, World.ownsRow_lit w1 #[] 0 B1.out.size (Nat.zero_le _) rfl⟩, B1.out.alloc B1.out.size _⟩
  have E : Hid (pbC D no = 0 ∧ pbR D no = pbZ D no ++ sumZ (Crc.crc (pbZ D no) : Nat)) := pb0 HO.out h1
  have hno : Hid (0 ≤ no ∧ no ≤ 255) := by unfold Hid; simpa [inB] using h1
  have EL : Hid (8 + (fbZ D.S 4 4).length = (pbR D no).length) := by unfold Hid; rw [E.out.2, List.length_append, pb_len]; simp [sumZ]; omega
  go_wp2_with (first
    | (go_at_call 35; refine (c_in _ _ _ _).mono ?_; rintro e w' ⟨rfl, hq⟩; have hq' := hq.symm; subst hq'; clear hq; rw [h1])
    | (go_at_call 41; refine (CB.out HO.out hno.out w1 (RR.out.below B1.out)).mono ?_; rintro e w2 ⟨⟨a2, c2, rfl, o2⟩, hb⟩; have B2 : Hid (Below w.heap.size w w2) := B1.out.trans (hb.mono B1.out.size); rw [EL.out, ← E.out.2] at o2; rw [EL.out]; have O2 : Hid (w2.ownsRow w.heap.size 5 1 (.slice a2 (pbR D no).length c2) (pbR D no).length ((pbR D no).map (Value.int .u8))) := o2.down B1.out.size; clear hb o2 x0 x1))
  go_ret2
  rw [E.out.1]
  exact ⟨⟨a2, c2, rfl, O2.out⟩, B2.out⟩

end Go.Proofs.YtggnfkdeakkpaaaDoor
