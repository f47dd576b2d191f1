/-
  A tree: its size, its copy.
-/
import Derived.Test.YthnggpjgajkaeaaTp
namespace Go.Proofs.Ythnggpjgajkaeaa
open Go Go.RowKit
attribute [local go_sem ↓] Go.wp_at_zero Go.wp_at_succ

set_option maxRecDepth 100000 in
set_option maxHeartbeats 8000000 in
theorem c_szT (ro : Int) (a : Option Addr) (n c : Nat) (vs : List TNode) (left : Int) (w : World) (hr : RdN w a n vs) (hm : n ≤ maxLen) (hs : ∀ i, i < n → (vs.getD i zeroN).kn ≤ maxLen ∧ (∀ s ∈ (vs.getD i zeroN).ks, s.size ≤ maxLen) ∧ (vs.getD i zeroN).im ≤ maxLen) (h0 : 0 ≤ left) (h1 : left ≤ 1048576) :
    Calls Try.prog 27 #[.agg #[.int .i64 ro, .slice a n c], .int .i64 left] w fun e w' => (∃ z : Int, e = .returned (.int .i64 z) ∧ z ≤ left ∧ (0 ≤ z → n ≤ 1048576 ∧ ∀ i, i < n → FitN (vs.getD i zeroN))) ∧ Below w.heap.size w w' := by
  obtain ⟨V, hV⟩ : ∃ Q, w.alloc (.cells #[.int .i64 ro, .slice a n c] 46) = Q := ⟨_, rfl⟩
  have bV : Below w.heap.size w V := by rw [← hV]; exact (Below.refl _ _).alloc (Nat.le_refl _) _
  have XV : Hid (Box V w.heap.size 46 #[.int .i64 ro, .slice a n c]) := by unfold Hid; rw [← hV]; exact Box.new _ _ _
  have BV : Hid (Below w.heap.size w V) := bV
  have x1 : V.cell? ⟨w.heap.size, 1, none⟩ = some (.slice a n c) := XV.out.cell 1
  have C := c_szN a n c vs left V (hr.below bV) hm hs h0 h1
  clear bV hr hm hs XV
  go_enter Try.func27, Try.ntmps27
  go_wp2_with fail
  refine C.mono ?_
  rintro e w1 ⟨⟨z, rfl, hzl, hz⟩, hb1⟩
  have B1 : Hid (Below w.heap.size w w1) := BV.out.trans (hb1.mono BV.out.size)
  have HZ : Hid (0 ≤ z → n ≤ 1048576 ∧ ∀ i, i < n → FitN (vs.getD i zeroN)) := hz
  clear hb1 hz C BV hV x1
  by_cases hneg : z < 0
  · go_wp2
    go_ret
    exact ⟨⟨_, rfl, by omega, fun h => absurd h (by omega)⟩, B1.out⟩
  · go_wp2
    go_ret
    exact ⟨⟨_, rfl, by omega, HZ.out⟩, B1.out⟩
set_option maxRecDepth 100000 in
set_option maxHeartbeats 8000000 in
theorem c_toT (ro : Int) (a : Option Addr) (n c : Nat) (vs : List TNode) (w : World) (hr : RdN w a n vs) (hn : n ≤ 1048576) (hf : ∀ i, i < n → FitN (vs.getD i zeroN)) :
    Calls Try.prog 29 #[.agg #[.int .i64 ro, .slice a n c]] w fun e w' => (∃ (x : Nat) (gs : List TNode), e = .returned (.agg #[.int .i64 ro, .slice (some ⟨x, 0, none⟩) n n]) ∧ SameN vs gs ∧ w'.ownsRow w.heap.size 72 3 (.slice (some ⟨x, 0, none⟩) n n) n (cellsN gs) ∧ OwnN w' (x + 1) w'.heap.size gs ∧ w.heap.size ≤ x ∧ x < w'.heap.size) ∧ Below w.heap.size w w' := by
  obtain ⟨V0, hV0⟩ : ∃ Q, w.alloc (.cells #[.int .i64 ro, .slice a n c] 46) = Q := ⟨_, rfl⟩
  have bV0 : Below w.heap.size w V0 := by rw [← hV0]; exact (Below.refl _ _).alloc (Nat.le_refl _) _
  have XV0 : Hid (Box V0 w.heap.size 46 #[.int .i64 ro, .slice a n c]) := by unfold Hid; rw [← hV0]; exact Box.new _ _ _
  obtain ⟨V1, hV1⟩ : ∃ Q, V0.alloc (.cells #[.int .i64 0, .slice none 0 0] 27) = Q := ⟨_, rfl⟩
  have bV1 : Below V0.heap.size V0 V1 := by rw [← hV1]; exact (Below.refl _ _).alloc (Nat.le_refl _) _
  have XV1 : Hid (Box V1 V0.heap.size 27 #[.int .i64 0, .slice none 0 0]) := by unfold Hid; rw [← hV1]; exact Box.new _ _ _
  obtain ⟨V2, hV2⟩ : ∃ Q, V1.alloc (.cells #[.int .i64 0, .slice none 0 0] 27) = Q := ⟨_, rfl⟩
  have bV2 : Below V1.heap.size V1 V2 := by rw [← hV2]; exact (Below.refl _ _).alloc (Nat.le_refl _) _
  have XV2 : Hid (Box V2 V1.heap.size 27 #[.int .i64 0, .slice none 0 0]) := by unfold Hid; rw [← hV2]; exact Box.new _ _ _
  have S0 : V0.heap.size = w.heap.size + 1 := by rw [← hV0]; simp
  have S1 : V1.heap.size = w.heap.size + 2 := by rw [← hV1]; simp [S0]
  have S2 : V2.heap.size = w.heap.size + 3 := by rw [← hV2]; simp [S1]
  rw [S0] at XV1
  rw [S1] at XV2
  have BV : Hid (Below w.heap.size w V2) := bV0.trans ((bV1.trans (bV2.mono bV1.size)).mono bV0.size)
  have Y0 : Hid (Box V2 w.heap.size 46 #[.int .i64 ro, .slice a n c]) := (XV0.out.belowS bV1).belowS bV2
  have Y1 : Hid (Box V2 (w.heap.size + 1) 27 #[.int .i64 0, .slice none 0 0]) := XV1.out.belowS bV2
  obtain ⟨P, hP⟩ : ∃ P, V2.setCell ⟨w.heap.size + 2, 0, none⟩ (.int .i64 ro) = P := ⟨_, rfl⟩
  have bP : Below (w.heap.size + 2) V2 P := by rw [← hP]; exact (Below.refl _ _).setCell (by show w.heap.size + 2 ≤ w.heap.size + 2; omega) _
  have SP : P.heap.size = w.heap.size + 3 := by rw [← hP]; simp [S2]
  have P2 : Hid (Box P (w.heap.size + 2) 27 #[.int .i64 ro, .slice none 0 0]) := by unfold Hid; rw [← hP]; exact XV2.out.set 0 _
  have P0 : Hid (Box P w.heap.size 46 #[.int .i64 ro, .slice a n c]) := Y0.out.below bP (by omega)
  have P1 : Hid (Box P (w.heap.size + 1) 27 #[.int .i64 0, .slice none 0 0]) := Y1.out.below bP (by omega)
  have BP : Hid (Below w.heap.size w P) := BV.out.trans (bP.mono (by omega))
  have C := c_toN a n c vs P (hr.below BP.out) hn hf
  have x0 : V2.cell? ⟨w.heap.size, 0, none⟩ = some (.int .i64 ro) := Y0.out.cell 0
  have u0 : V2.cell? ⟨w.heap.size + 2, 0, none⟩ = some (.int .i64 0) := XV2.out.cell 0
  have t0 := XV2.out.thaw 0
  have x1 : P.cell? ⟨w.heap.size, 1, none⟩ = some (.slice a n c) := P0.out.cell 1
  clear bV0 bV1 bV2 bP hr hn hf XV0 XV1 XV2 Y0 Y1 BV
  go_enter Try.func29, Try.ntmps29
  go_wp2_with fail
  clear hP hV0 hV1 hV2 x0 u0 t0 x1
  refine C.mono ?_
  rintro e w1 ⟨⟨gs, rfl, hsm, ho, hof⟩, hb⟩
  have s1 : P.heap.size < w1.heap.size := (ho.lt P.heap.size rfl).2
  rw [SP] at ho s1 hof ⊢
  have O1 : Hid (w1.ownsRow (w.heap.size + 3) 72 3 (.slice (some ⟨w.heap.size + 3, 0, none⟩) n n) n (cellsN gs)) := ho
  have F1 : Hid (OwnN w1 (w.heap.size + 3 + 1) w1.heap.size gs) := hof
  have HS : Hid (SameN vs gs) := hsm
  have B1 : Hid (Below w.heap.size w w1) := BP.out.trans (hb.mono BP.out.size)
  have Q1 : Hid (Box w1 (w.heap.size + 1) 27 #[.int .i64 0, .slice none 0 0]) := P1.out.belowS hb
  have Q2 : Hid (Box w1 (w.heap.size + 2) 27 #[.int .i64 ro, .slice none 0 0]) := P2.out.belowS hb
  clear ho hof hsm hb BP P0 P1 P2 C
  obtain ⟨U, hU⟩ : ∃ Q, w1.setCell ⟨w.heap.size + 2, 1, none⟩ (.slice (some ⟨w.heap.size + 3, 0, none⟩) n n) = Q := ⟨_, rfl⟩
  have bU : ∀ B, B ≤ w.heap.size + 2 → Below B w1 U := fun B hB => by rw [← hU]; exact (Below.refl _ _).setCell (by show B ≤ w.heap.size + 2; omega) _
  have SU : U.heap.size = w1.heap.size := by rw [← hU]; simp
  have SM : Hid (∀ g, g ≠ w.heap.size + 2 → U.heap[g]? = w1.heap[g]?) := by unfold Hid; intro g hg; rw [← hU]; exact Below.heap_setCell _ _ _ _ hg
  have U1 : Hid (Box U (w.heap.size + 1) 27 #[.int .i64 0, .slice none 0 0]) := Q1.out.below (bU (w.heap.size + 2) (by omega)) (by omega)
  have U2 : Hid (Box U (w.heap.size + 2) 27 #[.int .i64 ro, .slice (some ⟨w.heap.size + 3, 0, none⟩) n n]) := by unfold Hid; rw [← hU]; exact Q2.out.set 1 _
  have BU : Hid (Below w.heap.size w U) := B1.out.trans (bU _ (by omega))
  have c21 : w1.cell? ⟨w.heap.size + 2, 1, none⟩ = some (.slice none 0 0) := Q2.out.cell 1
  have t21 := Q2.out.thaw 1
  have a0 : U.cell? ⟨w.heap.size + 2, 0, none⟩ = some (.int .i64 ro) := U2.out.cell 0
  have a1 : U.cell? ⟨w.heap.size + 2, 1, none⟩ = some (.slice (some ⟨w.heap.size + 3, 0, none⟩) n n) := U2.out.cell 1
  have y0 := U1.out.cell 0
  have y1 := U1.out.cell 1
  have z0 := U1.out.thaw 0
  have z1 := U1.out.thaw 1
  clear bU Q1 Q2 B1
  go_wp2
  have sm : ∀ g, w.heap.size + 3 ≤ g → ((U.setCell ⟨w.heap.size + 1, 0, none⟩ (.int .i64 ro)).setCell ⟨w.heap.size + 1, 1, none⟩ (.slice (some ⟨w.heap.size + 3, 0, none⟩) n n)).heap[g]? = w1.heap[g]? := fun g hg => by
    rw [Below.heap_setCell _ _ _ _ (by show g ≠ w.heap.size + 1; omega), Below.heap_setCell _ _ _ _ (by show g ≠ w.heap.size + 1; omega)]
    exact SM.out g (by omega)
  refine retT Try.results29 rfl rfl (put2_box U1.out _ _) ⟨⟨w.heap.size + 3, gs, rfl, HS.out, ?_, ?_, by omega, by simp; omega⟩, put2_below BU.out (by omega) _ _⟩
  · exact (own_same O1.out fun g e => by rw [ob_slice] at e; cases e; exact sm (w.heap.size + 3) (by omega)).down (by omega)
  · exact fun i hi => ((F1.out i hi).same (w' := ((U.setCell ⟨w.heap.size + 1, 0, none⟩ (.int .i64 ro)).setCell ⟨w.heap.size + 1, 1, none⟩ (.slice (some ⟨w.heap.size + 3, 0, none⟩) n n))) fun g h1 _ => sm g (by omega)).wide (Nat.le_refl _) (by simp; omega)

end Go.Proofs.Ythnggpjgajkaeaa
