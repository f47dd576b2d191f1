/-
  A node copied, with the lists within it.
-/
import Derived.Test.YthnggpjgajkaeaaTn
import Derived.Test.YthnggpjgajkaeaaTb
namespace Go.Proofs.Ythnggpjgajkaeaa
open Go Go.RowKit
attribute [local go_sem ↓] Go.wp_at_zero Go.wp_at_succ

/-! ### I -/
theorem infoI : (Try.prog.info? 3).map (fun i => (i.zero, i.size, i.bytes)) = some (some (Value.int .i64 0), 1, 8) := by kernel_rfl
set_option maxHeartbeats 1000000 in
theorem c_toI (a : Option Addr) (n cap : Nat) (ss : List Int) (w : World) (hr : RdV w a n (ss.map (Value.int .i64))) (hn : n ≤ 1048576) :
    Calls Try.prog 99 #[.slice a n cap] w fun e w' => e = .returned (.slice (some ⟨w.heap.size, 0, none⟩) n n) ∧ w'.ownsRow w.heap.size 3 1 (.slice (some ⟨w.heap.size, 0, none⟩) n n) n (ss.map (Value.int .i64)) ∧ Below w.heap.size w w' := by
  obtain ⟨hl, hcs⟩ := hr
  obtain ⟨i0, hi, hz0, hz1, hz2⟩ := info_parts infoI
  go_enter Try.func99, Try.ntmps99
  go_wp2_with (at_make; refine wpList_make_full _ rfl (.tmp 6) (.tmp 6) 70 rfl w.heap.size 3 i0 (Value.int .i64 0) 1 Try.underlying70 hi hz0 hz1 .i64 .i64 _ _ n rfl rfl rfl rfl (by rw [hz2]; omega) (by unfold maxLen; omega) (Nat.le_refl _) ?_; intro w1 hown hgrow)
  go_loopw [4] (fun i wr => ∃ k : Nat, k ≤ n ∧ i = .int .i64 k ∧ wr.ownsRow w.heap.size 3 1 (.slice (some ⟨w.heap.size, 0, none⟩) n n) n (partV (Value.int .i64 0) (ss.map (Value.int .i64)) n k) ∧ Below w.heap.size w wr) (fun i _ => n - (intOf i).toNat)
  case atStart => exact ⟨0, by omega, rfl, by rw [← partV_zero (Value.int .i64 0) rfl (ss.map (Value.int .i64)) n]; exact hown, (Below.refl _ _).grown hgrow (Nat.le_refl _) (fun k h => by cases h)⟩
  case round =>
    obtain ⟨k, hk, rfl, hown, hb⟩ := hrel
    by_cases hlt : k < n
    · obtain ⟨b, off, rfl, hbl, hc⟩ := hcs (by omega)
      obtain ⟨x, hx⟩ : ∃ x, x = ss.getD k 0 := ⟨_, rfl⟩
      have hg : (ss.map (Value.int .i64))[k]? = some ((Value.int .i64) x) := by rw [hx]; exact map_get _ _ _ _ (by simpa using (show k < (ss.map (Value.int .i64)).length by omega))
      have hck : wr.cell? ⟨b, off + k, none⟩ = some ((Value.int .i64) x) := by rw [hb.cell (p := ⟨b, off + k, none⟩) hbl, hc k hlt, hg]
      obtain ⟨old, hold⟩ : ∃ old, wr.cell? ⟨w.heap.size, k, none⟩ = some old := by
        rw [hown.cellAt k (by omega)]
        exact ⟨_, List.getElem?_eq_getElem (by rw [hown.1]; omega)⟩
      have hfz := hown.frozenAt k
      have hown2 := (hown.stored k ((Value.int .i64) x)).1
      rw [partV_step _ _ n k _ hl hlt hg] at hown2
      have HO : Hid (_) := hown2
      clear hown2 hc hcs hgrow hx hg
      go_wp2
      go_roundw
      case rel => exact ⟨k + 1, by omega, by go_num, HO.out, hb.setCell (Nat.le_refl _) _⟩
      case measure => simp [intOf]; omega
    · have e : k = n := by omega
      subst e
      rw [partV_full _ _ k hl] at hown
      go_wp2
      go_ret
      exact ⟨rfl, hown, hb⟩

set_option maxRecDepth 100000 in
set_option maxHeartbeats 8000000 in
theorem c_toN1 (lf : Bool) (ka : Option Addr) (kn kc : Nat) (ks : List ByteArray) (ia : Option Addr) (im ic : Nat) (js : List Int) (w : World) (hr : RdV w ka kn (ks.map Value.string)) (hi : RdV w ia im (js.map (Value.int .i64))) (m1 : kn ≤ 1048576) (m2 : im ≤ 1048576) :
    Calls Try.prog 84 #[.agg #[.bool lf, .slice ka kn kc, .slice ia im ic]] w fun e w' => (∃ x y : Nat, e = .returned (.agg #[.bool lf, .slice (some ⟨x, 0, none⟩) kn kn, .slice (some ⟨y, 0, none⟩) im im]) ∧ w'.ownsRow w.heap.size 9 1 (.slice (some ⟨x, 0, none⟩) kn kn) kn (ks.map Value.string) ∧ w'.ownsRow w.heap.size 3 1 (.slice (some ⟨y, 0, none⟩) im im) im (js.map (Value.int .i64)) ∧ w.heap.size ≤ x ∧ x < y ∧ y < w'.heap.size) ∧ Below w.heap.size w w' := by
  obtain ⟨V0, hV0⟩ : ∃ Q, w.alloc (.cells #[.bool lf, .slice ka kn kc, .slice ia im ic] 104) = Q := ⟨_, rfl⟩
  have bV0 : Below w.heap.size w V0 := by rw [← hV0]; exact (Below.refl _ _).alloc (Nat.le_refl _) _
  have XV0 : Hid (Box V0 w.heap.size 104 #[.bool lf, .slice ka kn kc, .slice ia im ic]) := by unfold Hid; rw [← hV0]; exact Box.new _ _ _
  obtain ⟨V1, hV1⟩ : ∃ Q, V0.alloc (.cells #[.bool false, .slice none 0 0, .slice none 0 0] 72) = Q := ⟨_, rfl⟩
  have bV1 : Below V0.heap.size V0 V1 := by rw [← hV1]; exact (Below.refl _ _).alloc (Nat.le_refl _) _
  have XV1 : Hid (Box V1 V0.heap.size 72 #[.bool false, .slice none 0 0, .slice none 0 0]) := by unfold Hid; rw [← hV1]; exact Box.new _ _ _
  obtain ⟨V2, hV2⟩ : ∃ Q, V1.alloc (.cells #[.bool false, .slice none 0 0, .slice none 0 0] 72) = Q := ⟨_, rfl⟩
  have bV2 : Below V1.heap.size V1 V2 := by rw [← hV2]; exact (Below.refl _ _).alloc (Nat.le_refl _) _
  have XV2 : Hid (Box V2 V1.heap.size 72 #[.bool false, .slice none 0 0, .slice none 0 0]) := by unfold Hid; rw [← hV2]; exact Box.new _ _ _
  have S0 : V0.heap.size = w.heap.size + 1 := by rw [← hV0]; simp
  have S1 : V1.heap.size = w.heap.size + 2 := by rw [← hV1]; simp [S0]
  have S2 : V2.heap.size = w.heap.size + 3 := by rw [← hV2]; simp [S1]
  rw [S0] at XV1
  rw [S1] at XV2
  have BV : Hid (Below w.heap.size w V2) := bV0.trans ((bV1.trans (bV2.mono bV1.size)).mono bV0.size)
  have Y0 : Hid (Box V2 w.heap.size 104 #[.bool lf, .slice ka kn kc, .slice ia im ic]) := (XV0.out.belowS bV1).belowS bV2
  have Y1 : Hid (Box V2 (w.heap.size + 1) 72 #[.bool false, .slice none 0 0, .slice none 0 0]) := XV1.out.belowS bV2
  have HI0 : Hid (RdV w ia im (js.map (Value.int .i64))) := hi
  obtain ⟨P, hP⟩ : ∃ P, V2.setCell ⟨w.heap.size + 2, 0, none⟩ (.bool lf) = P := ⟨_, rfl⟩
  have bP : Below (w.heap.size + 2) V2 P := by rw [← hP]; exact (Below.refl _ _).setCell (by show w.heap.size + 2 ≤ w.heap.size + 2; omega) _
  have SP : P.heap.size = w.heap.size + 3 := by rw [← hP]; simp [S2]
  have P2 : Hid (Box P (w.heap.size + 2) 72 #[.bool lf, .slice none 0 0, .slice none 0 0]) := by unfold Hid; rw [← hP]; exact XV2.out.set 0 _
  have P0 : Hid (Box P w.heap.size 104 #[.bool lf, .slice ka kn kc, .slice ia im ic]) := Y0.out.below bP (by omega)
  have P1 : Hid (Box P (w.heap.size + 1) 72 #[.bool false, .slice none 0 0, .slice none 0 0]) := Y1.out.below bP (by omega)
  have BP : Hid (Below w.heap.size w P) := BV.out.trans (bP.mono (by omega))
  have KP : Hid (RdV P ka kn (ks.map Value.string)) := hr.below BP.out
  have x0 : V2.cell? ⟨w.heap.size, 0, none⟩ = some (.bool lf) := Y0.out.cell 0
  have u0 : V2.cell? ⟨w.heap.size + 2, 0, none⟩ = some (.bool false) := XV2.out.cell 0
  have t0 := XV2.out.thaw 0
  have x1 : P.cell? ⟨w.heap.size, 1, none⟩ = some (.slice ka kn kc) := P0.out.cell 1
  clear bV0 bV1 bV2 bP hr hi XV0 XV1 XV2 Y0 Y1 BV
  go_enter Try.func84, Try.ntmps84
  go_wp2_with fail
  clear hP hV0 hV1 hV2 x0 u0 t0 x1
  refine (c_toS ka kn kc ks P KP.out m1).mono ?_
  rintro e w1 ⟨rfl, ho, hb⟩
  have s1 : P.heap.size < w1.heap.size := (ho.lt P.heap.size rfl).2
  rw [SP] at ho s1
  have O1 : Hid (w1.ownsRow (w.heap.size + 3) 9 1 (.slice (some ⟨w.heap.size + 3, 0, none⟩) kn kn) kn (ks.map Value.string)) := ho
  have B1 : Hid (Below w.heap.size w w1) := BP.out.trans (hb.mono BP.out.size)
  have Q0 : Hid (Box w1 w.heap.size 104 #[.bool lf, .slice ka kn kc, .slice ia im ic]) := P0.out.belowS hb
  have Q1 : Hid (Box w1 (w.heap.size + 1) 72 #[.bool false, .slice none 0 0, .slice none 0 0]) := P1.out.belowS hb
  have Q2 : Hid (Box w1 (w.heap.size + 2) 72 #[.bool lf, .slice none 0 0, .slice none 0 0]) := P2.out.belowS hb
  clear ho hb BP P0 P1 P2 KP
  obtain ⟨P', hP'⟩ : ∃ Q, w1.setCell ⟨w.heap.size + 2, 1, none⟩ (.slice (some ⟨w.heap.size + 3, 0, none⟩) kn kn) = Q := ⟨_, rfl⟩
  have bP' : ∀ B, B ≤ w.heap.size + 2 → Below B w1 P' := fun B hB => by rw [← hP']; exact (Below.refl _ _).setCell (by show B ≤ w.heap.size + 2; omega) _
  have SP' : P'.heap.size = w1.heap.size := by rw [← hP']; simp
  have R2 : Hid (Box P' (w.heap.size + 2) 72 #[.bool lf, .slice (some ⟨w.heap.size + 3, 0, none⟩) kn kn, .slice none 0 0]) := by unfold Hid; rw [← hP']; exact Q2.out.set 1 _
  have R0 : Hid (Box P' w.heap.size 104 #[.bool lf, .slice ka kn kc, .slice ia im ic]) := Q0.out.below (bP' (w.heap.size + 2) (by omega)) (by omega)
  have R1 : Hid (Box P' (w.heap.size + 1) 72 #[.bool false, .slice none 0 0, .slice none 0 0]) := Q1.out.below (bP' (w.heap.size + 2) (by omega)) (by omega)
  have B2 : Hid (Below w.heap.size w P') := B1.out.trans (bP' _ (by omega))
  have O2 : Hid (P'.ownsRow (w.heap.size + 3) 9 1 (.slice (some ⟨w.heap.size + 3, 0, none⟩) kn kn) kn (ks.map Value.string)) := own_same O1.out fun g e => by rw [ob_slice] at e; cases e; rw [← hP']; exact Below.heap_setCell _ _ _ _ (by show w.heap.size + 3 ≠ w.heap.size + 2; omega)
  have c21 : w1.cell? ⟨w.heap.size + 2, 1, none⟩ = some (.slice none 0 0) := Q2.out.cell 1
  have t21 := Q2.out.thaw 1
  have x2 : P'.cell? ⟨w.heap.size, 2, none⟩ = some (.slice ia im ic) := R0.out.cell 2
  clear bP' O1 Q0 Q1 Q2 B1
  go_wp2_with fail
  clear hP' c21 t21 x2
  refine (c_toI ia im ic js P' (HI0.out.below B2.out) m2).mono ?_
  rintro e w3 ⟨rfl, ho, hb⟩
  have s3 : P'.heap.size < w3.heap.size := (ho.lt P'.heap.size rfl).2
  rw [SP'] at ho s3
  have B3 : Hid (Below w.heap.size w w3) := B2.out.trans (hb.mono B2.out.size)
  have T1 : Hid (Box w3 (w.heap.size + 1) 72 #[.bool false, .slice none 0 0, .slice none 0 0]) := R1.out.belowS hb
  have T2 : Hid (Box w3 (w.heap.size + 2) 72 #[.bool lf, .slice (some ⟨w.heap.size + 3, 0, none⟩) kn kn, .slice none 0 0]) := R2.out.belowS hb
  have O3 : Hid (w3.ownsRow (w.heap.size + 3) 9 1 (.slice (some ⟨w.heap.size + 3, 0, none⟩) kn kn) kn (ks.map Value.string)) := own_below O2.out hb
  have I3 : Hid (w3.ownsRow w1.heap.size 3 1 (.slice (some ⟨w1.heap.size, 0, none⟩) im im) im (js.map (Value.int .i64))) := ho
  clear ho hb R0 R1 R2 B2 O2
  obtain ⟨U, hU⟩ : ∃ Q, w3.setCell ⟨w.heap.size + 2, 2, none⟩ (.slice (some ⟨w1.heap.size, 0, none⟩) im im) = Q := ⟨_, rfl⟩
  have bU : ∀ B, B ≤ w.heap.size + 2 → Below B w3 U := fun B hB => by rw [← hU]; exact (Below.refl _ _).setCell (by show B ≤ w.heap.size + 2; omega) _
  have SU : U.heap.size = w3.heap.size := by rw [← hU]; simp
  have sU : ∀ g, g ≠ w.heap.size + 2 → U.heap[g]? = w3.heap[g]? := fun g hg => by rw [← hU]; exact Below.heap_setCell _ _ _ _ hg
  have U1 : Hid (Box U (w.heap.size + 1) 72 #[.bool false, .slice none 0 0, .slice none 0 0]) := T1.out.below (bU (w.heap.size + 2) (by omega)) (by omega)
  have U2 : Hid (Box U (w.heap.size + 2) 72 #[.bool lf, .slice (some ⟨w.heap.size + 3, 0, none⟩) kn kn, .slice (some ⟨w1.heap.size, 0, none⟩) im im]) := by unfold Hid; rw [← hU]; exact T2.out.set 2 _
  have BU : Hid (Below w.heap.size w U) := B3.out.trans (bU _ (by omega))
  have SM : Hid (∀ g, g ≠ w.heap.size + 2 → U.heap[g]? = w3.heap[g]?) := sU
  have c22 : w3.cell? ⟨w.heap.size + 2, 2, none⟩ = some (.slice none 0 0) := T2.out.cell 2
  have t22 := T2.out.thaw 2
  have a0 : U.cell? ⟨w.heap.size + 2, 0, none⟩ = some (.bool lf) := U2.out.cell 0
  have a1 : U.cell? ⟨w.heap.size + 2, 1, none⟩ = some (.slice (some ⟨w.heap.size + 3, 0, none⟩) kn kn) := U2.out.cell 1
  have a2 : U.cell? ⟨w.heap.size + 2, 2, none⟩ = some (.slice (some ⟨w1.heap.size, 0, none⟩) im im) := U2.out.cell 2
  have y0 := U1.out.cell 0
  have y1 := U1.out.cell 1
  have y2 := U1.out.cell 2
  have z0 := U1.out.thaw 0
  have z1 := U1.out.thaw 1
  have z2 := U1.out.thaw 2
  clear bU sU T1 T2 B3
  go_wp2
  have sm : ∀ g, w.heap.size + 3 ≤ g → (((U.setCell ⟨w.heap.size + 1, 0, none⟩ (.bool lf)).setCell ⟨w.heap.size + 1, 1, none⟩ (.slice (some ⟨w.heap.size + 3, 0, none⟩) kn kn)).setCell ⟨w.heap.size + 1, 2, none⟩ (.slice (some ⟨w1.heap.size, 0, none⟩) im im)).heap[g]? = w3.heap[g]? := fun g hg => by
    rw [Below.heap_setCell _ _ _ _ (by show g ≠ w.heap.size + 1; omega), Below.heap_setCell _ _ _ _ (by show g ≠ w.heap.size + 1; omega), Below.heap_setCell _ _ _ _ (by show g ≠ w.heap.size + 1; omega)]
    exact SM.out g (by omega)
  refine retN Try.results84 rfl rfl (put3_box U1.out _ _ _) ⟨⟨w.heap.size + 3, w1.heap.size, rfl, ?_, ?_, by omega, by omega, by simp; omega⟩, put3_below BU.out (by omega) _ _ _⟩
  · exact (own_same O3.out fun g e => by rw [ob_slice] at e; cases e; exact sm (w.heap.size + 3) (by omega)).down (by omega)
  · exact (own_same I3.out fun g e => by rw [ob_slice] at e; cases e; exact sm w1.heap.size (by omega)).down (by omega)

end Go.Proofs.Ythnggpjgajkaeaa
