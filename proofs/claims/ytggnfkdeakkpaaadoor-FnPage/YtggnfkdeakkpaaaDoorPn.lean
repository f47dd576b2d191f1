/-
  The new page: the walks of NewPage.
-/
import Derived.Test.YtggnfkdeakkpaaaDoorPg
namespace Go.Proofs.YtggnfkdeakkpaaaDoor
open Go Go.RowKit
attribute [local go_sem ↓] Go.wp_at_zero Go.wp_at_succ

def newG : DG := ⟨0, [⟨#[]⟩, ⟨#[]⟩, ⟨#[]⟩, ⟨#[]⟩]⟩
theorem new_fit : FitG newG := ⟨by simp [newG], fun s h => by simp [newG] at h; subst h; simp [ByteArray.size]⟩
theorem own_new {w1 : World} {B : Nat} {c : Nat} (h : w1.ownsRow B 9 1 (.slice (some ⟨B, 0, none⟩) 4 c) 4 (madeCells (Value.string ⟨#[]⟩).cells (4 * 1)).toList) : OwnG w1 B w1.heap.size ⟨0, some ⟨B, 0, none⟩, 4, c⟩ newG := by
  refine ⟨rfl, ?_, Nat.le_refl _, fun g e => h.lt g (by rw [ob_slice]; exact e)⟩
  have e : (madeCells (Value.string ⟨#[]⟩).cells (4 * 1)).toList = newG.S.map Value.string := by rw [show (Value.string ⟨#[]⟩).cells = #[Value.string ⟨#[]⟩] from rfl, toList_madeCells_one]; rfl
  rw [← e]
  exact h

set_option maxRecDepth 100000 in
set_option maxHeartbeats 2000000 in
theorem c_specNew (w : World) : Calls Tryd.prog 18 #[] w fun e w' => (∃ h' : HG, e = .returned (.agg #[.int .i64 h'.l, .slice h'.a h'.n h'.c]) ∧ OwnG w' w.heap.size w'.heap.size h' newG) ∧ Below w.heap.size w w' := by
  obtain ⟨i0, hi, hz0, hz1, hz2⟩ := info_parts infoS
  obtain ⟨V, hV⟩ : ∃ V, w.alloc (.cells #[.int .i64 0, .slice none 0 0] 25) = V := ⟨_, rfl⟩
  have HB : Hid (Below w.heap.size w V) := by unfold Hid; rw [← hV]; exact (Below.refl _ _).alloc (Nat.le_refl _) _
  have BR : Hid (Box V w.heap.size 25 #[.int .i64 0, .slice none 0 0]) := by unfold Hid; rw [← hV]; exact Box.new _ _ _
  have l0 := BR.out.lt
  go_enter Tryd.func18, Tryd.ntmps18
  go_wp2_with (at_make; refine wpList_make_full _ rfl (.const (.int .i64 4)) (.const (.int .i64 4)) 23 rfl V.heap.size 9 i0 (Value.string ⟨#[]⟩) 1 Tryd.underlying23 hi hz0 hz1 .i64 .i64 _ _ 4 rfl rfl rfl rfl (by rw [hz2]; omega) (by unfold maxLen; omega) (Nat.le_refl _) ?_; intro w1 hown hgrow; have hb : Below V.heap.size V w1 := (Below.refl _ _).grown hgrow (Nat.le_refl _) (fun k h => by cases h); have O1 : Hid (OwnG w1 V.heap.size w1.heap.size ⟨0, some ⟨V.heap.size, 0, none⟩, 4, 4⟩ newG) := own_new hown; have B1 : Hid (Below w.heap.size w w1) := HB.out.trans (hb.mono HB.out.size); have BR1 : Hid (Box w1 w.heap.size 25 #[.int .i64 0, .slice none 0 0]) := BR.out.belowS hb; obtain ⟨u0, u1⟩ := box2 BR1.out; have t0 := BR1.out.thaw 0; have t1 := BR1.out.thaw 1; clear hown hgrow hb HB BR hV)
  refine retG1 Tryd.results18 rfl rfl (put2_box BR1.out _ _) ⟨⟨⟨0, some ⟨V.heap.size, 0, none⟩, 4, 4⟩, rfl, ?_⟩, put2_below B1.out (Nat.le_refl _) _ _⟩
  have := O1.out.put2 (r := w.heap.size) (.inl (by omega)) (.int .i64 0) (.slice (some ⟨V.heap.size, 0, none⟩) 4 4)
  exact this.wide (B' := w.heap.size) (by omega)

set_option maxRecDepth 100000 in
set_option maxHeartbeats 2000000 in
theorem c_implNew (w : World) : Calls Tryd.prog 17 #[] w fun e w' => (∃ h' : HG, e = .returned (.agg #[.int .i64 h'.l, .slice h'.a h'.n h'.c]) ∧ OwnG w' w.heap.size w'.heap.size h' newG) ∧ Below w.heap.size w w' := by
  obtain ⟨i0, hi, hz0, hz1, hz2⟩ := info_parts infoS
  obtain ⟨V, hV⟩ : ∃ V, w.alloc (.cells #[.int .i64 0, .slice none 0 0] 25) = V := ⟨_, rfl⟩
  have HB : Hid (Below w.heap.size w V) := by unfold Hid; rw [← hV]; exact (Below.refl _ _).alloc (Nat.le_refl _) _
  have BR : Hid (Box V w.heap.size 25 #[.int .i64 0, .slice none 0 0]) := by unfold Hid; rw [← hV]; exact Box.new _ _ _
  have l0 := BR.out.lt
  go_enter Tryd.func17, Tryd.ntmps17
  go_wp2_with (at_make; refine wpList_make_full _ rfl (.const (.int .i64 4)) (.const (.int .i64 4)) 23 rfl V.heap.size 9 i0 (Value.string ⟨#[]⟩) 1 Tryd.underlying23 hi hz0 hz1 .i64 .i64 _ _ 4 rfl rfl rfl rfl (by rw [hz2]; omega) (by unfold maxLen; omega) (Nat.le_refl _) ?_; intro w1 hown hgrow; have hb : Below V.heap.size V w1 := (Below.refl _ _).grown hgrow (Nat.le_refl _) (fun k h => by cases h); have O1 : Hid (OwnG w1 V.heap.size w1.heap.size ⟨0, some ⟨V.heap.size, 0, none⟩, 4, 4⟩ newG) := own_new hown; have B1 : Hid (Below w.heap.size w w1) := HB.out.trans (hb.mono HB.out.size); have BR1 : Hid (Box w1 w.heap.size 25 #[.int .i64 0, .slice none 0 0]) := BR.out.belowS hb; obtain ⟨u0, u1⟩ := box2 BR1.out; have t0 := BR1.out.thaw 0; have t1 := BR1.out.thaw 1; clear hown hgrow hb HB BR hV)
  refine retG1 Tryd.results17 rfl rfl (put2_box BR1.out _ _) ⟨⟨⟨0, some ⟨V.heap.size, 0, none⟩, 4, 4⟩, rfl, ?_⟩, put2_below B1.out (Nat.le_refl _) _ _⟩
  have := O1.out.put2 (r := w.heap.size) (.inl (by omega)) (.int .i64 0) (.slice (some ⟨V.heap.size, 0, none⟩) 4 4)
  exact this.wide (B' := w.heap.size) (by omega)

end Go.Proofs.YtggnfkdeakkpaaaDoor
