/-
  The new page: the walks of NewPage, and of its law.
-/
import Derived.Test.YtaemdndkajomcaaPg
namespace Go.Proofs.Ytaemdndkajomcaa
open Go Go.RowKit
attribute [local go_sem ↓] Go.wp_at_zero Go.wp_at_succ

def newG : DG := ⟨0, [⟨#[]⟩, ⟨#[]⟩, ⟨#[]⟩, ⟨#[]⟩]⟩
theorem new_fit : FitG newG := ⟨by simp [newG], fun s h => by simp [newG] at h; subst h; simp [ByteArray.size]⟩
theorem own_new {w1 : World} {B : Nat} {c : Nat} (h : w1.ownsRow B 9 1 (.slice (some ⟨B, 0, none⟩) 4 c) 4 (madeCells (Value.string ⟨#[]⟩).cells (4 * 1)).toList) : OwnG w1 B w1.heap.size ⟨0, some ⟨B, 0, none⟩, 4, c⟩ newG := by
  refine ⟨rfl, ?_, Nat.le_refl _, fun g e => h.lt g (by rw [ob_slice]; exact e)⟩
  have e : (madeCells (Value.string ⟨#[]⟩).cells (4 * 1)).toList = newG.S.map Value.string := by rw [show (Value.string ⟨#[]⟩).cells = #[Value.string ⟨#[]⟩] from rfl, toList_madeCells_one]; rfl
  rw [← e]
  exact h

set_option maxRecDepth 100000 in
set_option maxHeartbeats 2000000 in
theorem c_specNew (w : World) : Calls Try.prog 30 #[] w fun e w' => (∃ h' : HG, e = .returned (.agg #[.int .i64 h'.l, .slice h'.a h'.n h'.c]) ∧ OwnG w' w.heap.size w'.heap.size h' newG) ∧ Below w.heap.size w w' := by
  obtain ⟨i0, hi, hz0, hz1, hz2⟩ := info_parts infoS
  obtain ⟨V, hV⟩ : ∃ V, w.alloc (.cells #[.int .i64 0, .slice none 0 0] 45) = V := ⟨_, rfl⟩
  have HB : Hid (Below w.heap.size w V) := by unfold Hid; rw [← hV]; exact (Below.refl _ _).alloc (Nat.le_refl _) _
  have BR : Hid (Box V w.heap.size 45 #[.int .i64 0, .slice none 0 0]) := by unfold Hid; rw [← hV]; exact Box.new _ _ _
  have l0 := BR.out.lt
  go_enter Try.func30, Try.ntmps30
  go_wp2_with (at_make; refine wpList_make_full _ rfl (.const (.int .i64 4)) (.const (.int .i64 4)) 23 rfl V.heap.size 9 i0 (Value.string ⟨#[]⟩) 1 Try.underlying23 hi hz0 hz1 .i64 .i64 _ _ 4 rfl rfl rfl rfl (by rw [hz2]; omega) (by unfold maxLen; omega) (Nat.le_refl _) ?_; intro w1 hown hgrow; have hb : Below V.heap.size V w1 := (Below.refl _ _).grown hgrow (Nat.le_refl _) (fun k h => by cases h); have O1 : Hid (OwnG w1 V.heap.size w1.heap.size ⟨0, some ⟨V.heap.size, 0, none⟩, 4, 4⟩ newG) := own_new hown; have B1 : Hid (Below w.heap.size w w1) := HB.out.trans (hb.mono HB.out.size); have BR1 : Hid (Box w1 w.heap.size 45 #[.int .i64 0, .slice none 0 0]) := BR.out.belowS hb; obtain ⟨u0, u1⟩ := box2 BR1.out; have t0 := BR1.out.thaw 0; have t1 := BR1.out.thaw 1; clear hown hgrow hb HB BR hV)
  refine retG1 Try.results30 rfl rfl (put2_box BR1.out _ _) ⟨⟨⟨0, some ⟨V.heap.size, 0, none⟩, 4, 4⟩, rfl, ?_⟩, put2_below B1.out (Nat.le_refl _) _ _⟩
  have := O1.out.put2 (r := w.heap.size) (.inl (by omega)) (.int .i64 0) (.slice (some ⟨V.heap.size, 0, none⟩) 4 4)
  exact this.wide (B' := w.heap.size) (by omega)

set_option maxRecDepth 100000 in
set_option maxHeartbeats 2000000 in
theorem c_implNew (w : World) : Calls Try.prog 31 #[] w fun e w' => (∃ h' : HG, e = .returned (.agg #[.int .i64 h'.l, .slice h'.a h'.n h'.c]) ∧ OwnG w' w.heap.size w'.heap.size h' newG) ∧ Below w.heap.size w w' := by
  obtain ⟨i0, hi, hz0, hz1, hz2⟩ := info_parts infoS
  obtain ⟨V, hV⟩ : ∃ V, w.alloc (.cells #[.int .i64 0, .slice none 0 0] 45) = V := ⟨_, rfl⟩
  have HB : Hid (Below w.heap.size w V) := by unfold Hid; rw [← hV]; exact (Below.refl _ _).alloc (Nat.le_refl _) _
  have BR : Hid (Box V w.heap.size 45 #[.int .i64 0, .slice none 0 0]) := by unfold Hid; rw [← hV]; exact Box.new _ _ _
  have l0 := BR.out.lt
  go_enter Try.func31, Try.ntmps31
  go_wp2_with (at_make; refine wpList_make_full _ rfl (.const (.int .i64 4)) (.const (.int .i64 4)) 23 rfl V.heap.size 9 i0 (Value.string ⟨#[]⟩) 1 Try.underlying23 hi hz0 hz1 .i64 .i64 _ _ 4 rfl rfl rfl rfl (by rw [hz2]; omega) (by unfold maxLen; omega) (Nat.le_refl _) ?_; intro w1 hown hgrow; have hb : Below V.heap.size V w1 := (Below.refl _ _).grown hgrow (Nat.le_refl _) (fun k h => by cases h); have O1 : Hid (OwnG w1 V.heap.size w1.heap.size ⟨0, some ⟨V.heap.size, 0, none⟩, 4, 4⟩ newG) := own_new hown; have B1 : Hid (Below w.heap.size w w1) := HB.out.trans (hb.mono HB.out.size); have BR1 : Hid (Box w1 w.heap.size 45 #[.int .i64 0, .slice none 0 0]) := BR.out.belowS hb; obtain ⟨u0, u1⟩ := box2 BR1.out; have t0 := BR1.out.thaw 0; have t1 := BR1.out.thaw 1; clear hown hgrow hb HB BR hV)
  refine retG1 Try.results31 rfl rfl (put2_box BR1.out _ _) ⟨⟨⟨0, some ⟨V.heap.size, 0, none⟩, 4, 4⟩, rfl, ?_⟩, put2_below B1.out (Nat.le_refl _) _ _⟩
  have := O1.out.put2 (r := w.heap.size) (.inl (by omega)) (.int .i64 0) (.slice (some ⟨V.heap.size, 0, none⟩) 4 4)
  exact this.wide (B' := w.heap.size) (by omega)

set_option maxHeartbeats 4000000 in
theorem law_FnExactNewPage (w : World) : Calls Try.prog 6 #[] w fun e w' => e = .returned (.bool true) ∧ Below w.heap.size w w' := by
  have FR : Hid (FitG newG) := new_fit
  have B0 : Hid (Below w.heap.size w w) := Below.refl _ _
  go_enter Try.func6, Try.ntmps6
  go_wp2_with fail
  refine (c_specNew w).mono ?_
  rintro e w1 ⟨⟨hw, rfl, ow⟩, hb⟩
  have OW1 : Hid (OwnG w1 w.heap.size w1.heap.size hw newG) := ow
  clear ow
  have B1 : Hid (Below w.heap.size w w1) := B0.out.trans (hb.mono B0.out.size)
  have q01 : w.heap.size ≤ w1.heap.size := hb.size
  clear B0 hb 
  obtain ⟨w2, hw2⟩ : ∃ W, w1.alloc (.cells #[.int .i64 hw.l, .slice hw.a hw.n hw.c] 45) = W := ⟨_, rfl⟩
  have hb : Below w1.heap.size w1 w2 := by rw [← hw2]; exact (Below.refl _ _).alloc (Nat.le_refl _) _
  have YW2 : Hid (Box w2 w1.heap.size 45 #[.int .i64 hw.l, .slice hw.a hw.n hw.c]) := by have := Box.new w1 #[.int .i64 hw.l, .slice hw.a hw.n hw.c] 45; rwa [hw2] at this
  have B2 : Hid (Below w.heap.size w w2) := B1.out.trans (hb.mono B1.out.size)
  have OW2 : Hid (OwnG w2 w.heap.size w1.heap.size hw newG) := OW1.out.below hb
  have q12 : w1.heap.size ≤ w2.heap.size := hb.size
  clear B1 OW1 hb 
  have p2 : w1.heap.size < w2.heap.size := YW2.out.lt
  go_wp2_with fail
  refine (c_implNew w2).mono ?_
  rintro e w3 ⟨⟨hg, rfl, ow⟩, hb⟩
  have OG3 : Hid (OwnG w3 w2.heap.size w3.heap.size hg newG) := ow
  clear ow
  have B3 : Hid (Below w.heap.size w w3) := B2.out.trans (hb.mono B2.out.size)
  have OW3 : Hid (OwnG w3 w.heap.size w1.heap.size hw newG) := OW2.out.below hb
  have YW3 : Hid (Box w3 w1.heap.size 45 #[.int .i64 hw.l, .slice hw.a hw.n hw.c]) := YW2.out.belowS hb
  have q23 : w2.heap.size ≤ w3.heap.size := hb.size
  clear B2 OW2 YW2 hb 
  obtain ⟨w4, hw4⟩ : ∃ W, w3.alloc (.cells #[.int .i64 hg.l, .slice hg.a hg.n hg.c] 45) = W := ⟨_, rfl⟩
  have hb : Below w3.heap.size w3 w4 := by rw [← hw4]; exact (Below.refl _ _).alloc (Nat.le_refl _) _
  have YG4 : Hid (Box w4 w3.heap.size 45 #[.int .i64 hg.l, .slice hg.a hg.n hg.c]) := by have := Box.new w3 #[.int .i64 hg.l, .slice hg.a hg.n hg.c] 45; rwa [hw4] at this
  have B4 : Hid (Below w.heap.size w w4) := B3.out.trans (hb.mono B3.out.size)
  have OW4 : Hid (OwnG w4 w.heap.size w1.heap.size hw newG) := OW3.out.below hb
  have YW4 : Hid (Box w4 w1.heap.size 45 #[.int .i64 hw.l, .slice hw.a hw.n hw.c]) := YW3.out.belowS hb
  have OG4 : Hid (OwnG w4 w2.heap.size w3.heap.size hg newG) := OG3.out.below hb
  have q34 : w3.heap.size ≤ w4.heap.size := hb.size
  clear B3 OW3 YW3 OG3 hb 
  have p4 : w3.heap.size < w4.heap.size := YG4.out.lt
  obtain ⟨v0, v1⟩ := box2 YG4.out
  obtain ⟨u0, u1⟩ := box2 YW4.out
  go_wp2_with fail
  refine (c_eqPage hg hw newG w4 OG4.out.rd OW4.out.rd FR.out).mono ?_
  rintro e w5 ⟨rfl, hb⟩
  have B5 : Hid (Below w.heap.size w w5) := B4.out.trans (hb.mono B4.out.size)
  have OW5 : Hid (OwnG w5 w.heap.size w1.heap.size hw newG) := OW4.out.below hb
  have YW5 : Hid (Box w5 w1.heap.size 45 #[.int .i64 hw.l, .slice hw.a hw.n hw.c]) := YW4.out.belowS hb
  have OG5 : Hid (OwnG w5 w2.heap.size w3.heap.size hg newG) := OG4.out.below hb
  have YG5 : Hid (Box w5 w3.heap.size 45 #[.int .i64 hg.l, .slice hg.a hg.n hg.c]) := YG4.out.belowS hb
  have q45 : w4.heap.size ≤ w5.heap.size := hb.size
  clear B4 OW4 YW4 OG4 YG4 hb v0 v1 u0 u1
  have ng0 := OG5.out.rd.len
  have fr0 := FR.out.1
  obtain ⟨v0, v1⟩ := box2 YG5.out
  go_wp2_with fail
  refine (c_markPage hg newG w2.heap.size w3.heap.size w5 OG5.out (by omega)).mono ?_
  rintro e w6 ⟨rfl, om, hi⟩
  have OM6 : Hid (OwnG w6 w2.heap.size w3.heap.size hg (markG hg)) := om
  clear om v0 v1
  have B6 : Hid (Below w.heap.size w w6) := B5.out.trans (hi.below (by omega) (by omega))
  have OW6 : Hid (OwnG w6 w.heap.size w1.heap.size hw newG) := OW5.out.inn hi (by omega)
  have YW6 : Hid (Box w6 w1.heap.size 45 #[.int .i64 hw.l, .slice hw.a hw.n hw.c]) := YW5.out.innO hi (by omega)
  have YG6 : Hid (Box w6 w3.heap.size 45 #[.int .i64 hg.l, .slice hg.a hg.n hg.c]) := YG5.out.innO hi (by omega)
  have q56 : w5.heap.size ≤ w6.heap.size := hi.size
  clear hi B5 OW5 YW5 YG5 OG5
  have hmm : (((1 + hg.n : Nat) : Int) != ((1 + hg.n : Nat) : Int)) = false := by simp
  obtain ⟨v0, v1⟩ := box2 YG6.out
  go_wp2_with fail
  refine (c_heldPage hg w6 OM6.out.rd (by omega)).mono ?_
  rintro e w7 ⟨rfl, hb⟩
  have B7 : Hid (Below w.heap.size w w7) := B6.out.trans (hb.mono B6.out.size)
  have OW7 : Hid (OwnG w7 w.heap.size w1.heap.size hw newG) := OW6.out.below hb
  have YW7 : Hid (Box w7 w1.heap.size 45 #[.int .i64 hw.l, .slice hw.a hw.n hw.c]) := YW6.out.belowS hb
  have YG7 : Hid (Box w7 w3.heap.size 45 #[.int .i64 hg.l, .slice hg.a hg.n hg.c]) := YG6.out.belowS hb
  have OM7 : Hid (OwnG w7 w2.heap.size w3.heap.size hg (markG hg)) := OM6.out.below hb
  have q67 : w6.heap.size ≤ w7.heap.size := hb.size
  clear B6 OW6 YW6 YG6 OM6 hb v0 v1
  go_wp2_with fail
  refine (c_implNew w7).mono ?_
  rintro e w8 ⟨⟨hz, rfl, ow⟩, hb⟩
  have OZ8 : Hid (OwnG w8 w7.heap.size w8.heap.size hz newG) := ow
  clear ow
  have B8 : Hid (Below w.heap.size w w8) := B7.out.trans (hb.mono B7.out.size)
  have OW8 : Hid (OwnG w8 w.heap.size w1.heap.size hw newG) := OW7.out.below hb
  have YW8 : Hid (Box w8 w1.heap.size 45 #[.int .i64 hw.l, .slice hw.a hw.n hw.c]) := YW7.out.belowS hb
  have YG8 : Hid (Box w8 w3.heap.size 45 #[.int .i64 hg.l, .slice hg.a hg.n hg.c]) := YG7.out.belowS hb
  have OM8 : Hid (OwnG w8 w2.heap.size w3.heap.size hg (markG hg)) := OM7.out.below hb
  have q78 : w7.heap.size ≤ w8.heap.size := hb.size
  clear B7 OW7 YW7 YG7 OM7 hb 
  obtain ⟨w9, hw9⟩ : ∃ W, w8.alloc (.cells #[.int .i64 hz.l, .slice hz.a hz.n hz.c] 45) = W := ⟨_, rfl⟩
  have hb : Below w8.heap.size w8 w9 := by rw [← hw9]; exact (Below.refl _ _).alloc (Nat.le_refl _) _
  have YZ9 : Hid (Box w9 w8.heap.size 45 #[.int .i64 hz.l, .slice hz.a hz.n hz.c]) := by have := Box.new w8 #[.int .i64 hz.l, .slice hz.a hz.n hz.c] 45; rwa [hw9] at this
  have B9 : Hid (Below w.heap.size w w9) := B8.out.trans (hb.mono B8.out.size)
  have OW9 : Hid (OwnG w9 w.heap.size w1.heap.size hw newG) := OW8.out.below hb
  have YW9 : Hid (Box w9 w1.heap.size 45 #[.int .i64 hw.l, .slice hw.a hw.n hw.c]) := YW8.out.belowS hb
  have YG9 : Hid (Box w9 w3.heap.size 45 #[.int .i64 hg.l, .slice hg.a hg.n hg.c]) := YG8.out.belowS hb
  have OM9 : Hid (OwnG w9 w2.heap.size w3.heap.size hg (markG hg)) := OM8.out.below hb
  have OZ9 : Hid (OwnG w9 w7.heap.size w8.heap.size hz newG) := OZ8.out.below hb
  have q89 : w8.heap.size ≤ w9.heap.size := hb.size
  clear B8 OW8 YW8 YG8 OM8 OZ8 hb 
  have p9 : w8.heap.size < w9.heap.size := YZ9.out.lt
  obtain ⟨v0, v1⟩ := box2 YZ9.out
  obtain ⟨u0, u1⟩ := box2 YW9.out
  go_wp2_with fail
  refine (c_eqPage hz hw newG w9 OZ9.out.rd OW9.out.rd FR.out).mono ?_
  rintro e w10 ⟨rfl, hb⟩
  have B10 : Hid (Below w.heap.size w w10) := B9.out.trans (hb.mono B9.out.size)
  have OW10 : Hid (OwnG w10 w.heap.size w1.heap.size hw newG) := OW9.out.below hb
  have YW10 : Hid (Box w10 w1.heap.size 45 #[.int .i64 hw.l, .slice hw.a hw.n hw.c]) := YW9.out.belowS hb
  have YG10 : Hid (Box w10 w3.heap.size 45 #[.int .i64 hg.l, .slice hg.a hg.n hg.c]) := YG9.out.belowS hb
  have OM10 : Hid (OwnG w10 w2.heap.size w3.heap.size hg (markG hg)) := OM9.out.below hb
  have OZ10 : Hid (OwnG w10 w7.heap.size w8.heap.size hz newG) := OZ9.out.below hb
  have YZ10 : Hid (Box w10 w8.heap.size 45 #[.int .i64 hz.l, .slice hz.a hz.n hz.c]) := YZ9.out.belowS hb
  have q910 : w9.heap.size ≤ w10.heap.size := hb.size
  clear B9 OW9 YW9 YG9 OM9 OZ9 YZ9 hb v0 v1 u0 u1
  obtain ⟨v0, v1⟩ := box2 YG10.out
  go_wp2_with fail
  refine (c_heldPage hg w10 OM10.out.rd (by omega)).mono ?_
  rintro e w11 ⟨rfl, hb⟩
  have B11 : Hid (Below w.heap.size w w11) := B10.out.trans (hb.mono B10.out.size)
  have OW11 : Hid (OwnG w11 w.heap.size w1.heap.size hw newG) := OW10.out.below hb
  have YW11 : Hid (Box w11 w1.heap.size 45 #[.int .i64 hw.l, .slice hw.a hw.n hw.c]) := YW10.out.belowS hb
  have YG11 : Hid (Box w11 w3.heap.size 45 #[.int .i64 hg.l, .slice hg.a hg.n hg.c]) := YG10.out.belowS hb
  have OM11 : Hid (OwnG w11 w2.heap.size w3.heap.size hg (markG hg)) := OM10.out.below hb
  have OZ11 : Hid (OwnG w11 w7.heap.size w8.heap.size hz newG) := OZ10.out.below hb
  have YZ11 : Hid (Box w11 w8.heap.size 45 #[.int .i64 hz.l, .slice hz.a hz.n hz.c]) := YZ10.out.belowS hb
  have q1011 : w10.heap.size ≤ w11.heap.size := hb.size
  clear B10 OW10 YW10 YG10 OM10 OZ10 YZ10 hb v0 v1
  go_wp2
  go_ret
  exact ⟨rfl, B11.out⟩
end Go.Proofs.Ytaemdndkajomcaa
