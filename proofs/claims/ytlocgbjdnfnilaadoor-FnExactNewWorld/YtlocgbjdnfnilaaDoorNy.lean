/-
  NewStore: the program's walk.
-/
import Derived.Test.YtlocgbjdnfnilaaDoorNw
namespace Go.Proofs.YtlocgbjdnfnilaaDoor
open Go Go.RowKit
attribute [local go_sem ↓] Go.wp_at_zero Go.wp_at_succ

set_option maxRecDepth 100000 in
set_option maxHeartbeats 4000000 in
theorem c_implNS (w : World) (ht : TabH w) :
    Calls Tryd.prog 22 #[] w fun e w' => (∃ h : HS, e = .returned (.agg #[.slice h.a0 69 h.c0, .slice h.a1 0 h.c1, .bool false, .slice h.a2 0 h.c2, .int .i64 1, .slice h.a3 0 h.c3, .int .i64 0, .slice h.a4 0 h.c4, .int .i64 0]) ∧ w'.ownsRow w.heap.size 9 1 (.slice h.a0 69 h.c0) 69 (S0.map Value.string) ∧ ∀ g, ob h.a0 = some g → g < w'.heap.size) ∧ Below w.heap.size w w' := by
  have HT : Hid (TabH w) := ht
  clear ht
  obtain ⟨i0, hi, hz0, hz1, hz2⟩ := info_parts infoS
  obtain ⟨V, hV⟩ : ∃ V, w.alloc (.cells #[.slice none 0 0, .slice none 0 0, .bool false, .slice none 0 0, .int .i64 0, .slice none 0 0, .int .i64 0, .slice none 0 0, .int .i64 0] 30) = V := ⟨_, rfl⟩
  have HB : Hid (Below w.heap.size w V) := by unfold Hid; rw [← hV]; exact (Below.refl _ _).alloc (Nat.le_refl _) _
  have BR : Hid (Box V w.heap.size 30 #[.slice none 0 0, .slice none 0 0, .bool false, .slice none 0 0, .int .i64 0, .slice none 0 0, .int .i64 0, .slice none 0 0, .int .i64 0]) := by unfold Hid; rw [← hV]; exact Box.new _ _ _
  have lV := BR.out.lt
  go_enter Tryd.func22, Tryd.ntmps22
  go_wp2_with (at_make; refine wpList_make_full _ rfl (.const (.int .i64 69)) (.const (.int .i64 69)) 22 rfl w.heap.size 9 i0 (Value.string ⟨#[]⟩) 1 Tryd.underlying22 hi hz0 hz1 .i64 .i64 _ _ 69 rfl rfl rfl rfl (by rw [hz2]; omega) (by unfold maxLen; omega) HB.out.size ?_
               intro w1 hown hgrow
               rw [made69] at hown
               have hb1 : Below w.heap.size w w1 := HB.out.grown hgrow HB.out.size (fun k h => by cases h)
               have br1 := BR.out.grown hgrow (by simp)
               have lg := hown.lt V.heap.size rfl
               obtain ⟨Wa, hWa⟩ : ∃ W, w1.alloc (.cells #[.slice none 0 0, .slice none 0 0, .bool false, .slice none 0 0, .int .i64 0, .slice none 0 0, .int .i64 0, .slice none 0 0, .int .i64 0] 30) = W := ⟨_, rfl⟩
               have hba : Below w1.heap.size w1 Wa := by rw [← hWa]; exact (Below.refl _ _).alloc (Nat.le_refl _) _
               have ba : Box Wa w1.heap.size 30 #[.slice none 0 0, .slice none 0 0, .bool false, .slice none 0 0, .int .i64 0, .slice none 0 0, .int .i64 0, .slice none 0 0, .int .i64 0] := by rw [← hWa]; exact Box.new _ _ _
               obtain ⟨y0, y1, y2, y3, y4, y5, y6, y7, y8⟩ := box9 ba
               have z0 := ba.thaw 0
               have z1 := ba.thaw 1
               have z2 := ba.thaw 2
               have z3 := ba.thaw 3
               have z4 := ba.thaw 4
               have z5 := ba.thaw 5
               have z6 := ba.thaw 6
               have z7 := ba.thaw 7
               have z8 := ba.thaw 8
               obtain ⟨W2, hP2⟩ : ∃ W, put9 Wa w1.heap.size (.slice (some ⟨V.heap.size, 0, none⟩) 69 69) (.slice none 0 0) (.bool false) (.slice none 0 0) (.int .i64 1) (.slice none 0 0) (.int .i64 0) (.slice none 0 0) (.int .i64 0) = W := ⟨_, rfl⟩
               have hW2 := hP2
               unfold put9 at hW2
               have hb12 : Below w1.heap.size w1 W2 := by rw [← hP2]; exact put9_below hba (Nat.le_refl _) _ _ _ _ _ _ _ _ _
               have B2 : Hid (Below w.heap.size w W2) := hb1.trans (hb12.mono hb1.size)
               have BR2 : Hid (Box W2 w.heap.size 30 #[.slice none 0 0, .slice none 0 0, .bool false, .slice none 0 0, .int .i64 0, .slice none 0 0, .int .i64 0, .slice none 0 0, .int .i64 0]) := br1.belowS hb12
               have BS2 : Hid (Box W2 w1.heap.size 30 #[.slice (some ⟨V.heap.size, 0, none⟩) 69 69, .slice none 0 0, .bool false, .slice none 0 0, .int .i64 1, .slice none 0 0, .int .i64 0, .slice none 0 0, .int .i64 0]) := by unfold Hid; rw [← hP2]; exact put9_box ba _ _ _ _ _ _ _ _ _
               have O2 : Hid (W2.ownsRow w.heap.size 9 1 (.slice (some ⟨V.heap.size, 0, none⟩) 69 69) 69 (Z69.map Value.string)) := by unfold Hid; rw [← hP2]; exact own_same (by rw [← hWa]; exact hown.alloc _) (fun k e => put9_same _ _ _ _ _ _ _ _ _ _ _ (by have e' : V.heap.size = k := Option.some.inj e; omega))
               have lg2 := O2.out.lt V.heap.size rfl
               have l2 := BS2.out.lt
               obtain ⟨v0, v1, v2, v3, v4, v5, v6, v7, v8⟩ := box9 BS2.out
               clear hown hgrow hb1 br1 hb12 hba ba hP2)
  refine (c_implHB 1 W2 (HT.out.below B2.out)).mono ?_
  rintro e w3 ⟨⟨ha, hc, rfl, o3⟩, hb⟩
  have cv := conv8 (cap := hc) (RdV.own o3)
  have own3 : w3.ownsRow w.heap.size 9 1 (.slice (some ⟨V.heap.size, 0, none⟩) 69 69) 69 (Z69.map Value.string) := own_same O2.out (fun k e => hb.block k (by have e' : V.heap.size = k := Option.some.inj e; omega))
  obtain ⟨old, hold⟩ : ∃ old, w3.cell? ⟨V.heap.size, 0, none⟩ = some old := by
    rw [own3.cellAt 0 (by omega)]; exact ⟨_, rfl⟩
  have hfz := own3.frozenAt 0
  have x3 := BS2.out.belowS hb
  have r3 := BR2.out.belowS hb
  have l3 := hb.size
  obtain ⟨w4, hw4⟩ : ∃ W, w3.setCell ⟨V.heap.size, 0, none⟩ (.string (strOfNums (hbR 1))) = W := ⟨_, rfl⟩
  have x4 : Box w4 w1.heap.size 30 #[.slice (some ⟨V.heap.size, 0, none⟩) 69 69, .slice none 0 0, .bool false, .slice none 0 0, .int .i64 1, .slice none 0 0, .int .i64 0, .slice none 0 0, .int .i64 0] := by rw [← hw4]; exact x3.setOther _ _ (by show w1.heap.size ≠ V.heap.size; omega)
  have BR4 : Hid (Box w4 w.heap.size 30 #[.slice none 0 0, .slice none 0 0, .bool false, .slice none 0 0, .int .i64 0, .slice none 0 0, .int .i64 0, .slice none 0 0, .int .i64 0]) := by unfold Hid; rw [← hw4]; exact r3.setOther _ _ (by show w.heap.size ≠ V.heap.size; omega)
  have B4 : Hid (Below w.heap.size w w4) := by unfold Hid; rw [← hw4]; exact (B2.out.trans (hb.mono B2.out.size)).setCell lg2.1 _
  have O4 : Hid (w4.ownsRow w.heap.size 9 1 (.slice (some ⟨V.heap.size, 0, none⟩) 69 69) 69 (S0.map Value.string)) := by
    unfold Hid
    have := (own3.stored 0 (.string (strOfNums (hbR 1)))).1
    rwa [z69_set, hw4] at this
  have s4 : w4.heap.size = w3.heap.size := by rw [← hw4]; simp
  clear v0 v1 v2 v3 v4 v5 v6 v7 v8 y0 y1 y2 y3 y4 y5 y6 y7 y8 z0 z1 z2 z3 z4 z5 z6 z7 z8 hb o3 own3 BR2 BS2 O2 B2 r3
  obtain ⟨v0, v1, v2, v3, v4, v5, v6, v7, v8⟩ := box9 x3
  obtain ⟨u0, u1, u2, u3, u4, u5, u6, u7, u8⟩ := box9 x4
  obtain ⟨y0, y1, y2, y3, y4, y5, y6, y7, y8⟩ := box9 BR4.out
  have z0 := BR4.out.thaw 0
  have z1 := BR4.out.thaw 1
  have z2 := BR4.out.thaw 2
  have z3 := BR4.out.thaw 3
  have z4 := BR4.out.thaw 4
  have z5 := BR4.out.thaw 5
  have z6 := BR4.out.thaw 6
  have z7 := BR4.out.thaw 7
  have z8 := BR4.out.thaw 8
  clear x3 x4
  go_wp2
  refine retS Tryd.results22 rfl rfl (put9_box BR4.out _ _ _ _ _ _ _ _ _) ⟨⟨⟨some ⟨V.heap.size, 0, none⟩, 69, none, 0, none, 0, none, 0, none, 0⟩, rfl, ?_, ?_⟩, put9_below B4.out (Nat.le_refl _) _ _ _ _ _ _ _ _ _⟩
  · exact own_same O4.out (fun k e => put9_same _ _ _ _ _ _ _ _ _ _ _ (by have e' : V.heap.size = k := Option.some.inj e; omega))
  · intro k e
    have e' : V.heap.size = k := Option.some.inj e
    exact Nat.lt_of_lt_of_eq (show k < w4.heap.size by omega) (put9_size _ _ _ _ _ _ _ _ _ _ _).symm

end Go.Proofs.YtlocgbjdnfnilaaDoor
