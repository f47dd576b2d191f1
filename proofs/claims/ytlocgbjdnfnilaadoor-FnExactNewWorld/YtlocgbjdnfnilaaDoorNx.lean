/-
  NewStore: the specification's walk.
-/
import Derived.Test.YtlocgbjdnfnilaaDoorNw
import Derived.Deep.RegionWith
import Derived.Deep.DeepCutAuto
namespace Go.Proofs.YtlocgbjdnfnilaaDoor
open Go Go.RowKit
attribute [local go_sem ↓] Go.wp_at_zero Go.wp_at_succ

set_option maxRecDepth 100000 in
set_option maxHeartbeats 4000000 in
theorem c_specNS (w : World) :
    Calls Tryd.prog 21 #[] w fun e w' => (∃ h : HS, e = .returned (.agg #[.slice h.a0 69 h.c0, .slice h.a1 0 h.c1, .bool false, .slice h.a2 0 h.c2, .int .i64 1, .slice h.a3 0 h.c3, .int .i64 0, .slice h.a4 0 h.c4, .int .i64 0]) ∧ w'.ownsRow w.heap.size 9 1 (.slice h.a0 69 h.c0) 69 (S0.map Value.string) ∧ ∀ g, ob h.a0 = some g → g < w'.heap.size) ∧ Below w.heap.size w w' := by
  obtain ⟨V, hV⟩ : ∃ V, w.alloc (.cells #[.slice none 0 0, .slice none 0 0, .bool false, .slice none 0 0, .int .i64 0, .slice none 0 0, .int .i64 0, .slice none 0 0, .int .i64 0] 30) = V := ⟨_, rfl⟩
  have HB : Hid (Below w.heap.size w V) := by unfold Hid; rw [← hV]; exact (Below.refl _ _).alloc (Nat.le_refl _) _
  have BR : Hid (Box V w.heap.size 30 #[.slice none 0 0, .slice none 0 0, .bool false, .slice none 0 0, .int .i64 0, .slice none 0 0, .int .i64 0, .slice none 0 0, .int .i64 0]) := by unfold Hid; rw [← hV]; exact Box.new _ _ _
  have lV := BR.out.lt
  go_enter Tryd.func21, Tryd.ntmps21
  go_wp2_with fail
  refine (c_l02N V).mono ?_
  rintro e w1 ⟨⟨g, h, ha, rfl, o⟩, hb⟩
  rw [ha] at o
  rw [ha]
  have lg := o.lt g rfl
  obtain ⟨w2, hw2⟩ : ∃ W, w1.alloc (.cells #[.slice (some ⟨g, 0, none⟩) 69 h.c0, .slice h.a1 0 h.c1, .bool false, .slice h.a2 0 h.c2] 26) = W := ⟨_, rfl⟩
  have hb12 : Below w1.heap.size w1 w2 := by rw [← hw2]; exact (Below.refl _ _).alloc (Nat.le_refl _) _
  have B2 : Hid (Below w.heap.size w w2) := HB.out.trans ((hb.trans (hb12.mono hb.size)).mono HB.out.size)
  have BR2 : Hid (Box w2 w.heap.size 30 #[.slice none 0 0, .slice none 0 0, .bool false, .slice none 0 0, .int .i64 0, .slice none 0 0, .int .i64 0, .slice none 0 0, .int .i64 0]) := (BR.out.belowS hb).belowS hb12
  have BD2 : Hid (Box w2 w1.heap.size 26 #[.slice (some ⟨g, 0, none⟩) 69 h.c0, .slice h.a1 0 h.c1, .bool false, .slice h.a2 0 h.c2]) := by unfold Hid; rw [← hw2]; exact Box.new _ _ _
  have O2 : Hid (w2.ownsRow w.heap.size 9 1 (.slice (some ⟨g, 0, none⟩) 69 h.c0) 69 (Z69.map Value.string)) := by unfold Hid; rw [← hw2]; exact (o.down HB.out.size).alloc _
  have l1 : V.heap.size ≤ w1.heap.size := hb.size
  have l2 := BD2.out.lt
  have lg2 := O2.out.lt g rfl
  clear hb hb12 o HB BR hV
  obtain ⟨v0, v1, v2, v3⟩ := box4d BD2.out
  go_upto_region 2 with fail
  go_cut [6] (fun _ wx => Hid (Below w.heap.size w wx) ∧ Hid (Box wx w.heap.size 30 #[.slice none 0 0, .slice none 0 0, .bool false, .slice none 0 0, .int .i64 0, .slice none 0 0, .int .i64 0, .slice none 0 0, .int .i64 0]) ∧ Hid (Box wx w1.heap.size 26 #[.slice (some ⟨g, 0, none⟩) 69 h.c0, .slice h.a1 0 h.c1, .bool false, .slice h.a2 0 h.c2]) ∧ Hid (wx.ownsRow w.heap.size 9 1 (.slice (some ⟨g, 0, none⟩) 69 h.c0) 69 (S0.map Value.string)))
  case first =>
    go_region_with (
      go_at_call 35
      refine (c_header 1 _ rfl).mono ?_
      rintro e w3 ⟨rfl, hb3⟩
      have HB3 : Hid (Below w2.heap.size w2 w3) := Below.trans (by first | exact Below.refl _ _ | exact below_drewN (Below.refl _ _) 1 | exact below_drewN (Below.refl _ _) 2) hb3
      clear hb3
      have o3 : w3.ownsRow w.heap.size 9 1 (.slice (some ⟨g, 0, none⟩) 69 h.c0) 69 (Z69.map Value.string) := own_same O2.out (fun k e => HB3.out.block k (by have e' : g = k := Option.some.inj e; omega))
      obtain ⟨old, hold⟩ : ∃ old, w3.cell? ⟨g, 0, none⟩ = some old := by
        rw [o3.cellAt 0 (by omega)]; exact ⟨_, rfl⟩
      have hfz := o3.frozenAt 0
      have x3 := BD2.out.belowS HB3.out
      obtain ⟨u0, u1, u2, u3⟩ := box4d x3
      have O3 : Hid (w3.ownsRow w.heap.size 9 1 (.slice (some ⟨g, 0, none⟩) 69 h.c0) 69 (Z69.map Value.string)) := o3
      clear o3 x3)
    all_goals (go_wp2_with fail; go_meet)
    all_goals exact ⟨(B2.out.trans (HB3.out.mono B2.out.size)).setCell lg2.1 _, (BR2.out.belowS HB3.out).setOther _ _ (by show w.heap.size ≠ g; omega), (BD2.out.belowS HB3.out).setOther _ _ (by show w1.heap.size ≠ g; omega), by have := (O3.out.stored 0 (.string (strOfNums (hbR 1)))).1; rwa [z69_set] at this⟩
  case rest =>
    rename World => wx
    obtain ⟨HBx, BRx, BDx, Ox⟩ := hcut
    clear v0 v1 v2 v3
    obtain ⟨W2, hW2⟩ : ∃ W, wx.alloc (.cells #[] 91) = W := ⟨_, rfl⟩
    obtain ⟨W3, hW3⟩ : ∃ W, W2.alloc (.cells #[] 96) = W := ⟨_, rfl⟩
    have hb3 : Below wx.heap.size wx W3 := by rw [← hW3, ← hW2]; exact ((Below.refl _ _).alloc (Nat.le_refl _) _).alloc (by simp) _
    have BR3 : Hid (Box W3 w.heap.size 30 #[.slice none 0 0, .slice none 0 0, .bool false, .slice none 0 0, .int .i64 0, .slice none 0 0, .int .i64 0, .slice none 0 0, .int .i64 0]) := BRx.out.belowS hb3
    have B3 : Hid (Below w.heap.size w W3) := HBx.out.trans (hb3.mono HBx.out.size)
    have lgx := Ox.out.lt g rfl
    have O3 : Hid (W3.ownsRow w.heap.size 9 1 (.slice (some ⟨g, 0, none⟩) 69 h.c0) 69 (S0.map Value.string)) := own_same Ox.out (fun k e => hb3.block k (by have e' : g = k := Option.some.inj e; omega))
    have l3 := hb3.size
    obtain ⟨v0, v1, v2, v3⟩ := box4d BDx.out
    obtain ⟨y0, y1, y2, y3, y4, y5, y6, y7, y8⟩ := box9 BR3.out
    have z0 :=   BR3.out.thaw 0
    have z1 :=   BR3.out.thaw 1
    have z2 :=   BR3.out.thaw 2
    have z3 :=   BR3.out.thaw 3
    have z4 :=   BR3.out.thaw 4
    have z5 :=   BR3.out.thaw 5
    have z6 :=   BR3.out.thaw 6
    have z7 :=   BR3.out.thaw 7
    have z8 :=   BR3.out.thaw 8
    clear hb3 HBx BRx Ox B2 BR2 BD2 O2
    go_wp2
    refine retS Tryd.results21 rfl rfl (put9_box BR3.out _ _ _ _ _ _ _ _ _) ⟨⟨⟨some ⟨g, 0, none⟩, h.c0, h.a1, h.c1, h.a2, h.c2, some ⟨wx.heap.size, 0, none⟩, 0, some ⟨W2.heap.size, 0, none⟩, 0⟩, rfl, ?_, ?_⟩, put9_below B3.out (Nat.le_refl _) _ _ _ _ _ _ _ _ _⟩
    · exact own_same O3.out (fun k e => put9_same _ _ _ _ _ _ _ _ _ _ _ (by have e' : g = k := Option.some.inj e; omega))
    · intro k e
      have e' : g = k := Option.some.inj e
      exact Nat.lt_of_lt_of_eq (show k < W3.heap.size by omega) (put9_size _ _ _ _ _ _ _ _ _ _ _).symm

end Go.Proofs.YtlocgbjdnfnilaaDoor
