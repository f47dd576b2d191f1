/-
  NewEngine, on both sides.
-/
import Derived.Test.YtlocgbjdnfnilaaDoorNea
import Derived.Test.YtlocgbjdnfnilaaDoorNx
import Derived.Test.YtlocgbjdnfnilaaDoorNy
namespace Go.Proofs.YtlocgbjdnfnilaaDoor
open Go Go.RowKit
attribute [local go_sem ↓] Go.wp_at_zero Go.wp_at_succ

theorem retE {fn : Func} {R : Ending → World → Prop} {w' : World} {g : Nat} {a : Act} {v0 v1 v2 v3 v4 v5 v6 v7 v8 v9 v10 v11 v12 v13 : Value} (hres : fn.results = #[.cell 0 37]) (h0 : a.tmps.getD 0 undef = .pointer (some ⟨g, 0, none⟩)) (hd : a.defers = []) (hb : Box w' g 37 #[v0, v1, v2, v3, v4, v5, v6, v7, v8, v9, v10, v11, v12, v13]) (hR : R (.returned (.agg #[v0, v1, v2, v3, v4, v5, v6, v7, v8, v9, v10, v11, v12, v13])) w') : bodyPost Tryd.prog fn R .ret a w' := by
  obtain ⟨b0, b1, b2, b3, b4, b5, b6, b7, b8, b9, b10, b11, b12, b13⟩ := box14 hb
  refine bodyPost_ret (v := .agg #[v0, v1, v2, v3, v4, v5, v6, v7, v8, v9, v10, v11, v12, v13]) ?_ hd hR
  have h0' : a.tmps[0]?.getD undef = .pointer (some ⟨g, 0, none⟩) := by simpa using h0
  have hl : (loadVar 37 ⟨g, 0, none⟩).run Tryd.prog w' = .ok (.agg #[v0, v1, v2, v3, v4, v5, v6, v7, v8, v9, v10, v11, v12, v13]) w' := by simp [go_sem, b0, b1, b2, b3, b4, b5, b6, b7, b8, b9, b10, b11, b12, b13]
  simp only [results, hres]
  simp [h0', asAddr, hl]
theorem put14_inn (w : World) (g : Nat) (v0 v1 v2 v3 v4 v5 v6 v7 v8 v9 v10 v11 v12 v13 : Value) : Inn g (g + 1) w (put14 w g v0 v1 v2 v3 v4 v5 v6 v7 v8 v9 v10 v11 v12 v13) := by
  have st : ∀ (W : World) (i : Nat) (v : Value), Inn g (g + 1) W (W.setCell ⟨g, i, none⟩ v) := fun W i v => ⟨rfl, rfl, rfl, by simp, fun k _ ho => Below.heap_setCell W ⟨g, i, none⟩ v k (by show k ≠ g; omega)⟩
  unfold put14
  exact (((((((((((((st _ 0 _).trans (st _ 1 _)).trans (st _ 2 _)).trans (st _ 3 _)).trans (st _ 4 _)).trans (st _ 5 _)).trans (st _ 6 _)).trans (st _ 7 _)).trans (st _ 8 _)).trans (st _ 9 _)).trans (st _ 10 _)).trans (st _ 11 _)).trans (st _ 12 _)).trans (st _ 13 _)
set_option maxRecDepth 100000 in
set_option maxHeartbeats 8000000 in
theorem c_specNE (w : World) :
    Calls Tryd.prog 10 #[] w fun e w' => (∃ (h : HS) (t : HX), e = .returned (.agg #[.slice h.a0 69 h.c0, .slice h.a1 0 h.c1, .bool false, .slice h.a2 0 h.c2, .int .i64 1, .slice h.a3 0 h.c3, .int .i64 0, .slice h.a4 0 h.c4, .int .i64 0, .bool true, .slice t.a5 0 t.c5, .slice t.a6 0 t.c6, .slice t.a7 0 t.c7, .int .i64 1]) ∧ w'.ownsRow w.heap.size 9 1 (.slice h.a0 69 h.c0) 69 (S0.map Value.string) ∧ ∀ g, ob h.a0 = some g → g < w'.heap.size) ∧ Below w.heap.size w w' := by
  obtain ⟨V, hV⟩ : ∃ Q, w.alloc (.cells #[.slice none 0 0, .slice none 0 0, .bool false, .slice none 0 0, .int .i64 0, .slice none 0 0, .int .i64 0, .slice none 0 0, .int .i64 0, .bool false, .slice none 0 0, .slice none 0 0, .slice none 0 0, .int .i64 0] 37) = Q := ⟨_, rfl⟩
  have bV : Below w.heap.size w V := by rw [← hV]; exact (Below.refl _ _).alloc (Nat.le_refl _) _
  have XV : Hid (Box V w.heap.size 37 #[.slice none 0 0, .slice none 0 0, .bool false, .slice none 0 0, .int .i64 0, .slice none 0 0, .int .i64 0, .slice none 0 0, .int .i64 0, .bool false, .slice none 0 0, .slice none 0 0, .slice none 0 0, .int .i64 0]) := by unfold Hid; rw [← hV]; exact Box.new _ _ _
  have BV : Hid (Below w.heap.size w V) := bV
  have lV : w.heap.size < V.heap.size := XV.out.lt
  clear bV
  go_enter Tryd.func10, Tryd.ntmps10
  go_wp2_with fail
  refine (c_specNS V).mono ?_
  rintro e w1 ⟨⟨h, rfl, ow, lo⟩, hb⟩
  have B1 : Hid (Below w.heap.size w w1) := BV.out.trans (hb.mono BV.out.size)
  have X1 : Hid (Box w1 w.heap.size 37 #[.slice none 0 0, .slice none 0 0, .bool false, .slice none 0 0, .int .i64 0, .slice none 0 0, .int .i64 0, .slice none 0 0, .int .i64 0, .bool false, .slice none 0 0, .slice none 0 0, .slice none 0 0, .int .i64 0]) := XV.out.belowS hb
  have l1 : V.heap.size ≤ w1.heap.size := hb.size
  have O1 : Hid (w1.ownsRow V.heap.size 9 1 (.slice h.a0 69 h.c0) 69 (S0.map Value.string)) := ow
  have L1 : Hid (∀ g, ob h.a0 = some g → g < w1.heap.size) := lo
  clear hb ow lo hV XV BV
  obtain ⟨q1, hq1⟩ : ∃ Q, w1.alloc (.cells #[] 76) = Q := ⟨_, rfl⟩
  have bq1 : Below w1.heap.size w1 q1 := by rw [← hq1]; exact (Below.refl _ _).alloc (Nat.le_refl _) _
  have Xq1 : Hid (Box q1 w1.heap.size 76 #[]) := by unfold Hid; rw [← hq1]; exact Box.new _ _ _
  obtain ⟨q2, hq2⟩ : ∃ Q, q1.alloc (.cells #[] 99) = Q := ⟨_, rfl⟩
  have bq2 : Below q1.heap.size q1 q2 := by rw [← hq2]; exact (Below.refl _ _).alloc (Nat.le_refl _) _
  have Xq2 : Hid (Box q2 q1.heap.size 99 #[]) := by unfold Hid; rw [← hq2]; exact Box.new _ _ _
  obtain ⟨q3, hq3⟩ : ∃ Q, q2.alloc (.cells #[] 102) = Q := ⟨_, rfl⟩
  have bq3 : Below q2.heap.size q2 q3 := by rw [← hq3]; exact (Below.refl _ _).alloc (Nat.le_refl _) _
  have Xq3 : Hid (Box q3 q2.heap.size 102 #[]) := by unfold Hid; rw [← hq3]; exact Box.new _ _ _
  have hb : Below w1.heap.size w1 q3 := (bq1.trans (bq2.mono bq1.size)).trans (bq3.mono (Nat.le_trans bq1.size bq2.size))
  obtain ⟨t, ht⟩ : ∃ t : HX, t = ⟨some ⟨w1.heap.size, 0, none⟩, 0, some ⟨q1.heap.size, 0, none⟩, 0, some ⟨q2.heap.size, 0, none⟩, 0⟩ := ⟨_, rfl⟩
  have et : (#[.slice h.a0 69 h.c0, .slice h.a1 0 h.c1, .bool false, .slice h.a2 0 h.c2, .int .i64 1, .slice h.a3 0 h.c3, .int .i64 0, .slice h.a4 0 h.c4, .int .i64 0, .bool true, .slice t.a5 0 t.c5, .slice t.a6 0 t.c6, .slice t.a7 0 t.c7, .int .i64 1] : Array Value) = #[.slice h.a0 69 h.c0, .slice h.a1 0 h.c1, .bool false, .slice h.a2 0 h.c2, .int .i64 1, .slice h.a3 0 h.c3, .int .i64 0, .slice h.a4 0 h.c4, .int .i64 0, .bool true, .slice (some ⟨w1.heap.size, 0, none⟩) 0 0, .slice (some ⟨q1.heap.size, 0, none⟩) 0 0, .slice (some ⟨q2.heap.size, 0, none⟩) 0 0, .int .i64 1] := by rw [ht]
  have ET : Hid ((#[.slice h.a0 69 h.c0, .slice h.a1 0 h.c1, .bool false, .slice h.a2 0 h.c2, .int .i64 1, .slice h.a3 0 h.c3, .int .i64 0, .slice h.a4 0 h.c4, .int .i64 0, .bool true, .slice t.a5 0 t.c5, .slice t.a6 0 t.c6, .slice t.a7 0 t.c7, .int .i64 1] : Array Value) = #[.slice h.a0 69 h.c0, .slice h.a1 0 h.c1, .bool false, .slice h.a2 0 h.c2, .int .i64 1, .slice h.a3 0 h.c3, .int .i64 0, .slice h.a4 0 h.c4, .int .i64 0, .bool true, .slice (some ⟨w1.heap.size, 0, none⟩) 0 0, .slice (some ⟨q1.heap.size, 0, none⟩) 0 0, .slice (some ⟨q2.heap.size, 0, none⟩) 0 0, .int .i64 1]) := et
  have X2 : Box q3 w.heap.size 37 #[.slice none 0 0, .slice none 0 0, .bool false, .slice none 0 0, .int .i64 0, .slice none 0 0, .int .i64 0, .slice none 0 0, .int .i64 0, .bool false, .slice none 0 0, .slice none 0 0, .slice none 0 0, .int .i64 0] := X1.out.belowS hb
  have B2 : Below w.heap.size w q3 := B1.out.trans (hb.mono B1.out.size)
  obtain ⟨y0, y1, y2, y3, y4, y5, y6, y7, y8, y9, y10, y11, y12, y13⟩ := box14 X2
  obtain ⟨s0, s1, s2, s3, s4, s5, s6, s7, s8, s9, s10, s11, s12, s13⟩ := thaw14 X2
  obtain ⟨N, hN⟩ : ∃ Q, put14 q3 w.heap.size (.slice h.a0 69 h.c0) (.slice h.a1 0 h.c1) (.bool false) (.slice h.a2 0 h.c2) (.int .i64 1) (.slice h.a3 0 h.c3) (.int .i64 0) (.slice h.a4 0 h.c4) (.int .i64 0) (.bool true) (.slice (some ⟨w1.heap.size, 0, none⟩) 0 0) (.slice (some ⟨q1.heap.size, 0, none⟩) 0 0) (.slice (some ⟨q2.heap.size, 0, none⟩) 0 0) (.int .i64 1) = Q := ⟨_, rfl⟩
  have XN : Hid (Box N w.heap.size 37 #[.slice h.a0 69 h.c0, .slice h.a1 0 h.c1, .bool false, .slice h.a2 0 h.c2, .int .i64 1, .slice h.a3 0 h.c3, .int .i64 0, .slice h.a4 0 h.c4, .int .i64 0, .bool true, .slice (some ⟨w1.heap.size, 0, none⟩) 0 0, .slice (some ⟨q1.heap.size, 0, none⟩) 0 0, .slice (some ⟨q2.heap.size, 0, none⟩) 0 0, .int .i64 1]) := by unfold Hid; rw [← hN]; exact put14_box X2 _ _ _ _ _ _ _ _ _ _ _ _ _ _
  have BN : Hid (Below w.heap.size w N) := by unfold Hid; rw [← hN]; exact put14_below B2 (Nat.le_refl _) _ _ _ _ _ _ _ _ _ _ _ _ _ _
  have IN : Inn w.heap.size (w.heap.size + 1) q3 N := by rw [← hN]; exact put14_inn _ _ _ _ _ _ _ _ _ _ _ _ _ _ _ _
  have ON : Hid (N.ownsRow w.heap.size 9 1 (.slice h.a0 69 h.c0) 69 (S0.map Value.string)) := (own_same (own_below O1.out hb) (fun k e => IN.block k (by have := L1.out k (by rw [← ob_slice]; exact e); have := hb.size; omega) (.inr (by have := (O1.out.lt k e).1; omega)))).down (by omega)
  have LN : Hid (∀ g, ob h.a0 = some g → g < N.heap.size) := fun g e => by have := L1.out g e; have := hb.size; have := IN.size; omega
  unfold put14 at hN
  clear et hb X2 B2 IN O1 L1 X1 B1 bq1 bq2 bq3 Xq1 Xq2 Xq3 ht
  go_wp2
  exact retE Tryd.results10 rfl rfl XN.out ⟨⟨h, t, by rw [ET.out], ON.out, LN.out⟩, BN.out⟩
set_option maxRecDepth 100000 in
set_option maxHeartbeats 8000000 in
theorem c_implNE (w : World) (ht : TabH w) :
    Calls Tryd.prog 11 #[] w fun e w' => (∃ (h : HS) (t : HX), e = .returned (.agg #[.slice h.a0 69 h.c0, .slice h.a1 0 h.c1, .bool false, .slice h.a2 0 h.c2, .int .i64 1, .slice h.a3 0 h.c3, .int .i64 0, .slice h.a4 0 h.c4, .int .i64 0, .bool true, .slice t.a5 0 t.c5, .slice t.a6 0 t.c6, .slice t.a7 0 t.c7, .int .i64 1]) ∧ w'.ownsRow w.heap.size 9 1 (.slice h.a0 69 h.c0) 69 (S0.map Value.string) ∧ ∀ g, ob h.a0 = some g → g < w'.heap.size) ∧ Below w.heap.size w w' := by
  obtain ⟨V, hV⟩ : ∃ Q, w.alloc (.cells #[.slice none 0 0, .slice none 0 0, .bool false, .slice none 0 0, .int .i64 0, .slice none 0 0, .int .i64 0, .slice none 0 0, .int .i64 0, .bool false, .slice none 0 0, .slice none 0 0, .slice none 0 0, .int .i64 0] 37) = Q := ⟨_, rfl⟩
  have bV : Below w.heap.size w V := by rw [← hV]; exact (Below.refl _ _).alloc (Nat.le_refl _) _
  have XV : Hid (Box V w.heap.size 37 #[.slice none 0 0, .slice none 0 0, .bool false, .slice none 0 0, .int .i64 0, .slice none 0 0, .int .i64 0, .slice none 0 0, .int .i64 0, .bool false, .slice none 0 0, .slice none 0 0, .slice none 0 0, .int .i64 0]) := by unfold Hid; rw [← hV]; exact Box.new _ _ _
  have BV : Hid (Below w.heap.size w V) := bV
  have lV : w.heap.size < V.heap.size := XV.out.lt
  have HT : Hid (TabH V) := ht.below bV
  clear ht
  clear bV
  go_enter Tryd.func11, Tryd.ntmps11
  go_wp2_with fail
  refine (c_implNS V HT.out).mono ?_
  rintro e w1 ⟨⟨h, rfl, ow, lo⟩, hb⟩
  have B1 : Hid (Below w.heap.size w w1) := BV.out.trans (hb.mono BV.out.size)
  have X1 : Hid (Box w1 w.heap.size 37 #[.slice none 0 0, .slice none 0 0, .bool false, .slice none 0 0, .int .i64 0, .slice none 0 0, .int .i64 0, .slice none 0 0, .int .i64 0, .bool false, .slice none 0 0, .slice none 0 0, .slice none 0 0, .int .i64 0]) := XV.out.belowS hb
  have l1 : V.heap.size ≤ w1.heap.size := hb.size
  have O1 : Hid (w1.ownsRow V.heap.size 9 1 (.slice h.a0 69 h.c0) 69 (S0.map Value.string)) := ow
  have L1 : Hid (∀ g, ob h.a0 = some g → g < w1.heap.size) := lo
  clear hb ow lo hV XV BV
  have hb : Below w1.heap.size w1 w1 := Below.refl _ _
  obtain ⟨t, ht⟩ : ∃ t : HX, t = ⟨none, 0, none, 0, none, 0⟩ := ⟨_, rfl⟩
  have et : (#[.slice h.a0 69 h.c0, .slice h.a1 0 h.c1, .bool false, .slice h.a2 0 h.c2, .int .i64 1, .slice h.a3 0 h.c3, .int .i64 0, .slice h.a4 0 h.c4, .int .i64 0, .bool true, .slice t.a5 0 t.c5, .slice t.a6 0 t.c6, .slice t.a7 0 t.c7, .int .i64 1] : Array Value) = #[.slice h.a0 69 h.c0, .slice h.a1 0 h.c1, .bool false, .slice h.a2 0 h.c2, .int .i64 1, .slice h.a3 0 h.c3, .int .i64 0, .slice h.a4 0 h.c4, .int .i64 0, .bool true, .slice none 0 0, .slice none 0 0, .slice none 0 0, .int .i64 1] := by rw [ht]
  have ET : Hid ((#[.slice h.a0 69 h.c0, .slice h.a1 0 h.c1, .bool false, .slice h.a2 0 h.c2, .int .i64 1, .slice h.a3 0 h.c3, .int .i64 0, .slice h.a4 0 h.c4, .int .i64 0, .bool true, .slice t.a5 0 t.c5, .slice t.a6 0 t.c6, .slice t.a7 0 t.c7, .int .i64 1] : Array Value) = #[.slice h.a0 69 h.c0, .slice h.a1 0 h.c1, .bool false, .slice h.a2 0 h.c2, .int .i64 1, .slice h.a3 0 h.c3, .int .i64 0, .slice h.a4 0 h.c4, .int .i64 0, .bool true, .slice none 0 0, .slice none 0 0, .slice none 0 0, .int .i64 1]) := et
  have X2 : Box w1 w.heap.size 37 #[.slice none 0 0, .slice none 0 0, .bool false, .slice none 0 0, .int .i64 0, .slice none 0 0, .int .i64 0, .slice none 0 0, .int .i64 0, .bool false, .slice none 0 0, .slice none 0 0, .slice none 0 0, .int .i64 0] := X1.out.belowS hb
  have B2 : Below w.heap.size w w1 := B1.out.trans (hb.mono B1.out.size)
  obtain ⟨y0, y1, y2, y3, y4, y5, y6, y7, y8, y9, y10, y11, y12, y13⟩ := box14 X2
  obtain ⟨s0, s1, s2, s3, s4, s5, s6, s7, s8, s9, s10, s11, s12, s13⟩ := thaw14 X2
  obtain ⟨N, hN⟩ : ∃ Q, put14 w1 w.heap.size (.slice h.a0 69 h.c0) (.slice h.a1 0 h.c1) (.bool false) (.slice h.a2 0 h.c2) (.int .i64 1) (.slice h.a3 0 h.c3) (.int .i64 0) (.slice h.a4 0 h.c4) (.int .i64 0) (.bool true) (.slice none 0 0) (.slice none 0 0) (.slice none 0 0) (.int .i64 1) = Q := ⟨_, rfl⟩
  have XN : Hid (Box N w.heap.size 37 #[.slice h.a0 69 h.c0, .slice h.a1 0 h.c1, .bool false, .slice h.a2 0 h.c2, .int .i64 1, .slice h.a3 0 h.c3, .int .i64 0, .slice h.a4 0 h.c4, .int .i64 0, .bool true, .slice none 0 0, .slice none 0 0, .slice none 0 0, .int .i64 1]) := by unfold Hid; rw [← hN]; exact put14_box X2 _ _ _ _ _ _ _ _ _ _ _ _ _ _
  have BN : Hid (Below w.heap.size w N) := by unfold Hid; rw [← hN]; exact put14_below B2 (Nat.le_refl _) _ _ _ _ _ _ _ _ _ _ _ _ _ _
  have IN : Inn w.heap.size (w.heap.size + 1) w1 N := by rw [← hN]; exact put14_inn _ _ _ _ _ _ _ _ _ _ _ _ _ _ _ _
  have ON : Hid (N.ownsRow w.heap.size 9 1 (.slice h.a0 69 h.c0) 69 (S0.map Value.string)) := (own_same (own_below O1.out hb) (fun k e => IN.block k (by have := L1.out k (by rw [← ob_slice]; exact e); have := hb.size; omega) (.inr (by have := (O1.out.lt k e).1; omega)))).down (by omega)
  have LN : Hid (∀ g, ob h.a0 = some g → g < N.heap.size) := fun g e => by have := L1.out g e; have := hb.size; have := IN.size; omega
  unfold put14 at hN
  clear et hb X2 B2 IN O1 L1 X1 B1 ht
  go_wp2
  exact retE Tryd.results11 rfl rfl XN.out ⟨⟨h, t, by rw [ET.out], ON.out, LN.out⟩, BN.out⟩

end Go.Proofs.YtlocgbjdnfnilaaDoor
