/-
  NewStore: what it makes; the disk that it is laid on.
-/
import Derived.Test.YtlocgbjdnfnilaaDoorNv
import Derived.Test.YtlocgbjdnfnilaaDoorSg
namespace Go.Proofs.YtlocgbjdnfnilaaDoor
open Go Go.RowKit
attribute [local go_sem ↓] Go.wp_at_zero Go.wp_at_succ


def Z69 : List ByteArray := List.replicate 69 ⟨#[]⟩
def S0 : List ByteArray := strOfNums (hbR 1) :: List.replicate 68 ⟨#[]⟩
theorem z69_set : (Z69.map Value.string).set 0 (.string (strOfNums (hbR 1))) = S0.map Value.string := rfl
theorem made69 (n : Nat) : (madeCells (Value.string ⟨#[]⟩).cells (n * 1)).toList = (List.replicate n (⟨#[]⟩ : ByteArray)).map Value.string := by
  rw [partV_zero (Value.string ⟨#[]⟩) rfl [] n]; simp [partV]
theorem loadVarD {w : World} {r : Nat} {v0 v1 v2 v3 : Value} (hb : Box w r 26 #[v0, v1, v2, v3]) : (loadVar 26 ⟨r, 0, none⟩).run Tryd.prog w = .ok (.agg #[v0, v1, v2, v3]) w := by
  obtain ⟨e0, e1, e2, e3⟩ := box4d hb
  simp [go_sem, e0, e1, e2, e3]
theorem retD {fn : Func} {p : Tmp} (h : fn.results = #[.cell p 26]) {R : Ending → World → Prop} {a : Act} {w : World} {r : Nat} {v0 v1 v2 v3 : Value} (hp : a.tmps.getD p undef = .pointer (some ⟨r, 0, none⟩)) (hd : a.defers = []) (hb : Box w r 26 #[v0, v1, v2, v3]) (hR : R (.returned (.agg #[v0, v1, v2, v3])) w) : bodyPost Tryd.prog fn R .ret a w := by
  refine bodyPost_ret ?_ hd hR
  have hp' : a.tmps[p]?.getD undef = .pointer (some ⟨r, 0, none⟩) := by simpa using hp
  simp only [results, h]
  simp [hp', asAddr, loadVarD hb]
theorem loadVarS {w : World} {r : Nat} {v0 v1 v2 v3 v4 v5 v6 v7 v8 : Value} (hb : Box w r 30 #[v0, v1, v2, v3, v4, v5, v6, v7, v8]) : (loadVar 30 ⟨r, 0, none⟩).run Tryd.prog w = .ok (.agg #[v0, v1, v2, v3, v4, v5, v6, v7, v8]) w := by
  obtain ⟨e0, e1, e2, e3, e4, e5, e6, e7, e8⟩ := box9 hb
  simp [go_sem, e0, e1, e2, e3, e4, e5, e6, e7, e8]
theorem retS {fn : Func} {p : Tmp} (h : fn.results = #[.cell p 30]) {R : Ending → World → Prop} {a : Act} {w : World} {r : Nat} {v0 v1 v2 v3 v4 v5 v6 v7 v8 : Value} (hp : a.tmps.getD p undef = .pointer (some ⟨r, 0, none⟩)) (hd : a.defers = []) (hb : Box w r 30 #[v0, v1, v2, v3, v4, v5, v6, v7, v8]) (hR : R (.returned (.agg #[v0, v1, v2, v3, v4, v5, v6, v7, v8])) w) : bodyPost Tryd.prog fn R .ret a w := by
  refine bodyPost_ret ?_ hd hR
  have hp' : a.tmps[p]?.getD undef = .pointer (some ⟨r, 0, none⟩) := by simpa using hp
  simp only [results, h]
  simp [hp', asAddr, loadVarS hb]
def put9 (V : World) (r : Nat) (v0 v1 v2 v3 v4 v5 v6 v7 v8 : Value) : World := ((((((((V.setCell ⟨r, 0, none⟩ v0).setCell ⟨r, 1, none⟩ v1).setCell ⟨r, 2, none⟩ v2).setCell ⟨r, 3, none⟩ v3).setCell ⟨r, 4, none⟩ v4).setCell ⟨r, 5, none⟩ v5).setCell ⟨r, 6, none⟩ v6).setCell ⟨r, 7, none⟩ v7).setCell ⟨r, 8, none⟩ v8
theorem put9_box {V : World} {r : Nat} {t : TypeId} {x0 x1 x2 x3 x4 x5 x6 x7 x8 : Value} (h : Box V r t #[x0, x1, x2, x3, x4, x5, x6, x7, x8]) (v0 v1 v2 v3 v4 v5 v6 v7 v8 : Value) : Box (put9 V r v0 v1 v2 v3 v4 v5 v6 v7 v8) r t #[v0, v1, v2, v3, v4, v5, v6, v7, v8] := by
  have := ((((((((h.set 0 v0).set 1 v1).set 2 v2).set 3 v3).set 4 v4).set 5 v5).set 6 v6).set 7 v7).set 8 v8
  simpa [put9] using this
theorem put9_below {B : Nat} {w V : World} (hb : Below B w V) {r : Nat} (hr : B ≤ r) (v0 v1 v2 v3 v4 v5 v6 v7 v8 : Value) : Below B w (put9 V r v0 v1 v2 v3 v4 v5 v6 v7 v8) :=
  ((((((((hb.setCell hr _).setCell hr _).setCell hr _).setCell hr _).setCell hr _).setCell hr _).setCell hr _).setCell hr _).setCell hr _
theorem put9_same (V : World) (r : Nat) (v0 v1 v2 v3 v4 v5 v6 v7 v8 : Value) {g : Nat} (hg : g ≠ r) : (put9 V r v0 v1 v2 v3 v4 v5 v6 v7 v8).heap[g]? = V.heap[g]? := by
  unfold put9
  repeat rw [Below.heap_setCell _ _ _ _ hg]
theorem put9_size (V : World) (r : Nat) (v0 v1 v2 v3 v4 v5 v6 v7 v8 : Value) : (put9 V r v0 v1 v2 v3 v4 v5 v6 v7 v8).heap.size = V.heap.size := by
  unfold put9
  simp
theorem put4_sameD (V : World) (r : Nat) (v0 v1 v2 v3 : Value) {g : Nat} (hg : g ≠ r) : ((((V.setCell ⟨r, 0, none⟩ v0).setCell ⟨r, 1, none⟩ v1).setCell ⟨r, 2, none⟩ v2).setCell ⟨r, 3, none⟩ v3).heap[g]? = V.heap[g]? := by
  repeat rw [Below.heap_setCell _ _ _ _ hg]

set_option maxRecDepth 100000 in
set_option maxHeartbeats 2000000 in
theorem c_l02N (w : World) :
    Calls Tryd.prog 34 #[.int .i64 69] w fun e w' => (∃ (g : Nat) (h : HS), h.a0 = some ⟨g, 0, none⟩ ∧ e = .returned (.agg #[.slice h.a0 69 h.c0, .slice h.a1 0 h.c1, .bool false, .slice h.a2 0 h.c2]) ∧ w'.ownsRow w.heap.size 9 1 (.slice h.a0 69 h.c0) 69 (Z69.map Value.string)) ∧ Below w.heap.size w w' := by
  obtain ⟨i0, hi, hz0, hz1, hz2⟩ := info_parts infoS
  obtain ⟨V, hV⟩ : ∃ V, w.alloc (.cells #[.slice none 0 0, .slice none 0 0, .bool false, .slice none 0 0] 26) = V := ⟨_, rfl⟩
  have HB : Hid (Below w.heap.size w V) := by unfold Hid; rw [← hV]; exact (Below.refl _ _).alloc (Nat.le_refl _) _
  have BR : Hid (Box V w.heap.size 26 #[.slice none 0 0, .slice none 0 0, .bool false, .slice none 0 0]) := by unfold Hid; rw [← hV]; exact Box.new _ _ _
  have lV := BR.out.lt
  go_enter Tryd.func34, Tryd.ntmps34
  go_wp2_with (at_make; refine wpList_make_full _ rfl (.tmp 3) (.tmp 3) 22 rfl w.heap.size 9 i0 (Value.string ⟨#[]⟩) 1 Tryd.underlying22 hi hz0 hz1 .i64 .i64 _ _ 69 rfl rfl rfl rfl (by rw [hz2]; omega) (by unfold maxLen; omega) HB.out.size ?_
               intro w1 hown hgrow
               rw [made69] at hown
               have hb1 : Below w.heap.size w w1 := HB.out.grown hgrow HB.out.size (fun k h => by cases h)
               have br1 := BR.out.grown hgrow (by simp)
               obtain ⟨W2, hW2⟩ : ∃ W, w1.alloc (.cells #[] 112) = W := ⟨_, rfl⟩
               obtain ⟨W3, hW3⟩ : ∃ W, W2.alloc (.cells #[] 3) = W := ⟨_, rfl⟩
               have br3 : Box W3 w.heap.size 26 #[.slice none 0 0, .slice none 0 0, .bool false, .slice none 0 0] := by have := (br1.alloc (.cells #[] 112)).alloc (.cells #[] 3); rwa [hW2, hW3] at this
               have hb3 : Below w.heap.size w W3 := by rw [← hW3, ← hW2]; exact (hb1.alloc hb1.size _).alloc (by have := hb1.size; simp; omega) _
               have ho3 : W3.ownsRow w.heap.size 9 1 (.slice (some ⟨V.heap.size, 0, none⟩) 69 69) 69 (Z69.map Value.string) := by have := (hown.alloc (.cells #[] 112)).alloc (.cells #[] 3); rwa [hW2, hW3] at this
               have HO : Hid (W3.ownsRow w.heap.size 9 1 (.slice (some ⟨V.heap.size, 0, none⟩) 69 69) 69 (Z69.map Value.string)) := ho3
               have HB1 : Hid (Below w.heap.size w W3) := hb3
               have BR1 : Hid (Box W3 w.heap.size 26 #[.slice none 0 0, .slice none 0 0, .bool false, .slice none 0 0]) := br3
               obtain ⟨y0, y1, y2, y3⟩ := box4d br3
               have z0 := br3.thaw 0
               have z1 := br3.thaw 1
               have z2 := br3.thaw 2
               have z3 := br3.thaw 3
               clear hown hgrow hb1 br1 br3 hb3 ho3)
  refine retD Tryd.results34 rfl rfl (put4_box BR1.out _ _ _ _) ⟨⟨V.heap.size, ⟨some ⟨V.heap.size, 0, none⟩, 69, some ⟨w1.heap.size, 0, none⟩, 0, some ⟨W2.heap.size, 0, none⟩, 0, none, 0, none, 0⟩, rfl, rfl, ?_⟩, put4_below HB1.out (Nat.le_refl _) _ _ _ _⟩
  exact own_same HO.out fun g e => put4_sameD _ _ _ _ _ _ (by have e' : V.heap.size = g := Option.some.inj e; omega)

end Go.Proofs.YtlocgbjdnfnilaaDoor
