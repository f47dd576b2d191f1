/-
  NewWorld, on both sides.
-/
import Derived.Test.YtlocgbjdnfnilaaDoorWa
import Derived.Deep.RegionHeld3
import Derived.Deep.RegionWith
import Derived.Deep.RegionLaw
import Derived.Laws.Rows
import Derived.Laws.Tables
import Derived.RegionTactic
namespace Go.Proofs.YtlocgbjdnfnilaaDoor
open Go Go.RowKit
attribute [local go_sem ↓] Go.wp_at_zero Go.wp_at_succ

set_option linter.unusedVariables false
set_option linter.unusedSimpArgs false
def AnsW (w : World) (e : Ending) (w' : World) : Prop :=
  ∃ (h : HS) (t : HX) (s : HW) (B E : Nat), e = .returned (.agg #[.slice h.a0 69 h.c0, .slice h.a1 0 h.c1, .bool false, .slice h.a2 0 h.c2, .int .i64 1, .slice h.a3 0 h.c3, .int .i64 0, .slice h.a4 0 h.c4, .int .i64 0, .bool true, .slice t.a5 0 t.c5, .slice t.a6 0 t.c6, .slice t.a7 0 t.c7, .int .i64 1, .slice (some ⟨s.g, 0, none⟩) 3 3, .slice s.ao 0 s.co, .slice s.ad 0 s.cd, .slice s.ab 0 s.cb, .bool false]) ∧ w.heap.size ≤ B ∧ E ≤ w'.heap.size ∧ w'.ownsRow B 9 1 (.slice h.a0 69 h.c0) 69 (S0.map Value.string) ∧ (∀ g, ob h.a0 = some g → g < E) ∧ w.heap.size ≤ s.g ∧ (s.g < B ∨ E ≤ s.g) ∧ Box w' s.g 3 #[.int .i64 0, .int .i64 0, .int .i64 0]
def put19 (V : World) (r : Nat) (v0 v1 v2 v3 v4 v5 v6 v7 v8 v9 v10 v11 v12 v13 v14 v15 v16 v17 v18 : Value) : World := (((((((((((((((((((V).setCell ⟨r, 0, none⟩ v0).setCell ⟨r, 1, none⟩ v1).setCell ⟨r, 2, none⟩ v2).setCell ⟨r, 3, none⟩ v3).setCell ⟨r, 4, none⟩ v4).setCell ⟨r, 5, none⟩ v5).setCell ⟨r, 6, none⟩ v6).setCell ⟨r, 7, none⟩ v7).setCell ⟨r, 8, none⟩ v8).setCell ⟨r, 9, none⟩ v9).setCell ⟨r, 10, none⟩ v10).setCell ⟨r, 11, none⟩ v11).setCell ⟨r, 12, none⟩ v12).setCell ⟨r, 13, none⟩ v13).setCell ⟨r, 14, none⟩ v14).setCell ⟨r, 15, none⟩ v15).setCell ⟨r, 16, none⟩ v16).setCell ⟨r, 17, none⟩ v17).setCell ⟨r, 18, none⟩ v18
theorem put19_box {V : World} {r : Nat} {t : TypeId} {a0 a1 a2 a3 a4 a5 a6 a7 a8 a9 a10 a11 a12 a13 a14 a15 a16 a17 a18 : Value} (h : Box V r t #[a0, a1, a2, a3, a4, a5, a6, a7, a8, a9, a10, a11, a12, a13, a14, a15, a16, a17, a18]) (v0 v1 v2 v3 v4 v5 v6 v7 v8 v9 v10 v11 v12 v13 v14 v15 v16 v17 v18 : Value) : Box (put19 V r v0 v1 v2 v3 v4 v5 v6 v7 v8 v9 v10 v11 v12 v13 v14 v15 v16 v17 v18) r t #[v0, v1, v2, v3, v4, v5, v6, v7, v8, v9, v10, v11, v12, v13, v14, v15, v16, v17, v18] := by
  unfold put19
  have k := ((((((((((((((((((h.set 0 v0).set 1 v1).set 2 v2).set 3 v3).set 4 v4).set 5 v5).set 6 v6).set 7 v7).set 8 v8).set 9 v9).set 10 v10).set 11 v11).set 12 v12).set 13 v13).set 14 v14).set 15 v15).set 16 v16).set 17 v17).set 18 v18
  simpa using k
theorem thaw19 {w : World} {r : Nat} {t : TypeId} {c : Array Value} (h : Box w r t c) : w.frozen? ⟨r, 0, none⟩ = false ∧ w.frozen? ⟨r, 1, none⟩ = false ∧ w.frozen? ⟨r, 2, none⟩ = false ∧ w.frozen? ⟨r, 3, none⟩ = false ∧ w.frozen? ⟨r, 4, none⟩ = false ∧ w.frozen? ⟨r, 5, none⟩ = false ∧ w.frozen? ⟨r, 6, none⟩ = false ∧ w.frozen? ⟨r, 7, none⟩ = false ∧ w.frozen? ⟨r, 8, none⟩ = false ∧ w.frozen? ⟨r, 9, none⟩ = false ∧ w.frozen? ⟨r, 10, none⟩ = false ∧ w.frozen? ⟨r, 11, none⟩ = false ∧ w.frozen? ⟨r, 12, none⟩ = false ∧ w.frozen? ⟨r, 13, none⟩ = false ∧ w.frozen? ⟨r, 14, none⟩ = false ∧ w.frozen? ⟨r, 15, none⟩ = false ∧ w.frozen? ⟨r, 16, none⟩ = false ∧ w.frozen? ⟨r, 17, none⟩ = false ∧ w.frozen? ⟨r, 18, none⟩ = false := ⟨h.thaw 0, h.thaw 1, h.thaw 2, h.thaw 3, h.thaw 4, h.thaw 5, h.thaw 6, h.thaw 7, h.thaw 8, h.thaw 9, h.thaw 10, h.thaw 11, h.thaw 12, h.thaw 13, h.thaw 14, h.thaw 15, h.thaw 16, h.thaw 17, h.thaw 18⟩
theorem put19_below {w w' : World} {r B : Nat} (h : Below B w w') (hg : B ≤ r) (v0 v1 v2 v3 v4 v5 v6 v7 v8 v9 v10 v11 v12 v13 v14 v15 v16 v17 v18 : Value) : Below B w (put19 w' r v0 v1 v2 v3 v4 v5 v6 v7 v8 v9 v10 v11 v12 v13 v14 v15 v16 v17 v18) := (((((((((((((((((((h.setCell hg _).setCell hg _).setCell hg _).setCell hg _).setCell hg _).setCell hg _).setCell hg _).setCell hg _).setCell hg _).setCell hg _).setCell hg _).setCell hg _).setCell hg _).setCell hg _).setCell hg _).setCell hg _).setCell hg _).setCell hg _).setCell hg _)
theorem put19_inn (w : World) (r : Nat) (v0 v1 v2 v3 v4 v5 v6 v7 v8 v9 v10 v11 v12 v13 v14 v15 v16 v17 v18 : Value) : Inn r (r + 1) w (put19 w r v0 v1 v2 v3 v4 v5 v6 v7 v8 v9 v10 v11 v12 v13 v14 v15 v16 v17 v18) := by
  have st : ∀ (W : World) (i : Nat) (v : Value), Inn r (r + 1) W (W.setCell ⟨r, i, none⟩ v) := fun W i v => ⟨rfl, rfl, rfl, by simp, fun k _ ho => Below.heap_setCell W ⟨r, i, none⟩ v k (by show k ≠ r; omega)⟩
  unfold put19
  exact (((((((((((((((((((st _ 0 _).trans (st _ 1 _)).trans (st _ 2 _)).trans (st _ 3 _)).trans (st _ 4 _)).trans (st _ 5 _)).trans (st _ 6 _)).trans (st _ 7 _)).trans (st _ 8 _)).trans (st _ 9 _)).trans (st _ 10 _)).trans (st _ 11 _)).trans (st _ 12 _)).trans (st _ 13 _)).trans (st _ 14 _)).trans (st _ 15 _)).trans (st _ 16 _)).trans (st _ 17 _)).trans (st _ 18 _))
theorem retW {fn : Func} {R : Ending → World → Prop} {w' : World} {g : Nat} {a : Act} {v0 v1 v2 v3 v4 v5 v6 v7 v8 v9 v10 v11 v12 v13 v14 v15 v16 v17 v18 : Value} (hres : fn.results = #[.cell 0 40]) (h0 : a.tmps.getD 0 undef = .pointer (some ⟨g, 0, none⟩)) (hd : a.defers = []) (hb : Box w' g 40 #[v0, v1, v2, v3, v4, v5, v6, v7, v8, v9, v10, v11, v12, v13, v14, v15, v16, v17, v18]) (hR : R (.returned (.agg #[v0, v1, v2, v3, v4, v5, v6, v7, v8, v9, v10, v11, v12, v13, v14, v15, v16, v17, v18])) w') : bodyPost Tryd.prog fn R .ret a w' := by
  refine bodyPost_ret (v := .agg #[v0, v1, v2, v3, v4, v5, v6, v7, v8, v9, v10, v11, v12, v13, v14, v15, v16, v17, v18]) ?_ hd hR
  have h0' : a.tmps[0]?.getD undef = .pointer (some ⟨g, 0, none⟩) := by simpa using h0
  have hl : (loadVar 40 ⟨g, 0, none⟩).run Tryd.prog w' = .ok (.agg #[v0, v1, v2, v3, v4, v5, v6, v7, v8, v9, v10, v11, v12, v13, v14, v15, v16, v17, v18]) w' := run_loadVar_row (P := Tryd.prog) w' g 40 40 _ (0, 0) _ hb Tryd.underlying40 rfl (by kernel_rfl)
  simp only [results, hres]
  simp [h0', asAddr, hl]
/-- What stands behind some of the operations of NewWorld's one region. -/
def Fx (V W : World) (b0 b1 b2 b3 b4 : Bool) (x1 x2 x3 x4 x5 : Value) : Prop :=
  Below V.heap.size V W ∧ ∃ (h : HS) (t : HX) (B E gs : Nat),
   (b0 = true → x1 = .agg #[.slice h.a0 69 h.c0, .slice h.a1 0 h.c1, .bool false, .slice h.a2 0 h.c2, .int .i64 1, .slice h.a3 0 h.c3, .int .i64 0, .slice h.a4 0 h.c4, .int .i64 0, .bool true, .slice t.a5 0 t.c5, .slice t.a6 0 t.c6, .slice t.a7 0 t.c7, .int .i64 1] ∧ V.heap.size ≤ B ∧ E ≤ W.heap.size ∧ W.ownsRow B 9 1 (.slice h.a0 69 h.c0) 69 (S0.map Value.string) ∧ (∀ g, ob h.a0 = some g → g < E)) ∧
   (b1 = true → x2 = .slice (some ⟨gs, 0, none⟩) 3 3 ∧ V.heap.size ≤ gs ∧ Box W gs 3 #[.int .i64 0, .int .i64 0, .int .i64 0]) ∧
   (b0 = true → b1 = true → gs < B ∨ E ≤ gs) ∧
   (b2 = true → ∃ a c, x3 = .slice a 0 c) ∧ (b3 = true → ∃ a c, x4 = .slice a 0 c) ∧ (b4 = true → ∃ a c, x5 = .slice a 0 c)
theorem Fx.call {V W W1 : World} {b1 b2 b3 b4 : Bool} {x1 x2 x3 x4 x5 : Value} (f : Fx V W false b1 b2 b3 b4 x1 x2 x3 x4 x5) {h : HS} {t : HX} (ow : W1.ownsRow W.heap.size 9 1 (.slice h.a0 69 h.c0) 69 (S0.map Value.string)) (lo : ∀ g, ob h.a0 = some g → g < W1.heap.size) (hb : Below W.heap.size W W1) : Fx V W1 true b1 b2 b3 b4 (.agg #[.slice h.a0 69 h.c0, .slice h.a1 0 h.c1, .bool false, .slice h.a2 0 h.c2, .int .i64 1, .slice h.a3 0 h.c3, .int .i64 0, .slice h.a4 0 h.c4, .int .i64 0, .bool true, .slice t.a5 0 t.c5, .slice t.a6 0 t.c6, .slice t.a7 0 t.c7, .int .i64 1]) x2 x3 x4 x5 := by
  obtain ⟨f0, h', t', B, E, gs, f1, f2, f3, f4⟩ := f
  refine ⟨f0.trans (hb.mono f0.size), h, t, W.heap.size, W1.heap.size, gs, fun _ => ⟨rfl, f0.size, Nat.le_refl _, ow, lo⟩, fun k => ⟨(f2 k).1, (f2 k).2.1, (f2 k).2.2.belowS hb⟩, fun _ k => .inl (f2 k).2.2.lt, f4⟩
theorem Fx.make {V W : World} {b0 b2 b3 b4 : Bool} {x1 x2 x3 x4 x5 : Value} (f : Fx V W b0 false b2 b3 b4 x1 x2 x3 x4 x5) : Fx V (W.alloc (.cells #[.int .i64 0, .int .i64 0, .int .i64 0] 3)) b0 true b2 b3 b4 x1 (.slice (some ⟨W.heap.size, 0, none⟩) 3 3) x3 x4 x5 := by
  obtain ⟨f0, h, t, B, E, gs, f1, f2, f3, f4⟩ := f
  have hb : Below W.heap.size W (W.alloc (.cells #[.int .i64 0, .int .i64 0, .int .i64 0] 3)) := (Below.refl _ _).alloc (Nat.le_refl _) _
  exact ⟨f0.trans (hb.mono f0.size), h, t, B, E, W.heap.size, fun k => ⟨(f1 k).1, (f1 k).2.1, Nat.le_trans (f1 k).2.2.1 hb.size, own_below (f1 k).2.2.2.1 hb, (f1 k).2.2.2.2⟩, fun _ => ⟨rfl, f0.size, Box.new _ _ _⟩, fun k _ => .inr (f1 k).2.2.1, f4⟩
theorem Fx.alloc {V W : World} {b0 b1 b2 b3 b4 : Bool} {x1 x2 x3 x4 x5 : Value} (f : Fx V W b0 b1 b2 b3 b4 x1 x2 x3 x4 x5) (o : Obj) : Fx V (W.alloc o) b0 b1 b2 b3 b4 x1 x2 x3 x4 x5 := by
  obtain ⟨f0, h, t, B, E, gs, f1, f2, f3, f4⟩ := f
  have hb : Below W.heap.size W (W.alloc o) := (Below.refl _ _).alloc (Nat.le_refl _) _
  exact ⟨f0.trans (hb.mono f0.size), h, t, B, E, gs, fun k => ⟨(f1 k).1, (f1 k).2.1, Nat.le_trans (f1 k).2.2.1 hb.size, own_below (f1 k).2.2.2.1 hb, (f1 k).2.2.2.2⟩, fun k => ⟨(f2 k).1, (f2 k).2.1, (f2 k).2.2.belowS hb⟩, f3, f4⟩
theorem Fx.b2 {V W : World} {b0 b1 b3 b4 : Bool} {x1 x2 x3 x4 x5 : Value} (f : Fx V W b0 b1 false b3 b4 x1 x2 x3 x4 x5) (a : Option Addr) (c : Nat) : Fx V W b0 b1 true b3 b4 x1 x2 (.slice a 0 c) x4 x5 := by
  obtain ⟨f0, h, t, B, E, gs, f1, f2, f3, f4, f5, f6⟩ := f
  exact ⟨f0, h, t, B, E, gs, f1, f2, f3, fun _ => ⟨a, c, rfl⟩, f5, f6⟩
theorem Fx.b3 {V W : World} {b0 b1 b2 b4 : Bool} {x1 x2 x3 x4 x5 : Value} (f : Fx V W b0 b1 b2 false b4 x1 x2 x3 x4 x5) (a : Option Addr) (c : Nat) : Fx V W b0 b1 b2 true b4 x1 x2 x3 (.slice a 0 c) x5 := by
  obtain ⟨f0, h, t, B, E, gs, f1, f2, f3, f4, f5, f6⟩ := f
  exact ⟨f0, h, t, B, E, gs, f1, f2, f3, f4, fun _ => ⟨a, c, rfl⟩, f6⟩
theorem Fx.b4 {V W : World} {b0 b1 b2 b3 : Bool} {x1 x2 x3 x4 x5 : Value} (f : Fx V W b0 b1 b2 b3 false x1 x2 x3 x4 x5) (a : Option Addr) (c : Nat) : Fx V W b0 b1 b2 b3 true x1 x2 x3 x4 (.slice a 0 c) := by
  obtain ⟨f0, h, t, B, E, gs, f1, f2, f3, f4, f5, f6⟩ := f
  exact ⟨f0, h, t, B, E, gs, f1, f2, f3, f4, f5, fun _ => ⟨a, c, rfl⟩⟩
theorem mk3 (w : World) : (Instr.makeSlice 24 (.int .i64 3) (.int .i64 3)).run Tryd.prog w = .ok (.slice (some ⟨w.heap.size, 0, none⟩) 3 3) (w.alloc (.cells #[.int .i64 0, .int .i64 0, .int .i64 0] 3)) := by kernel_rfl
theorem bs0 (w : World) : (Instr.buildSlice 38 0 #[]).run Tryd.prog w = .ok (.slice (some ⟨w.heap.size, 0, none⟩) 0 0) (w.alloc (.cells #[] 65)) := by kernel_rfl
theorem heap_setRow (w : World) (g g' : Nat) (c : Array Value) (h : g' ≠ g) : (w.setRow g c).heap[g']? = w.heap[g']? := by
  unfold World.setRow
  simp only [Array.getElem?_modify]
  rw [if_neg (Ne.symm h)]
theorem grown_setRow (w : World) (g : Nat) (c : Array Value) : w.grownBy (w.setRow g c) (some g) := by
  refine ⟨rfl, rfl, rfl, by unfold World.setRow; simp, fun k hk hne => heap_setRow w g k c (fun e => hne (by rw [e]))⟩
def opsregI : Array Oper := #[{ dst := some 1, op := Op.call { callee := Callee.value (Operand.func 11), args := #[], argTypes := #[] }, type := 37, pos := "l14_script.go:53", after := #[], guard := none }, { dst := some 2, op := Op.makeSlice 24 (Operand.const (Value.int IntKind.i64 3)) (Operand.const (Value.int IntKind.i64 3)), type := 24, pos := "l14_script.go:53", after := #[], guard := none }, { dst := some 3, op := Op.build 40 #[(0, Operand.tmp 1), (1, Operand.tmp 2)], type := 40, pos := "l14_script.go:53", after := #[{ on := 0, ground := Ground.data }, { on := 1, ground := Ground.data }], guard := none }, { dst := none, op := Op.store 40 (Operand.tmp 0) (Operand.tmp 3), type := 0, pos := "l14_script.go:53", after := #[{ on := 2, ground := Ground.data }, { on := 0, ground := Ground.chain }, { on := 0, ground := Ground.phase }, { on := 1, ground := Ground.phase }, { on := 2, ground := Ground.phase }], guard := none }]
set_option maxRecDepth 100000 in
set_option maxHeartbeats 8000000 in
theorem regI (w V : World) (Q : Exit → Act → World → Prop) (HBX : Hid (∀ W : World, Below V.heap.size V W → Box W w.heap.size 40 #[.slice none 0 0, .slice none 0 0, .bool false, .slice none 0 0, .int .i64 0, .slice none 0 0, .int .i64 0, .slice none 0 0, .int .i64 0, .bool false, .slice none 0 0, .slice none 0 0, .slice none 0 0, .int .i64 0, .slice none 0 0, .slice none 0 0, .slice none 0 0, .slice none 0 0, .bool false])) (CN : Hid (∀ W : World, Below V.heap.size V W → Calls Tryd.prog 11 #[] W fun e w' => (∃ (h : HS) (t : HX), e = .returned (.agg #[.slice h.a0 69 h.c0, .slice h.a1 0 h.c1, .bool false, .slice h.a2 0 h.c2, .int .i64 1, .slice h.a3 0 h.c3, .int .i64 0, .slice h.a4 0 h.c4, .int .i64 0, .bool true, .slice t.a5 0 t.c5, .slice t.a6 0 t.c6, .slice t.a7 0 t.c7, .int .i64 1]) ∧ w'.ownsRow W.heap.size 9 1 (.slice h.a0 69 h.c0) 69 (S0.map Value.string) ∧ ∀ g, ob h.a0 = some g → g < w'.heap.size) ∧ Below W.heap.size W w')) (HQ : Hid (∀ (h : HS) (t : HX) (B E gs : Nat) (W : World), Below V.heap.size V W → V.heap.size ≤ B → E ≤ W.heap.size → W.ownsRow B 9 1 (.slice h.a0 69 h.c0) 69 (S0.map Value.string) → (∀ g, ob h.a0 = some g → g < E) → V.heap.size ≤ gs → Box W gs 3 #[.int .i64 0, .int .i64 0, .int .i64 0] → (gs < B ∨ E ≤ gs) → Q .normal ⟨#[.pointer (some ⟨w.heap.size, 0, none⟩), .agg #[.slice h.a0 69 h.c0, .slice h.a1 0 h.c1, .bool false, .slice h.a2 0 h.c2, .int .i64 1, .slice h.a3 0 h.c3, .int .i64 0, .slice h.a4 0 h.c4, .int .i64 0, .bool true, .slice t.a5 0 t.c5, .slice t.a6 0 t.c6, .slice t.a7 0 t.c7, .int .i64 1], .slice (some ⟨gs, 0, none⟩) 3 3, .agg #[.slice h.a0 69 h.c0, .slice h.a1 0 h.c1, .bool false, .slice h.a2 0 h.c2, .int .i64 1, .slice h.a3 0 h.c3, .int .i64 0, .slice h.a4 0 h.c4, .int .i64 0, .bool true, .slice t.a5 0 t.c5, .slice t.a6 0 t.c6, .slice t.a7 0 t.c7, .int .i64 1, .slice (some ⟨gs, 0, none⟩) 3 3, .slice none 0 0, .slice none 0 0, .slice none 0 0, .bool false]], []⟩ (W.setRow w.heap.size #[.slice h.a0 69 h.c0, .slice h.a1 0 h.c1, .bool false, .slice h.a2 0 h.c2, .int .i64 1, .slice h.a3 0 h.c3, .int .i64 0, .slice h.a4 0 h.c4, .int .i64 0, .bool true, .slice t.a5 0 t.c5, .slice t.a6 0 t.c6, .slice t.a7 0 t.c7, .int .i64 1, .slice (some ⟨gs, 0, none⟩) 3 3, .slice none 0 0, .slice none 0 0, .slice none 0 0, .bool false]))) :
    wpAny Tryd.prog .any opsregI Q 4 #[false, false, false, false] ⟨#[.pointer (some ⟨w.heap.size, 0, none⟩), undef, undef, undef], []⟩ V.drew := by
  have HF : ∀ (x1 x2 : Value) (W : World), Fx V W true true true true true x1 x2 (.slice none 0 0) (.slice none 0 0) (.slice none 0 0) → wpAny Tryd.prog .any opsregI Q 2 #[true, true, false, false] ⟨#[.pointer (some ⟨w.heap.size, 0, none⟩), x1, x2, undef], []⟩ W := by
    intro x1 x2 W f
    obtain ⟨f0, h, t, B, E, gs, f1, f2, f3, f4, f5, f6⟩ := f
    obtain ⟨rfl, k1, k2, k3, k4⟩ := f1 rfl
    obtain ⟨rfl, k5, k6⟩ := f2 rfl
    have HK := HQ.out h t B E gs W f0 k1 k2 k3 k4 k5 k6 (f3 rfl rfl)
    have X := HBX.out W f0
    clear f1 f2 f3 f4 f5 f6 k1 k2 k3 k4 k5 k6 f0
    refine wpAny_ready (rs := [2]) (by kernel_rfl) (by simp) ?_
    refine AllReady.cons (o := { dst := some 3, op := Op.build 40 #[(0, Operand.tmp 1), (1, Operand.tmp 2)], type := 40, pos := "l14_script.go:53", after := #[{ on := 0, ground := Ground.data }, { on := 1, ground := Ground.data }], guard := none }) rfl (fun K hK => ?_) AllReady.nil
    rw [if_pos (by simp [Region.wanted])]
    go_simp
    refine hK _ _ ?_
    clear hK
    refine wpAny_ready (rs := [3]) (by kernel_rfl) (by simp) ?_
    refine AllReady.cons (o := { dst := none, op := Op.store 40 (Operand.tmp 0) (Operand.tmp 3), type := 0, pos := "l14_script.go:53", after := #[{ on := 2, ground := Ground.data }, { on := 0, ground := Ground.chain }, { on := 0, ground := Ground.phase }, { on := 1, ground := Ground.phase }, { on := 2, ground := Ground.phase }], guard := none }) rfl (fun K hK => ?_) AllReady.nil
    rw [if_pos (by simp [Region.wanted])]
    refine wp_store_row 40 (.tmp 0) (.tmp 3) rfl w.heap.size #[.slice h.a0 69 h.c0, .slice h.a1 0 h.c1, .bool false, .slice h.a2 0 h.c2, .int .i64 1, .slice h.a3 0 h.c3, .int .i64 0, .slice h.a4 0 h.c4, .int .i64 0, .bool true, .slice t.a5 0 t.c5, .slice t.a6 0 t.c6, .slice t.a7 0 t.c7, .int .i64 1, .slice (some ⟨gs, 0, none⟩) 3 3, .slice none 0 0, .slice none 0 0, .slice none 0 0, .bool false] rfl rfl 40 #[.slice none 0 0, .slice none 0 0, .bool false, .slice none 0 0, .int .i64 0, .slice none 0 0, .int .i64 0, .slice none 0 0, .int .i64 0, .bool false, .slice none 0 0, .slice none 0 0, .slice none 0 0, .int .i64 0, .slice none 0 0, .slice none 0 0, .slice none 0 0, .slice none 0 0, .bool false] X (by kernel_rfl) rfl (by first | kernel_rfl | (simp [Value.oneCell'])) ?_
    exact hK _ _ (wpAny_done (by kernel_rfl) HK _)
  have H0 : ∀ (x1 x2 : Value) (W : World), Fx V W true false true true true x1 x2 (.slice none 0 0) (.slice none 0 0) (.slice none 0 0) → wpAny Tryd.prog .any opsregI Q 3 #[true, false, false, false] ⟨#[.pointer (some ⟨w.heap.size, 0, none⟩), x1, x2, undef], []⟩ W := by
    intro x1 x2 W f
    refine wpAny_ready (rs := [1]) (by kernel_rfl) (by simp) ?_
    refine AllReady.cons (o := { dst := some 2, op := Op.makeSlice 24 (Operand.const (Value.int IntKind.i64 3)) (Operand.const (Value.int IntKind.i64 3)), type := 24, pos := "l14_script.go:53", after := #[], guard := none }) rfl (fun K hK => ?_) ?_
    · rw [if_pos (by simp [Region.wanted])]
      have hm := mk3 W
      go_simp
      exact hK _ _ (HF x1 _  _ f.make)
    exact AllReady.nil
  have H1 : ∀ (x1 x2 : Value) (W : World), Fx V W false true true true true x1 x2 (.slice none 0 0) (.slice none 0 0) (.slice none 0 0) → wpAny Tryd.prog .any opsregI Q 3 #[false, true, false, false] ⟨#[.pointer (some ⟨w.heap.size, 0, none⟩), x1, x2, undef], []⟩ W := by
    intro x1 x2 W f
    refine wpAny_ready (rs := [0]) (by kernel_rfl) (by simp) ?_
    refine AllReady.cons (o := { dst := some 1, op := Op.call { callee := Callee.value (Operand.func 11), args := #[], argTypes := #[] }, type := 37, pos := "l14_script.go:53", after := #[], guard := none }) rfl (fun K hK => ?_) ?_
    · rw [if_pos (by simp [Region.wanted])]
      go_simp
      go_at_call 11
      refine (CN.out _ f.1).mono ?_
      rintro e W1 ⟨⟨h, t, rfl, ow, lo⟩, hb⟩
      go_simp
      exact hK _ _ (HF _ x2 W1 (f.call ow lo hb))
    exact AllReady.nil
  have HE : ∀ (x1 x2 : Value) (W : World), Fx V W false false true true true x1 x2 (.slice none 0 0) (.slice none 0 0) (.slice none 0 0) → wpAny Tryd.prog .any opsregI Q 4 #[false, false, false, false] ⟨#[.pointer (some ⟨w.heap.size, 0, none⟩), x1, x2, undef], []⟩ W := by
    intro x1 x2 W f
    refine wpAny_ready (rs := [0, 1]) (by kernel_rfl) (by simp) ?_
    refine AllReady.cons (o := { dst := some 1, op := Op.call { callee := Callee.value (Operand.func 11), args := #[], argTypes := #[] }, type := 37, pos := "l14_script.go:53", after := #[], guard := none }) rfl (fun K hK => ?_) ?_
    · rw [if_pos (by simp [Region.wanted])]
      go_simp
      go_at_call 11
      refine (CN.out _ f.1).mono ?_
      rintro e W1 ⟨⟨h, t, rfl, ow, lo⟩, hb⟩
      go_simp
      exact hK _ _ (H0 _ x2 W1 (f.call ow lo hb))
    refine AllReady.cons (o := { dst := some 2, op := Op.makeSlice 24 (Operand.const (Value.int IntKind.i64 3)) (Operand.const (Value.int IntKind.i64 3)), type := 24, pos := "l14_script.go:53", after := #[], guard := none }) rfl (fun K hK => ?_) ?_
    · rw [if_pos (by simp [Region.wanted])]
      have hm := mk3 W
      go_simp
      exact hK _ _ (H1 x1 _  _ f.make)
    exact AllReady.nil
  exact HE undef undef V.drew ⟨(Below.refl _ _).drew, ⟨none, 0, none, 0, none, 0, none, 0, none, 0⟩, ⟨none, 0, none, 0, none, 0⟩, 0, 0, 0, (fun k => (by cases k)), (fun k => (by cases k)), (fun k => (by cases k)), (fun _ => ⟨_, _, rfl⟩), (fun _ => ⟨_, _, rfl⟩), (fun _ => ⟨_, _, rfl⟩)⟩
set_option maxRecDepth 100000 in
set_option maxHeartbeats 8000000 in
theorem c_implNW (w : World) (ht : TabH w) : Calls Tryd.prog 6 #[] w fun e w' => AnsW w e w' ∧ Below w.heap.size w w' := by
  obtain ⟨V, hV⟩ : ∃ Q, w.alloc (.cells #[.slice none 0 0, .slice none 0 0, .bool false, .slice none 0 0, .int .i64 0, .slice none 0 0, .int .i64 0, .slice none 0 0, .int .i64 0, .bool false, .slice none 0 0, .slice none 0 0, .slice none 0 0, .int .i64 0, .slice none 0 0, .slice none 0 0, .slice none 0 0, .slice none 0 0, .bool false] 40) = Q := ⟨_, rfl⟩
  have bV : Below w.heap.size w V := by rw [← hV]; exact (Below.refl _ _).alloc (Nat.le_refl _) _
  have XV : Hid (Box V w.heap.size 40 #[.slice none 0 0, .slice none 0 0, .bool false, .slice none 0 0, .int .i64 0, .slice none 0 0, .int .i64 0, .slice none 0 0, .int .i64 0, .bool false, .slice none 0 0, .slice none 0 0, .slice none 0 0, .int .i64 0, .slice none 0 0, .slice none 0 0, .slice none 0 0, .slice none 0 0, .bool false]) := by unfold Hid; rw [← hV]; exact Box.new _ _ _
  have BV : Hid (Below w.heap.size w V) := bV
  have lV : w.heap.size < V.heap.size := XV.out.lt
  have HT : Hid (TabH V) := ht.below bV
  have CN : Hid (∀ W : World, Below V.heap.size V W → Calls Tryd.prog 11 #[] W fun e w' => (∃ (h : HS) (t : HX), e = .returned (.agg #[.slice h.a0 69 h.c0, .slice h.a1 0 h.c1, .bool false, .slice h.a2 0 h.c2, .int .i64 1, .slice h.a3 0 h.c3, .int .i64 0, .slice h.a4 0 h.c4, .int .i64 0, .bool true, .slice t.a5 0 t.c5, .slice t.a6 0 t.c6, .slice t.a7 0 t.c7, .int .i64 1]) ∧ w'.ownsRow W.heap.size 9 1 (.slice h.a0 69 h.c0) 69 (S0.map Value.string) ∧ ∀ g, ob h.a0 = some g → g < w'.heap.size) ∧ Below W.heap.size W w') := fun W hW => c_implNE W (HT.out.below hW)
  clear ht
  have HBX : Hid (∀ W : World, Below V.heap.size V W → Box W w.heap.size 40 #[.slice none 0 0, .slice none 0 0, .bool false, .slice none 0 0, .int .i64 0, .slice none 0 0, .int .i64 0, .slice none 0 0, .int .i64 0, .bool false, .slice none 0 0, .slice none 0 0, .slice none 0 0, .int .i64 0, .slice none 0 0, .slice none 0 0, .slice none 0 0, .slice none 0 0, .bool false]) := fun W hW => XV.out.belowS hW
  clear bV XV
  go_enter Tryd.func6, Tryd.ntmps6
  go_wp2_with fail
  refine wp_region_any (by kernel_rfl) ?_
  refine regI w V _ HBX CN ?_
  intro h t B E gs W f0 k1 k2 k3 k4 k5 k6 k7
  have X := HBX.out W f0
  have B1 : Hid (Below w.heap.size w W) := BV.out.trans (f0.mono BV.out.size)
  have gr := fun c => grown_setRow W w.heap.size c
  have hne : ∀ k, V.heap.size ≤ k → k ≠ w.heap.size := fun k hk => by omega
  go_wp2
  refine retW Tryd.results6 rfl rfl (setRow_heap W w.heap.size _ _ 40 _ X) ⟨⟨h, t, ⟨gs, none, 0, none, 0, none, 0⟩, B, E, rfl, by omega, Nat.le_trans k2 (gr _).size, own_same k3 (fun k e => heap_setRow _ _ _ _ (hne k (Nat.le_trans k1 (k3.lt k e).1))), k4, (by show w.heap.size ≤ gs; omega), k7, (heap_setRow _ _ _ _ (hne gs k5)).trans k6⟩, B1.out.grown (gr _) B1.out.size (fun x hx => by cases hx; exact Nat.le_refl _)⟩

end Go.Proofs.YtlocgbjdnfnilaaDoor
