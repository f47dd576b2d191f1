/-
  The specification of NewWorld.
-/
import Derived.Test.YtlocgbjdnfnilaaDoorWb
import Derived.Deep.RegionHeld3
import Derived.Laws.Rows
import Derived.Laws.Tables
import Derived.RegionTactic
namespace Go.Proofs.YtlocgbjdnfnilaaDoor
open Go Go.RowKit
attribute [local go_sem ↓] Go.wp_at_zero Go.wp_at_succ

set_option linter.unusedVariables false
set_option linter.unusedSimpArgs false
def opsregS : Array Oper := #[{ dst := some 1, op := Op.call { callee := Callee.value (Operand.func 10), args := #[], argTypes := #[] }, type := 37, pos := "l14_script.go:8", after := #[], guard := none }, { dst := some 2, op := Op.makeSlice 24 (Operand.const (Value.int IntKind.i64 3)) (Operand.const (Value.int IntKind.i64 3)), type := 24, pos := "l14_script.go:8", after := #[], guard := none }, { dst := some 3, op := Op.buildSlice 38 0 #[], type := 38, pos := "l14_script.go:8", after := #[], guard := none }, { dst := some 4, op := Op.buildSlice 38 0 #[], type := 38, pos := "l14_script.go:8", after := #[], guard := none }, { dst := some 5, op := Op.buildSlice 38 0 #[], type := 38, pos := "l14_script.go:8", after := #[], guard := none }, { dst := some 6, op := Op.build 40 #[(0, Operand.tmp 1), (1, Operand.tmp 2), (2, Operand.tmp 3), (3, Operand.tmp 4), (4, Operand.tmp 5)], type := 40, pos := "l14_script.go:8", after := #[{ on := 0, ground := Ground.data }, { on := 1, ground := Ground.data }, { on := 2, ground := Ground.data }, { on := 3, ground := Ground.data }, { on := 4, ground := Ground.data }], guard := none }, { dst := none, op := Op.store 40 (Operand.tmp 0) (Operand.tmp 6), type := 0, pos := "l14_script.go:8", after := #[{ on := 5, ground := Ground.data }, { on := 0, ground := Ground.chain }, { on := 0, ground := Ground.phase }, { on := 1, ground := Ground.phase }, { on := 2, ground := Ground.phase }, { on := 3, ground := Ground.phase }, { on := 4, ground := Ground.phase }, { on := 5, ground := Ground.phase }], guard := none }]
set_option maxRecDepth 100000 in
set_option maxHeartbeats 8000000 in
theorem regS (w V : World) (Q : Exit → Act → World → Prop) (HBX : Hid (∀ W : World, Below V.heap.size V W → Box W w.heap.size 40 #[.slice none 0 0, .slice none 0 0, .bool false, .slice none 0 0, .int .i64 0, .slice none 0 0, .int .i64 0, .slice none 0 0, .int .i64 0, .bool false, .slice none 0 0, .slice none 0 0, .slice none 0 0, .int .i64 0, .slice none 0 0, .slice none 0 0, .slice none 0 0, .slice none 0 0, .bool false])) (HQ : Hid (∀ (h : HS) (t : HX) (B E gs : Nat) (a3 : Option Addr) (c3 : Nat) (a4 : Option Addr) (c4 : Nat) (a5 : Option Addr) (c5 : Nat) (W : World), Below V.heap.size V W → V.heap.size ≤ B → E ≤ W.heap.size → W.ownsRow B 9 1 (.slice h.a0 69 h.c0) 69 (S0.map Value.string) → (∀ g, ob h.a0 = some g → g < E) → V.heap.size ≤ gs → Box W gs 3 #[.int .i64 0, .int .i64 0, .int .i64 0] → (gs < B ∨ E ≤ gs) → Q .normal ⟨#[.pointer (some ⟨w.heap.size, 0, none⟩), .agg #[.slice h.a0 69 h.c0, .slice h.a1 0 h.c1, .bool false, .slice h.a2 0 h.c2, .int .i64 1, .slice h.a3 0 h.c3, .int .i64 0, .slice h.a4 0 h.c4, .int .i64 0, .bool true, .slice t.a5 0 t.c5, .slice t.a6 0 t.c6, .slice t.a7 0 t.c7, .int .i64 1], .slice (some ⟨gs, 0, none⟩) 3 3, .slice a3 0 c3, .slice a4 0 c4, .slice a5 0 c5, .agg #[.slice h.a0 69 h.c0, .slice h.a1 0 h.c1, .bool false, .slice h.a2 0 h.c2, .int .i64 1, .slice h.a3 0 h.c3, .int .i64 0, .slice h.a4 0 h.c4, .int .i64 0, .bool true, .slice t.a5 0 t.c5, .slice t.a6 0 t.c6, .slice t.a7 0 t.c7, .int .i64 1, .slice (some ⟨gs, 0, none⟩) 3 3, .slice a3 0 c3, .slice a4 0 c4, .slice a5 0 c5, .bool false]], []⟩ (W.setRow w.heap.size #[.slice h.a0 69 h.c0, .slice h.a1 0 h.c1, .bool false, .slice h.a2 0 h.c2, .int .i64 1, .slice h.a3 0 h.c3, .int .i64 0, .slice h.a4 0 h.c4, .int .i64 0, .bool true, .slice t.a5 0 t.c5, .slice t.a6 0 t.c6, .slice t.a7 0 t.c7, .int .i64 1, .slice (some ⟨gs, 0, none⟩) 3 3, .slice a3 0 c3, .slice a4 0 c4, .slice a5 0 c5, .bool false]))) :
    wpAny Tryd.prog .any opsregS Q 7 #[false, false, false, false, false, false, false] ⟨#[.pointer (some ⟨w.heap.size, 0, none⟩), undef, undef, undef, undef, undef, undef], []⟩ V.drew := by
  have HF : ∀ (x1 x2 x3 x4 x5 : Value) (W : World), Fx V W true true true true true x1 x2 x3 x4 x5 → wpAny Tryd.prog .any opsregS Q 2 #[true, true, true, true, true, false, false] ⟨#[.pointer (some ⟨w.heap.size, 0, none⟩), x1, x2, x3, x4, x5, undef], []⟩ W := by
    intro x1 x2 x3 x4 x5 W f
    obtain ⟨f0, h, t, B, E, gs, f1, f2, f3, f4, f5, f6⟩ := f
    obtain ⟨rfl, k1, k2, k3, k4⟩ := f1 rfl
    obtain ⟨rfl, k5, k6⟩ := f2 rfl
    obtain ⟨a3, c3, rfl⟩ := f4 rfl
    obtain ⟨a4, c4, rfl⟩ := f5 rfl
    obtain ⟨a5, c5, rfl⟩ := f6 rfl
    have HK := HQ.out h t B E gs a3 c3 a4 c4 a5 c5 W f0 k1 k2 k3 k4 k5 k6 (f3 rfl rfl)
    have X := HBX.out W f0
    clear f1 f2 f3 f4 f5 f6 k1 k2 k3 k4 k5 k6 f0
    refine wpAny_ready (rs := [5]) (by kernel_rfl) (by simp) ?_
    refine AllReady.cons (o := { dst := some 6, op := Op.build 40 #[(0, Operand.tmp 1), (1, Operand.tmp 2), (2, Operand.tmp 3), (3, Operand.tmp 4), (4, Operand.tmp 5)], type := 40, pos := "l14_script.go:8", after := #[{ on := 0, ground := Ground.data }, { on := 1, ground := Ground.data }, { on := 2, ground := Ground.data }, { on := 3, ground := Ground.data }, { on := 4, ground := Ground.data }], guard := none }) rfl (fun K hK => ?_) AllReady.nil
    rw [if_pos (by simp [Region.wanted])]
    go_simp
    refine hK _ _ ?_
    clear hK
    refine wpAny_ready (rs := [6]) (by kernel_rfl) (by simp) ?_
    refine AllReady.cons (o := { dst := none, op := Op.store 40 (Operand.tmp 0) (Operand.tmp 6), type := 0, pos := "l14_script.go:8", after := #[{ on := 5, ground := Ground.data }, { on := 0, ground := Ground.chain }, { on := 0, ground := Ground.phase }, { on := 1, ground := Ground.phase }, { on := 2, ground := Ground.phase }, { on := 3, ground := Ground.phase }, { on := 4, ground := Ground.phase }, { on := 5, ground := Ground.phase }], guard := none }) rfl (fun K hK => ?_) AllReady.nil
    rw [if_pos (by simp [Region.wanted])]
    refine wp_store_row 40 (.tmp 0) (.tmp 6) rfl w.heap.size #[.slice h.a0 69 h.c0, .slice h.a1 0 h.c1, .bool false, .slice h.a2 0 h.c2, .int .i64 1, .slice h.a3 0 h.c3, .int .i64 0, .slice h.a4 0 h.c4, .int .i64 0, .bool true, .slice t.a5 0 t.c5, .slice t.a6 0 t.c6, .slice t.a7 0 t.c7, .int .i64 1, .slice (some ⟨gs, 0, none⟩) 3 3, .slice a3 0 c3, .slice a4 0 c4, .slice a5 0 c5, .bool false] rfl rfl 40 #[.slice none 0 0, .slice none 0 0, .bool false, .slice none 0 0, .int .i64 0, .slice none 0 0, .int .i64 0, .slice none 0 0, .int .i64 0, .bool false, .slice none 0 0, .slice none 0 0, .slice none 0 0, .int .i64 0, .slice none 0 0, .slice none 0 0, .slice none 0 0, .slice none 0 0, .bool false] X (by kernel_rfl) rfl (by first | kernel_rfl | (simp [Value.oneCell'])) ?_
    exact hK _ _ (wpAny_done (by kernel_rfl) HK _)
  have H0123 : ∀ (x1 x2 x3 x4 x5 : Value) (W : World), Fx V W true true true true false x1 x2 x3 x4 x5 → wpAny Tryd.prog .any opsregS Q 3 #[true, true, true, true, false, false, false] ⟨#[.pointer (some ⟨w.heap.size, 0, none⟩), x1, x2, x3, x4, x5, undef], []⟩ W := by
    intro x1 x2 x3 x4 x5 W f
    refine wpAny_ready (rs := [4]) (by kernel_rfl) (by simp) ?_
    refine AllReady.cons (o := { dst := some 5, op := Op.buildSlice 38 0 #[], type := 38, pos := "l14_script.go:8", after := #[], guard := none }) rfl (fun K hK => ?_) ?_
    · rw [if_pos (by simp [Region.wanted])]
      have hm := bs0 W
      go_simp
      exact hK _ _ (HF x1 x2 x3 x4 _ _ ((f.alloc _).b4 _ _))
    exact AllReady.nil
  have H0124 : ∀ (x1 x2 x3 x4 x5 : Value) (W : World), Fx V W true true true false true x1 x2 x3 x4 x5 → wpAny Tryd.prog .any opsregS Q 3 #[true, true, true, false, true, false, false] ⟨#[.pointer (some ⟨w.heap.size, 0, none⟩), x1, x2, x3, x4, x5, undef], []⟩ W := by
    intro x1 x2 x3 x4 x5 W f
    refine wpAny_ready (rs := [3]) (by kernel_rfl) (by simp) ?_
    refine AllReady.cons (o := { dst := some 4, op := Op.buildSlice 38 0 #[], type := 38, pos := "l14_script.go:8", after := #[], guard := none }) rfl (fun K hK => ?_) ?_
    · rw [if_pos (by simp [Region.wanted])]
      have hm := bs0 W
      go_simp
      exact hK _ _ (HF x1 x2 x3 _ x5 _ ((f.alloc _).b3 _ _))
    exact AllReady.nil
  have H0134 : ∀ (x1 x2 x3 x4 x5 : Value) (W : World), Fx V W true true false true true x1 x2 x3 x4 x5 → wpAny Tryd.prog .any opsregS Q 3 #[true, true, false, true, true, false, false] ⟨#[.pointer (some ⟨w.heap.size, 0, none⟩), x1, x2, x3, x4, x5, undef], []⟩ W := by
    intro x1 x2 x3 x4 x5 W f
    refine wpAny_ready (rs := [2]) (by kernel_rfl) (by simp) ?_
    refine AllReady.cons (o := { dst := some 3, op := Op.buildSlice 38 0 #[], type := 38, pos := "l14_script.go:8", after := #[], guard := none }) rfl (fun K hK => ?_) ?_
    · rw [if_pos (by simp [Region.wanted])]
      have hm := bs0 W
      go_simp
      exact hK _ _ (HF x1 x2 _ x4 x5 _ ((f.alloc _).b2 _ _))
    exact AllReady.nil
  have H0234 : ∀ (x1 x2 x3 x4 x5 : Value) (W : World), Fx V W true false true true true x1 x2 x3 x4 x5 → wpAny Tryd.prog .any opsregS Q 3 #[true, false, true, true, true, false, false] ⟨#[.pointer (some ⟨w.heap.size, 0, none⟩), x1, x2, x3, x4, x5, undef], []⟩ W := by
    intro x1 x2 x3 x4 x5 W f
    refine wpAny_ready (rs := [1]) (by kernel_rfl) (by simp) ?_
    refine AllReady.cons (o := { dst := some 2, op := Op.makeSlice 24 (Operand.const (Value.int IntKind.i64 3)) (Operand.const (Value.int IntKind.i64 3)), type := 24, pos := "l14_script.go:8", after := #[], guard := none }) rfl (fun K hK => ?_) ?_
    · rw [if_pos (by simp [Region.wanted])]
      have hm := mk3 W
      go_simp
      exact hK _ _ (HF x1 _ x3 x4 x5 _ f.make)
    exact AllReady.nil
  have H1234 : ∀ (x1 x2 x3 x4 x5 : Value) (W : World), Fx V W false true true true true x1 x2 x3 x4 x5 → wpAny Tryd.prog .any opsregS Q 3 #[false, true, true, true, true, false, false] ⟨#[.pointer (some ⟨w.heap.size, 0, none⟩), x1, x2, x3, x4, x5, undef], []⟩ W := by
    intro x1 x2 x3 x4 x5 W f
    refine wpAny_ready (rs := [0]) (by kernel_rfl) (by simp) ?_
    refine AllReady.cons (o := { dst := some 1, op := Op.call { callee := Callee.value (Operand.func 10), args := #[], argTypes := #[] }, type := 37, pos := "l14_script.go:8", after := #[], guard := none }) rfl (fun K hK => ?_) ?_
    · rw [if_pos (by simp [Region.wanted])]
      go_simp
      go_at_call 10
      refine (c_specNE _).mono ?_
      rintro e W1 ⟨⟨h, t, rfl, ow, lo⟩, hb⟩
      go_simp
      exact hK _ _ (HF _ x2 x3 x4 x5 W1 (f.call ow lo hb))
    exact AllReady.nil
  have H012 : ∀ (x1 x2 x3 x4 x5 : Value) (W : World), Fx V W true true true false false x1 x2 x3 x4 x5 → wpAny Tryd.prog .any opsregS Q 4 #[true, true, true, false, false, false, false] ⟨#[.pointer (some ⟨w.heap.size, 0, none⟩), x1, x2, x3, x4, x5, undef], []⟩ W := by
    intro x1 x2 x3 x4 x5 W f
    refine wpAny_ready (rs := [3, 4]) (by kernel_rfl) (by simp) ?_
    refine AllReady.cons (o := { dst := some 4, op := Op.buildSlice 38 0 #[], type := 38, pos := "l14_script.go:8", after := #[], guard := none }) rfl (fun K hK => ?_) ?_
    · rw [if_pos (by simp [Region.wanted])]
      have hm := bs0 W
      go_simp
      exact hK _ _ (H0123 x1 x2 x3 _ x5 _ ((f.alloc _).b3 _ _))
    refine AllReady.cons (o := { dst := some 5, op := Op.buildSlice 38 0 #[], type := 38, pos := "l14_script.go:8", after := #[], guard := none }) rfl (fun K hK => ?_) ?_
    · rw [if_pos (by simp [Region.wanted])]
      have hm := bs0 W
      go_simp
      exact hK _ _ (H0124 x1 x2 x3 x4 _ _ ((f.alloc _).b4 _ _))
    exact AllReady.nil
  have H013 : ∀ (x1 x2 x3 x4 x5 : Value) (W : World), Fx V W true true false true false x1 x2 x3 x4 x5 → wpAny Tryd.prog .any opsregS Q 4 #[true, true, false, true, false, false, false] ⟨#[.pointer (some ⟨w.heap.size, 0, none⟩), x1, x2, x3, x4, x5, undef], []⟩ W := by
    intro x1 x2 x3 x4 x5 W f
    refine wpAny_ready (rs := [2, 4]) (by kernel_rfl) (by simp) ?_
    refine AllReady.cons (o := { dst := some 3, op := Op.buildSlice 38 0 #[], type := 38, pos := "l14_script.go:8", after := #[], guard := none }) rfl (fun K hK => ?_) ?_
    · rw [if_pos (by simp [Region.wanted])]
      have hm := bs0 W
      go_simp
      exact hK _ _ (H0123 x1 x2 _ x4 x5 _ ((f.alloc _).b2 _ _))
    refine AllReady.cons (o := { dst := some 5, op := Op.buildSlice 38 0 #[], type := 38, pos := "l14_script.go:8", after := #[], guard := none }) rfl (fun K hK => ?_) ?_
    · rw [if_pos (by simp [Region.wanted])]
      have hm := bs0 W
      go_simp
      exact hK _ _ (H0134 x1 x2 x3 x4 _ _ ((f.alloc _).b4 _ _))
    exact AllReady.nil
  have H023 : ∀ (x1 x2 x3 x4 x5 : Value) (W : World), Fx V W true false true true false x1 x2 x3 x4 x5 → wpAny Tryd.prog .any opsregS Q 4 #[true, false, true, true, false, false, false] ⟨#[.pointer (some ⟨w.heap.size, 0, none⟩), x1, x2, x3, x4, x5, undef], []⟩ W := by
    intro x1 x2 x3 x4 x5 W f
    refine wpAny_ready (rs := [1, 4]) (by kernel_rfl) (by simp) ?_
    refine AllReady.cons (o := { dst := some 2, op := Op.makeSlice 24 (Operand.const (Value.int IntKind.i64 3)) (Operand.const (Value.int IntKind.i64 3)), type := 24, pos := "l14_script.go:8", after := #[], guard := none }) rfl (fun K hK => ?_) ?_
    · rw [if_pos (by simp [Region.wanted])]
      have hm := mk3 W
      go_simp
      exact hK _ _ (H0123 x1 _ x3 x4 x5 _ f.make)
    refine AllReady.cons (o := { dst := some 5, op := Op.buildSlice 38 0 #[], type := 38, pos := "l14_script.go:8", after := #[], guard := none }) rfl (fun K hK => ?_) ?_
    · rw [if_pos (by simp [Region.wanted])]
      have hm := bs0 W
      go_simp
      exact hK _ _ (H0234 x1 x2 x3 x4 _ _ ((f.alloc _).b4 _ _))
    exact AllReady.nil
  have H123 : ∀ (x1 x2 x3 x4 x5 : Value) (W : World), Fx V W false true true true false x1 x2 x3 x4 x5 → wpAny Tryd.prog .any opsregS Q 4 #[false, true, true, true, false, false, false] ⟨#[.pointer (some ⟨w.heap.size, 0, none⟩), x1, x2, x3, x4, x5, undef], []⟩ W := by
    intro x1 x2 x3 x4 x5 W f
    refine wpAny_ready (rs := [0, 4]) (by kernel_rfl) (by simp) ?_
    refine AllReady.cons (o := { dst := some 1, op := Op.call { callee := Callee.value (Operand.func 10), args := #[], argTypes := #[] }, type := 37, pos := "l14_script.go:8", after := #[], guard := none }) rfl (fun K hK => ?_) ?_
    · rw [if_pos (by simp [Region.wanted])]
      go_simp
      go_at_call 10
      refine (c_specNE _).mono ?_
      rintro e W1 ⟨⟨h, t, rfl, ow, lo⟩, hb⟩
      go_simp
      exact hK _ _ (H0123 _ x2 x3 x4 x5 W1 (f.call ow lo hb))
    refine AllReady.cons (o := { dst := some 5, op := Op.buildSlice 38 0 #[], type := 38, pos := "l14_script.go:8", after := #[], guard := none }) rfl (fun K hK => ?_) ?_
    · rw [if_pos (by simp [Region.wanted])]
      have hm := bs0 W
      go_simp
      exact hK _ _ (H1234 x1 x2 x3 x4 _ _ ((f.alloc _).b4 _ _))
    exact AllReady.nil
  have H014 : ∀ (x1 x2 x3 x4 x5 : Value) (W : World), Fx V W true true false false true x1 x2 x3 x4 x5 → wpAny Tryd.prog .any opsregS Q 4 #[true, true, false, false, true, false, false] ⟨#[.pointer (some ⟨w.heap.size, 0, none⟩), x1, x2, x3, x4, x5, undef], []⟩ W := by
    intro x1 x2 x3 x4 x5 W f
    refine wpAny_ready (rs := [2, 3]) (by kernel_rfl) (by simp) ?_
    refine AllReady.cons (o := { dst := some 3, op := Op.buildSlice 38 0 #[], type := 38, pos := "l14_script.go:8", after := #[], guard := none }) rfl (fun K hK => ?_) ?_
    · rw [if_pos (by simp [Region.wanted])]
      have hm := bs0 W
      go_simp
      exact hK _ _ (H0124 x1 x2 _ x4 x5 _ ((f.alloc _).b2 _ _))
    refine AllReady.cons (o := { dst := some 4, op := Op.buildSlice 38 0 #[], type := 38, pos := "l14_script.go:8", after := #[], guard := none }) rfl (fun K hK => ?_) ?_
    · rw [if_pos (by simp [Region.wanted])]
      have hm := bs0 W
      go_simp
      exact hK _ _ (H0134 x1 x2 x3 _ x5 _ ((f.alloc _).b3 _ _))
    exact AllReady.nil
  have H024 : ∀ (x1 x2 x3 x4 x5 : Value) (W : World), Fx V W true false true false true x1 x2 x3 x4 x5 → wpAny Tryd.prog .any opsregS Q 4 #[true, false, true, false, true, false, false] ⟨#[.pointer (some ⟨w.heap.size, 0, none⟩), x1, x2, x3, x4, x5, undef], []⟩ W := by
    intro x1 x2 x3 x4 x5 W f
    refine wpAny_ready (rs := [1, 3]) (by kernel_rfl) (by simp) ?_
    refine AllReady.cons (o := { dst := some 2, op := Op.makeSlice 24 (Operand.const (Value.int IntKind.i64 3)) (Operand.const (Value.int IntKind.i64 3)), type := 24, pos := "l14_script.go:8", after := #[], guard := none }) rfl (fun K hK => ?_) ?_
    · rw [if_pos (by simp [Region.wanted])]
      have hm := mk3 W
      go_simp
      exact hK _ _ (H0124 x1 _ x3 x4 x5 _ f.make)
    refine AllReady.cons (o := { dst := some 4, op := Op.buildSlice 38 0 #[], type := 38, pos := "l14_script.go:8", after := #[], guard := none }) rfl (fun K hK => ?_) ?_
    · rw [if_pos (by simp [Region.wanted])]
      have hm := bs0 W
      go_simp
      exact hK _ _ (H0234 x1 x2 x3 _ x5 _ ((f.alloc _).b3 _ _))
    exact AllReady.nil
  have H124 : ∀ (x1 x2 x3 x4 x5 : Value) (W : World), Fx V W false true true false true x1 x2 x3 x4 x5 → wpAny Tryd.prog .any opsregS Q 4 #[false, true, true, false, true, false, false] ⟨#[.pointer (some ⟨w.heap.size, 0, none⟩), x1, x2, x3, x4, x5, undef], []⟩ W := by
    intro x1 x2 x3 x4 x5 W f
    refine wpAny_ready (rs := [0, 3]) (by kernel_rfl) (by simp) ?_
    refine AllReady.cons (o := { dst := some 1, op := Op.call { callee := Callee.value (Operand.func 10), args := #[], argTypes := #[] }, type := 37, pos := "l14_script.go:8", after := #[], guard := none }) rfl (fun K hK => ?_) ?_
    · rw [if_pos (by simp [Region.wanted])]
      go_simp
      go_at_call 10
      refine (c_specNE _).mono ?_
      rintro e W1 ⟨⟨h, t, rfl, ow, lo⟩, hb⟩
      go_simp
      exact hK _ _ (H0124 _ x2 x3 x4 x5 W1 (f.call ow lo hb))
    refine AllReady.cons (o := { dst := some 4, op := Op.buildSlice 38 0 #[], type := 38, pos := "l14_script.go:8", after := #[], guard := none }) rfl (fun K hK => ?_) ?_
    · rw [if_pos (by simp [Region.wanted])]
      have hm := bs0 W
      go_simp
      exact hK _ _ (H1234 x1 x2 x3 _ x5 _ ((f.alloc _).b3 _ _))
    exact AllReady.nil
  have H034 : ∀ (x1 x2 x3 x4 x5 : Value) (W : World), Fx V W true false false true true x1 x2 x3 x4 x5 → wpAny Tryd.prog .any opsregS Q 4 #[true, false, false, true, true, false, false] ⟨#[.pointer (some ⟨w.heap.size, 0, none⟩), x1, x2, x3, x4, x5, undef], []⟩ W := by
    intro x1 x2 x3 x4 x5 W f
    refine wpAny_ready (rs := [1, 2]) (by kernel_rfl) (by simp) ?_
    refine AllReady.cons (o := { dst := some 2, op := Op.makeSlice 24 (Operand.const (Value.int IntKind.i64 3)) (Operand.const (Value.int IntKind.i64 3)), type := 24, pos := "l14_script.go:8", after := #[], guard := none }) rfl (fun K hK => ?_) ?_
    · rw [if_pos (by simp [Region.wanted])]
      have hm := mk3 W
      go_simp
      exact hK _ _ (H0134 x1 _ x3 x4 x5 _ f.make)
    refine AllReady.cons (o := { dst := some 3, op := Op.buildSlice 38 0 #[], type := 38, pos := "l14_script.go:8", after := #[], guard := none }) rfl (fun K hK => ?_) ?_
    · rw [if_pos (by simp [Region.wanted])]
      have hm := bs0 W
      go_simp
      exact hK _ _ (H0234 x1 x2 _ x4 x5 _ ((f.alloc _).b2 _ _))
    exact AllReady.nil
  have H134 : ∀ (x1 x2 x3 x4 x5 : Value) (W : World), Fx V W false true false true true x1 x2 x3 x4 x5 → wpAny Tryd.prog .any opsregS Q 4 #[false, true, false, true, true, false, false] ⟨#[.pointer (some ⟨w.heap.size, 0, none⟩), x1, x2, x3, x4, x5, undef], []⟩ W := by
    intro x1 x2 x3 x4 x5 W f
    refine wpAny_ready (rs := [0, 2]) (by kernel_rfl) (by simp) ?_
    refine AllReady.cons (o := { dst := some 1, op := Op.call { callee := Callee.value (Operand.func 10), args := #[], argTypes := #[] }, type := 37, pos := "l14_script.go:8", after := #[], guard := none }) rfl (fun K hK => ?_) ?_
    · rw [if_pos (by simp [Region.wanted])]
      go_simp
      go_at_call 10
      refine (c_specNE _).mono ?_
      rintro e W1 ⟨⟨h, t, rfl, ow, lo⟩, hb⟩
      go_simp
      exact hK _ _ (H0134 _ x2 x3 x4 x5 W1 (f.call ow lo hb))
    refine AllReady.cons (o := { dst := some 3, op := Op.buildSlice 38 0 #[], type := 38, pos := "l14_script.go:8", after := #[], guard := none }) rfl (fun K hK => ?_) ?_
    · rw [if_pos (by simp [Region.wanted])]
      have hm := bs0 W
      go_simp
      exact hK _ _ (H1234 x1 x2 _ x4 x5 _ ((f.alloc _).b2 _ _))
    exact AllReady.nil
  have H234 : ∀ (x1 x2 x3 x4 x5 : Value) (W : World), Fx V W false false true true true x1 x2 x3 x4 x5 → wpAny Tryd.prog .any opsregS Q 4 #[false, false, true, true, true, false, false] ⟨#[.pointer (some ⟨w.heap.size, 0, none⟩), x1, x2, x3, x4, x5, undef], []⟩ W := by
    intro x1 x2 x3 x4 x5 W f
    refine wpAny_ready (rs := [0, 1]) (by kernel_rfl) (by simp) ?_
    refine AllReady.cons (o := { dst := some 1, op := Op.call { callee := Callee.value (Operand.func 10), args := #[], argTypes := #[] }, type := 37, pos := "l14_script.go:8", after := #[], guard := none }) rfl (fun K hK => ?_) ?_
    · rw [if_pos (by simp [Region.wanted])]
      go_simp
      go_at_call 10
      refine (c_specNE _).mono ?_
      rintro e W1 ⟨⟨h, t, rfl, ow, lo⟩, hb⟩
      go_simp
      exact hK _ _ (H0234 _ x2 x3 x4 x5 W1 (f.call ow lo hb))
    refine AllReady.cons (o := { dst := some 2, op := Op.makeSlice 24 (Operand.const (Value.int IntKind.i64 3)) (Operand.const (Value.int IntKind.i64 3)), type := 24, pos := "l14_script.go:8", after := #[], guard := none }) rfl (fun K hK => ?_) ?_
    · rw [if_pos (by simp [Region.wanted])]
      have hm := mk3 W
      go_simp
      exact hK _ _ (H1234 x1 _ x3 x4 x5 _ f.make)
    exact AllReady.nil
  have H01 : ∀ (x1 x2 x3 x4 x5 : Value) (W : World), Fx V W true true false false false x1 x2 x3 x4 x5 → wpAny Tryd.prog .any opsregS Q 5 #[true, true, false, false, false, false, false] ⟨#[.pointer (some ⟨w.heap.size, 0, none⟩), x1, x2, x3, x4, x5, undef], []⟩ W := by
    intro x1 x2 x3 x4 x5 W f
    refine wpAny_ready (rs := [2, 3, 4]) (by kernel_rfl) (by simp) ?_
    refine AllReady.cons (o := { dst := some 3, op := Op.buildSlice 38 0 #[], type := 38, pos := "l14_script.go:8", after := #[], guard := none }) rfl (fun K hK => ?_) ?_
    · rw [if_pos (by simp [Region.wanted])]
      have hm := bs0 W
      go_simp
      exact hK _ _ (H012 x1 x2 _ x4 x5 _ ((f.alloc _).b2 _ _))
    refine AllReady.cons (o := { dst := some 4, op := Op.buildSlice 38 0 #[], type := 38, pos := "l14_script.go:8", after := #[], guard := none }) rfl (fun K hK => ?_) ?_
    · rw [if_pos (by simp [Region.wanted])]
      have hm := bs0 W
      go_simp
      exact hK _ _ (H013 x1 x2 x3 _ x5 _ ((f.alloc _).b3 _ _))
    refine AllReady.cons (o := { dst := some 5, op := Op.buildSlice 38 0 #[], type := 38, pos := "l14_script.go:8", after := #[], guard := none }) rfl (fun K hK => ?_) ?_
    · rw [if_pos (by simp [Region.wanted])]
      have hm := bs0 W
      go_simp
      exact hK _ _ (H014 x1 x2 x3 x4 _ _ ((f.alloc _).b4 _ _))
    exact AllReady.nil
  have H02 : ∀ (x1 x2 x3 x4 x5 : Value) (W : World), Fx V W true false true false false x1 x2 x3 x4 x5 → wpAny Tryd.prog .any opsregS Q 5 #[true, false, true, false, false, false, false] ⟨#[.pointer (some ⟨w.heap.size, 0, none⟩), x1, x2, x3, x4, x5, undef], []⟩ W := by
    intro x1 x2 x3 x4 x5 W f
    refine wpAny_ready (rs := [1, 3, 4]) (by kernel_rfl) (by simp) ?_
    refine AllReady.cons (o := { dst := some 2, op := Op.makeSlice 24 (Operand.const (Value.int IntKind.i64 3)) (Operand.const (Value.int IntKind.i64 3)), type := 24, pos := "l14_script.go:8", after := #[], guard := none }) rfl (fun K hK => ?_) ?_
    · rw [if_pos (by simp [Region.wanted])]
      have hm := mk3 W
      go_simp
      exact hK _ _ (H012 x1 _ x3 x4 x5 _ f.make)
    refine AllReady.cons (o := { dst := some 4, op := Op.buildSlice 38 0 #[], type := 38, pos := "l14_script.go:8", after := #[], guard := none }) rfl (fun K hK => ?_) ?_
    · rw [if_pos (by simp [Region.wanted])]
      have hm := bs0 W
      go_simp
      exact hK _ _ (H023 x1 x2 x3 _ x5 _ ((f.alloc _).b3 _ _))
    refine AllReady.cons (o := { dst := some 5, op := Op.buildSlice 38 0 #[], type := 38, pos := "l14_script.go:8", after := #[], guard := none }) rfl (fun K hK => ?_) ?_
    · rw [if_pos (by simp [Region.wanted])]
      have hm := bs0 W
      go_simp
      exact hK _ _ (H024 x1 x2 x3 x4 _ _ ((f.alloc _).b4 _ _))
    exact AllReady.nil
  have H12 : ∀ (x1 x2 x3 x4 x5 : Value) (W : World), Fx V W false true true false false x1 x2 x3 x4 x5 → wpAny Tryd.prog .any opsregS Q 5 #[false, true, true, false, false, false, false] ⟨#[.pointer (some ⟨w.heap.size, 0, none⟩), x1, x2, x3, x4, x5, undef], []⟩ W := by
    intro x1 x2 x3 x4 x5 W f
    refine wpAny_ready (rs := [0, 3, 4]) (by kernel_rfl) (by simp) ?_
    refine AllReady.cons (o := { dst := some 1, op := Op.call { callee := Callee.value (Operand.func 10), args := #[], argTypes := #[] }, type := 37, pos := "l14_script.go:8", after := #[], guard := none }) rfl (fun K hK => ?_) ?_
    · rw [if_pos (by simp [Region.wanted])]
      go_simp
      go_at_call 10
      refine (c_specNE _).mono ?_
      rintro e W1 ⟨⟨h, t, rfl, ow, lo⟩, hb⟩
      go_simp
      exact hK _ _ (H012 _ x2 x3 x4 x5 W1 (f.call ow lo hb))
    refine AllReady.cons (o := { dst := some 4, op := Op.buildSlice 38 0 #[], type := 38, pos := "l14_script.go:8", after := #[], guard := none }) rfl (fun K hK => ?_) ?_
    · rw [if_pos (by simp [Region.wanted])]
      have hm := bs0 W
      go_simp
      exact hK _ _ (H123 x1 x2 x3 _ x5 _ ((f.alloc _).b3 _ _))
    refine AllReady.cons (o := { dst := some 5, op := Op.buildSlice 38 0 #[], type := 38, pos := "l14_script.go:8", after := #[], guard := none }) rfl (fun K hK => ?_) ?_
    · rw [if_pos (by simp [Region.wanted])]
      have hm := bs0 W
      go_simp
      exact hK _ _ (H124 x1 x2 x3 x4 _ _ ((f.alloc _).b4 _ _))
    exact AllReady.nil
  have H03 : ∀ (x1 x2 x3 x4 x5 : Value) (W : World), Fx V W true false false true false x1 x2 x3 x4 x5 → wpAny Tryd.prog .any opsregS Q 5 #[true, false, false, true, false, false, false] ⟨#[.pointer (some ⟨w.heap.size, 0, none⟩), x1, x2, x3, x4, x5, undef], []⟩ W := by
    intro x1 x2 x3 x4 x5 W f
    refine wpAny_ready (rs := [1, 2, 4]) (by kernel_rfl) (by simp) ?_
    refine AllReady.cons (o := { dst := some 2, op := Op.makeSlice 24 (Operand.const (Value.int IntKind.i64 3)) (Operand.const (Value.int IntKind.i64 3)), type := 24, pos := "l14_script.go:8", after := #[], guard := none }) rfl (fun K hK => ?_) ?_
    · rw [if_pos (by simp [Region.wanted])]
      have hm := mk3 W
      go_simp
      exact hK _ _ (H013 x1 _ x3 x4 x5 _ f.make)
    refine AllReady.cons (o := { dst := some 3, op := Op.buildSlice 38 0 #[], type := 38, pos := "l14_script.go:8", after := #[], guard := none }) rfl (fun K hK => ?_) ?_
    · rw [if_pos (by simp [Region.wanted])]
      have hm := bs0 W
      go_simp
      exact hK _ _ (H023 x1 x2 _ x4 x5 _ ((f.alloc _).b2 _ _))
    refine AllReady.cons (o := { dst := some 5, op := Op.buildSlice 38 0 #[], type := 38, pos := "l14_script.go:8", after := #[], guard := none }) rfl (fun K hK => ?_) ?_
    · rw [if_pos (by simp [Region.wanted])]
      have hm := bs0 W
      go_simp
      exact hK _ _ (H034 x1 x2 x3 x4 _ _ ((f.alloc _).b4 _ _))
    exact AllReady.nil
  have H13 : ∀ (x1 x2 x3 x4 x5 : Value) (W : World), Fx V W false true false true false x1 x2 x3 x4 x5 → wpAny Tryd.prog .any opsregS Q 5 #[false, true, false, true, false, false, false] ⟨#[.pointer (some ⟨w.heap.size, 0, none⟩), x1, x2, x3, x4, x5, undef], []⟩ W := by
    intro x1 x2 x3 x4 x5 W f
    refine wpAny_ready (rs := [0, 2, 4]) (by kernel_rfl) (by simp) ?_
    refine AllReady.cons (o := { dst := some 1, op := Op.call { callee := Callee.value (Operand.func 10), args := #[], argTypes := #[] }, type := 37, pos := "l14_script.go:8", after := #[], guard := none }) rfl (fun K hK => ?_) ?_
    · rw [if_pos (by simp [Region.wanted])]
      go_simp
      go_at_call 10
      refine (c_specNE _).mono ?_
      rintro e W1 ⟨⟨h, t, rfl, ow, lo⟩, hb⟩
      go_simp
      exact hK _ _ (H013 _ x2 x3 x4 x5 W1 (f.call ow lo hb))
    refine AllReady.cons (o := { dst := some 3, op := Op.buildSlice 38 0 #[], type := 38, pos := "l14_script.go:8", after := #[], guard := none }) rfl (fun K hK => ?_) ?_
    · rw [if_pos (by simp [Region.wanted])]
      have hm := bs0 W
      go_simp
      exact hK _ _ (H123 x1 x2 _ x4 x5 _ ((f.alloc _).b2 _ _))
    refine AllReady.cons (o := { dst := some 5, op := Op.buildSlice 38 0 #[], type := 38, pos := "l14_script.go:8", after := #[], guard := none }) rfl (fun K hK => ?_) ?_
    · rw [if_pos (by simp [Region.wanted])]
      have hm := bs0 W
      go_simp
      exact hK _ _ (H134 x1 x2 x3 x4 _ _ ((f.alloc _).b4 _ _))
    exact AllReady.nil
  have H23 : ∀ (x1 x2 x3 x4 x5 : Value) (W : World), Fx V W false false true true false x1 x2 x3 x4 x5 → wpAny Tryd.prog .any opsregS Q 5 #[false, false, true, true, false, false, false] ⟨#[.pointer (some ⟨w.heap.size, 0, none⟩), x1, x2, x3, x4, x5, undef], []⟩ W := by
    intro x1 x2 x3 x4 x5 W f
    refine wpAny_ready (rs := [0, 1, 4]) (by kernel_rfl) (by simp) ?_
    refine AllReady.cons (o := { dst := some 1, op := Op.call { callee := Callee.value (Operand.func 10), args := #[], argTypes := #[] }, type := 37, pos := "l14_script.go:8", after := #[], guard := none }) rfl (fun K hK => ?_) ?_
    · rw [if_pos (by simp [Region.wanted])]
      go_simp
      go_at_call 10
      refine (c_specNE _).mono ?_
      rintro e W1 ⟨⟨h, t, rfl, ow, lo⟩, hb⟩
      go_simp
      exact hK _ _ (H023 _ x2 x3 x4 x5 W1 (f.call ow lo hb))
    refine AllReady.cons (o := { dst := some 2, op := Op.makeSlice 24 (Operand.const (Value.int IntKind.i64 3)) (Operand.const (Value.int IntKind.i64 3)), type := 24, pos := "l14_script.go:8", after := #[], guard := none }) rfl (fun K hK => ?_) ?_
    · rw [if_pos (by simp [Region.wanted])]
      have hm := mk3 W
      go_simp
      exact hK _ _ (H123 x1 _ x3 x4 x5 _ f.make)
    refine AllReady.cons (o := { dst := some 5, op := Op.buildSlice 38 0 #[], type := 38, pos := "l14_script.go:8", after := #[], guard := none }) rfl (fun K hK => ?_) ?_
    · rw [if_pos (by simp [Region.wanted])]
      have hm := bs0 W
      go_simp
      exact hK _ _ (H234 x1 x2 x3 x4 _ _ ((f.alloc _).b4 _ _))
    exact AllReady.nil
  have H04 : ∀ (x1 x2 x3 x4 x5 : Value) (W : World), Fx V W true false false false true x1 x2 x3 x4 x5 → wpAny Tryd.prog .any opsregS Q 5 #[true, false, false, false, true, false, false] ⟨#[.pointer (some ⟨w.heap.size, 0, none⟩), x1, x2, x3, x4, x5, undef], []⟩ W := by
    intro x1 x2 x3 x4 x5 W f
    refine wpAny_ready (rs := [1, 2, 3]) (by kernel_rfl) (by simp) ?_
    refine AllReady.cons (o := { dst := some 2, op := Op.makeSlice 24 (Operand.const (Value.int IntKind.i64 3)) (Operand.const (Value.int IntKind.i64 3)), type := 24, pos := "l14_script.go:8", after := #[], guard := none }) rfl (fun K hK => ?_) ?_
    · rw [if_pos (by simp [Region.wanted])]
      have hm := mk3 W
      go_simp
      exact hK _ _ (H014 x1 _ x3 x4 x5 _ f.make)
    refine AllReady.cons (o := { dst := some 3, op := Op.buildSlice 38 0 #[], type := 38, pos := "l14_script.go:8", after := #[], guard := none }) rfl (fun K hK => ?_) ?_
    · rw [if_pos (by simp [Region.wanted])]
      have hm := bs0 W
      go_simp
      exact hK _ _ (H024 x1 x2 _ x4 x5 _ ((f.alloc _).b2 _ _))
    refine AllReady.cons (o := { dst := some 4, op := Op.buildSlice 38 0 #[], type := 38, pos := "l14_script.go:8", after := #[], guard := none }) rfl (fun K hK => ?_) ?_
    · rw [if_pos (by simp [Region.wanted])]
      have hm := bs0 W
      go_simp
      exact hK _ _ (H034 x1 x2 x3 _ x5 _ ((f.alloc _).b3 _ _))
    exact AllReady.nil
  have H14 : ∀ (x1 x2 x3 x4 x5 : Value) (W : World), Fx V W false true false false true x1 x2 x3 x4 x5 → wpAny Tryd.prog .any opsregS Q 5 #[false, true, false, false, true, false, false] ⟨#[.pointer (some ⟨w.heap.size, 0, none⟩), x1, x2, x3, x4, x5, undef], []⟩ W := by
    intro x1 x2 x3 x4 x5 W f
    refine wpAny_ready (rs := [0, 2, 3]) (by kernel_rfl) (by simp) ?_
    refine AllReady.cons (o := { dst := some 1, op := Op.call { callee := Callee.value (Operand.func 10), args := #[], argTypes := #[] }, type := 37, pos := "l14_script.go:8", after := #[], guard := none }) rfl (fun K hK => ?_) ?_
    · rw [if_pos (by simp [Region.wanted])]
      go_simp
      go_at_call 10
      refine (c_specNE _).mono ?_
      rintro e W1 ⟨⟨h, t, rfl, ow, lo⟩, hb⟩
      go_simp
      exact hK _ _ (H014 _ x2 x3 x4 x5 W1 (f.call ow lo hb))
    refine AllReady.cons (o := { dst := some 3, op := Op.buildSlice 38 0 #[], type := 38, pos := "l14_script.go:8", after := #[], guard := none }) rfl (fun K hK => ?_) ?_
    · rw [if_pos (by simp [Region.wanted])]
      have hm := bs0 W
      go_simp
      exact hK _ _ (H124 x1 x2 _ x4 x5 _ ((f.alloc _).b2 _ _))
    refine AllReady.cons (o := { dst := some 4, op := Op.buildSlice 38 0 #[], type := 38, pos := "l14_script.go:8", after := #[], guard := none }) rfl (fun K hK => ?_) ?_
    · rw [if_pos (by simp [Region.wanted])]
      have hm := bs0 W
      go_simp
      exact hK _ _ (H134 x1 x2 x3 _ x5 _ ((f.alloc _).b3 _ _))
    exact AllReady.nil
  have H24 : ∀ (x1 x2 x3 x4 x5 : Value) (W : World), Fx V W false false true false true x1 x2 x3 x4 x5 → wpAny Tryd.prog .any opsregS Q 5 #[false, false, true, false, true, false, false] ⟨#[.pointer (some ⟨w.heap.size, 0, none⟩), x1, x2, x3, x4, x5, undef], []⟩ W := by
    intro x1 x2 x3 x4 x5 W f
    refine wpAny_ready (rs := [0, 1, 3]) (by kernel_rfl) (by simp) ?_
    refine AllReady.cons (o := { dst := some 1, op := Op.call { callee := Callee.value (Operand.func 10), args := #[], argTypes := #[] }, type := 37, pos := "l14_script.go:8", after := #[], guard := none }) rfl (fun K hK => ?_) ?_
    · rw [if_pos (by simp [Region.wanted])]
      go_simp
      go_at_call 10
      refine (c_specNE _).mono ?_
      rintro e W1 ⟨⟨h, t, rfl, ow, lo⟩, hb⟩
      go_simp
      exact hK _ _ (H024 _ x2 x3 x4 x5 W1 (f.call ow lo hb))
    refine AllReady.cons (o := { dst := some 2, op := Op.makeSlice 24 (Operand.const (Value.int IntKind.i64 3)) (Operand.const (Value.int IntKind.i64 3)), type := 24, pos := "l14_script.go:8", after := #[], guard := none }) rfl (fun K hK => ?_) ?_
    · rw [if_pos (by simp [Region.wanted])]
      have hm := mk3 W
      go_simp
      exact hK _ _ (H124 x1 _ x3 x4 x5 _ f.make)
    refine AllReady.cons (o := { dst := some 4, op := Op.buildSlice 38 0 #[], type := 38, pos := "l14_script.go:8", after := #[], guard := none }) rfl (fun K hK => ?_) ?_
    · rw [if_pos (by simp [Region.wanted])]
      have hm := bs0 W
      go_simp
      exact hK _ _ (H234 x1 x2 x3 _ x5 _ ((f.alloc _).b3 _ _))
    exact AllReady.nil
  have H34 : ∀ (x1 x2 x3 x4 x5 : Value) (W : World), Fx V W false false false true true x1 x2 x3 x4 x5 → wpAny Tryd.prog .any opsregS Q 5 #[false, false, false, true, true, false, false] ⟨#[.pointer (some ⟨w.heap.size, 0, none⟩), x1, x2, x3, x4, x5, undef], []⟩ W := by
    intro x1 x2 x3 x4 x5 W f
    refine wpAny_ready (rs := [0, 1, 2]) (by kernel_rfl) (by simp) ?_
    refine AllReady.cons (o := { dst := some 1, op := Op.call { callee := Callee.value (Operand.func 10), args := #[], argTypes := #[] }, type := 37, pos := "l14_script.go:8", after := #[], guard := none }) rfl (fun K hK => ?_) ?_
    · rw [if_pos (by simp [Region.wanted])]
      go_simp
      go_at_call 10
      refine (c_specNE _).mono ?_
      rintro e W1 ⟨⟨h, t, rfl, ow, lo⟩, hb⟩
      go_simp
      exact hK _ _ (H034 _ x2 x3 x4 x5 W1 (f.call ow lo hb))
    refine AllReady.cons (o := { dst := some 2, op := Op.makeSlice 24 (Operand.const (Value.int IntKind.i64 3)) (Operand.const (Value.int IntKind.i64 3)), type := 24, pos := "l14_script.go:8", after := #[], guard := none }) rfl (fun K hK => ?_) ?_
    · rw [if_pos (by simp [Region.wanted])]
      have hm := mk3 W
      go_simp
      exact hK _ _ (H134 x1 _ x3 x4 x5 _ f.make)
    refine AllReady.cons (o := { dst := some 3, op := Op.buildSlice 38 0 #[], type := 38, pos := "l14_script.go:8", after := #[], guard := none }) rfl (fun K hK => ?_) ?_
    · rw [if_pos (by simp [Region.wanted])]
      have hm := bs0 W
      go_simp
      exact hK _ _ (H234 x1 x2 _ x4 x5 _ ((f.alloc _).b2 _ _))
    exact AllReady.nil
  have H0 : ∀ (x1 x2 x3 x4 x5 : Value) (W : World), Fx V W true false false false false x1 x2 x3 x4 x5 → wpAny Tryd.prog .any opsregS Q 6 #[true, false, false, false, false, false, false] ⟨#[.pointer (some ⟨w.heap.size, 0, none⟩), x1, x2, x3, x4, x5, undef], []⟩ W := by
    intro x1 x2 x3 x4 x5 W f
    refine wpAny_ready (rs := [1, 2, 3, 4]) (by kernel_rfl) (by simp) ?_
    refine AllReady.cons (o := { dst := some 2, op := Op.makeSlice 24 (Operand.const (Value.int IntKind.i64 3)) (Operand.const (Value.int IntKind.i64 3)), type := 24, pos := "l14_script.go:8", after := #[], guard := none }) rfl (fun K hK => ?_) ?_
    · rw [if_pos (by simp [Region.wanted])]
      have hm := mk3 W
      go_simp
      exact hK _ _ (H01 x1 _ x3 x4 x5 _ f.make)
    refine AllReady.cons (o := { dst := some 3, op := Op.buildSlice 38 0 #[], type := 38, pos := "l14_script.go:8", after := #[], guard := none }) rfl (fun K hK => ?_) ?_
    · rw [if_pos (by simp [Region.wanted])]
      have hm := bs0 W
      go_simp
      exact hK _ _ (H02 x1 x2 _ x4 x5 _ ((f.alloc _).b2 _ _))
    refine AllReady.cons (o := { dst := some 4, op := Op.buildSlice 38 0 #[], type := 38, pos := "l14_script.go:8", after := #[], guard := none }) rfl (fun K hK => ?_) ?_
    · rw [if_pos (by simp [Region.wanted])]
      have hm := bs0 W
      go_simp
      exact hK _ _ (H03 x1 x2 x3 _ x5 _ ((f.alloc _).b3 _ _))
    refine AllReady.cons (o := { dst := some 5, op := Op.buildSlice 38 0 #[], type := 38, pos := "l14_script.go:8", after := #[], guard := none }) rfl (fun K hK => ?_) ?_
    · rw [if_pos (by simp [Region.wanted])]
      have hm := bs0 W
      go_simp
      exact hK _ _ (H04 x1 x2 x3 x4 _ _ ((f.alloc _).b4 _ _))
    exact AllReady.nil
  have H1 : ∀ (x1 x2 x3 x4 x5 : Value) (W : World), Fx V W false true false false false x1 x2 x3 x4 x5 → wpAny Tryd.prog .any opsregS Q 6 #[false, true, false, false, false, false, false] ⟨#[.pointer (some ⟨w.heap.size, 0, none⟩), x1, x2, x3, x4, x5, undef], []⟩ W := by
    intro x1 x2 x3 x4 x5 W f
    refine wpAny_ready (rs := [0, 2, 3, 4]) (by kernel_rfl) (by simp) ?_
    refine AllReady.cons (o := { dst := some 1, op := Op.call { callee := Callee.value (Operand.func 10), args := #[], argTypes := #[] }, type := 37, pos := "l14_script.go:8", after := #[], guard := none }) rfl (fun K hK => ?_) ?_
    · rw [if_pos (by simp [Region.wanted])]
      go_simp
      go_at_call 10
      refine (c_specNE _).mono ?_
      rintro e W1 ⟨⟨h, t, rfl, ow, lo⟩, hb⟩
      go_simp
      exact hK _ _ (H01 _ x2 x3 x4 x5 W1 (f.call ow lo hb))
    refine AllReady.cons (o := { dst := some 3, op := Op.buildSlice 38 0 #[], type := 38, pos := "l14_script.go:8", after := #[], guard := none }) rfl (fun K hK => ?_) ?_
    · rw [if_pos (by simp [Region.wanted])]
      have hm := bs0 W
      go_simp
      exact hK _ _ (H12 x1 x2 _ x4 x5 _ ((f.alloc _).b2 _ _))
    refine AllReady.cons (o := { dst := some 4, op := Op.buildSlice 38 0 #[], type := 38, pos := "l14_script.go:8", after := #[], guard := none }) rfl (fun K hK => ?_) ?_
    · rw [if_pos (by simp [Region.wanted])]
      have hm := bs0 W
      go_simp
      exact hK _ _ (H13 x1 x2 x3 _ x5 _ ((f.alloc _).b3 _ _))
    refine AllReady.cons (o := { dst := some 5, op := Op.buildSlice 38 0 #[], type := 38, pos := "l14_script.go:8", after := #[], guard := none }) rfl (fun K hK => ?_) ?_
    · rw [if_pos (by simp [Region.wanted])]
      have hm := bs0 W
      go_simp
      exact hK _ _ (H14 x1 x2 x3 x4 _ _ ((f.alloc _).b4 _ _))
    exact AllReady.nil
  have H2 : ∀ (x1 x2 x3 x4 x5 : Value) (W : World), Fx V W false false true false false x1 x2 x3 x4 x5 → wpAny Tryd.prog .any opsregS Q 6 #[false, false, true, false, false, false, false] ⟨#[.pointer (some ⟨w.heap.size, 0, none⟩), x1, x2, x3, x4, x5, undef], []⟩ W := by
    intro x1 x2 x3 x4 x5 W f
    refine wpAny_ready (rs := [0, 1, 3, 4]) (by kernel_rfl) (by simp) ?_
    refine AllReady.cons (o := { dst := some 1, op := Op.call { callee := Callee.value (Operand.func 10), args := #[], argTypes := #[] }, type := 37, pos := "l14_script.go:8", after := #[], guard := none }) rfl (fun K hK => ?_) ?_
    · rw [if_pos (by simp [Region.wanted])]
      go_simp
      go_at_call 10
      refine (c_specNE _).mono ?_
      rintro e W1 ⟨⟨h, t, rfl, ow, lo⟩, hb⟩
      go_simp
      exact hK _ _ (H02 _ x2 x3 x4 x5 W1 (f.call ow lo hb))
    refine AllReady.cons (o := { dst := some 2, op := Op.makeSlice 24 (Operand.const (Value.int IntKind.i64 3)) (Operand.const (Value.int IntKind.i64 3)), type := 24, pos := "l14_script.go:8", after := #[], guard := none }) rfl (fun K hK => ?_) ?_
    · rw [if_pos (by simp [Region.wanted])]
      have hm := mk3 W
      go_simp
      exact hK _ _ (H12 x1 _ x3 x4 x5 _ f.make)
    refine AllReady.cons (o := { dst := some 4, op := Op.buildSlice 38 0 #[], type := 38, pos := "l14_script.go:8", after := #[], guard := none }) rfl (fun K hK => ?_) ?_
    · rw [if_pos (by simp [Region.wanted])]
      have hm := bs0 W
      go_simp
      exact hK _ _ (H23 x1 x2 x3 _ x5 _ ((f.alloc _).b3 _ _))
    refine AllReady.cons (o := { dst := some 5, op := Op.buildSlice 38 0 #[], type := 38, pos := "l14_script.go:8", after := #[], guard := none }) rfl (fun K hK => ?_) ?_
    · rw [if_pos (by simp [Region.wanted])]
      have hm := bs0 W
      go_simp
      exact hK _ _ (H24 x1 x2 x3 x4 _ _ ((f.alloc _).b4 _ _))
    exact AllReady.nil
  have H3 : ∀ (x1 x2 x3 x4 x5 : Value) (W : World), Fx V W false false false true false x1 x2 x3 x4 x5 → wpAny Tryd.prog .any opsregS Q 6 #[false, false, false, true, false, false, false] ⟨#[.pointer (some ⟨w.heap.size, 0, none⟩), x1, x2, x3, x4, x5, undef], []⟩ W := by
    intro x1 x2 x3 x4 x5 W f
    refine wpAny_ready (rs := [0, 1, 2, 4]) (by kernel_rfl) (by simp) ?_
    refine AllReady.cons (o := { dst := some 1, op := Op.call { callee := Callee.value (Operand.func 10), args := #[], argTypes := #[] }, type := 37, pos := "l14_script.go:8", after := #[], guard := none }) rfl (fun K hK => ?_) ?_
    · rw [if_pos (by simp [Region.wanted])]
      go_simp
      go_at_call 10
      refine (c_specNE _).mono ?_
      rintro e W1 ⟨⟨h, t, rfl, ow, lo⟩, hb⟩
      go_simp
      exact hK _ _ (H03 _ x2 x3 x4 x5 W1 (f.call ow lo hb))
    refine AllReady.cons (o := { dst := some 2, op := Op.makeSlice 24 (Operand.const (Value.int IntKind.i64 3)) (Operand.const (Value.int IntKind.i64 3)), type := 24, pos := "l14_script.go:8", after := #[], guard := none }) rfl (fun K hK => ?_) ?_
    · rw [if_pos (by simp [Region.wanted])]
      have hm := mk3 W
      go_simp
      exact hK _ _ (H13 x1 _ x3 x4 x5 _ f.make)
    refine AllReady.cons (o := { dst := some 3, op := Op.buildSlice 38 0 #[], type := 38, pos := "l14_script.go:8", after := #[], guard := none }) rfl (fun K hK => ?_) ?_
    · rw [if_pos (by simp [Region.wanted])]
      have hm := bs0 W
      go_simp
      exact hK _ _ (H23 x1 x2 _ x4 x5 _ ((f.alloc _).b2 _ _))
    refine AllReady.cons (o := { dst := some 5, op := Op.buildSlice 38 0 #[], type := 38, pos := "l14_script.go:8", after := #[], guard := none }) rfl (fun K hK => ?_) ?_
    · rw [if_pos (by simp [Region.wanted])]
      have hm := bs0 W
      go_simp
      exact hK _ _ (H34 x1 x2 x3 x4 _ _ ((f.alloc _).b4 _ _))
    exact AllReady.nil
  have H4 : ∀ (x1 x2 x3 x4 x5 : Value) (W : World), Fx V W false false false false true x1 x2 x3 x4 x5 → wpAny Tryd.prog .any opsregS Q 6 #[false, false, false, false, true, false, false] ⟨#[.pointer (some ⟨w.heap.size, 0, none⟩), x1, x2, x3, x4, x5, undef], []⟩ W := by
    intro x1 x2 x3 x4 x5 W f
    refine wpAny_ready (rs := [0, 1, 2, 3]) (by kernel_rfl) (by simp) ?_
    refine AllReady.cons (o := { dst := some 1, op := Op.call { callee := Callee.value (Operand.func 10), args := #[], argTypes := #[] }, type := 37, pos := "l14_script.go:8", after := #[], guard := none }) rfl (fun K hK => ?_) ?_
    · rw [if_pos (by simp [Region.wanted])]
      go_simp
      go_at_call 10
      refine (c_specNE _).mono ?_
      rintro e W1 ⟨⟨h, t, rfl, ow, lo⟩, hb⟩
      go_simp
      exact hK _ _ (H04 _ x2 x3 x4 x5 W1 (f.call ow lo hb))
    refine AllReady.cons (o := { dst := some 2, op := Op.makeSlice 24 (Operand.const (Value.int IntKind.i64 3)) (Operand.const (Value.int IntKind.i64 3)), type := 24, pos := "l14_script.go:8", after := #[], guard := none }) rfl (fun K hK => ?_) ?_
    · rw [if_pos (by simp [Region.wanted])]
      have hm := mk3 W
      go_simp
      exact hK _ _ (H14 x1 _ x3 x4 x5 _ f.make)
    refine AllReady.cons (o := { dst := some 3, op := Op.buildSlice 38 0 #[], type := 38, pos := "l14_script.go:8", after := #[], guard := none }) rfl (fun K hK => ?_) ?_
    · rw [if_pos (by simp [Region.wanted])]
      have hm := bs0 W
      go_simp
      exact hK _ _ (H24 x1 x2 _ x4 x5 _ ((f.alloc _).b2 _ _))
    refine AllReady.cons (o := { dst := some 4, op := Op.buildSlice 38 0 #[], type := 38, pos := "l14_script.go:8", after := #[], guard := none }) rfl (fun K hK => ?_) ?_
    · rw [if_pos (by simp [Region.wanted])]
      have hm := bs0 W
      go_simp
      exact hK _ _ (H34 x1 x2 x3 _ x5 _ ((f.alloc _).b3 _ _))
    exact AllReady.nil
  have HE : ∀ (x1 x2 x3 x4 x5 : Value) (W : World), Fx V W false false false false false x1 x2 x3 x4 x5 → wpAny Tryd.prog .any opsregS Q 7 #[false, false, false, false, false, false, false] ⟨#[.pointer (some ⟨w.heap.size, 0, none⟩), x1, x2, x3, x4, x5, undef], []⟩ W := by
    intro x1 x2 x3 x4 x5 W f
    refine wpAny_ready (rs := [0, 1, 2, 3, 4]) (by kernel_rfl) (by simp) ?_
    refine AllReady.cons (o := { dst := some 1, op := Op.call { callee := Callee.value (Operand.func 10), args := #[], argTypes := #[] }, type := 37, pos := "l14_script.go:8", after := #[], guard := none }) rfl (fun K hK => ?_) ?_
    · rw [if_pos (by simp [Region.wanted])]
      go_simp
      go_at_call 10
      refine (c_specNE _).mono ?_
      rintro e W1 ⟨⟨h, t, rfl, ow, lo⟩, hb⟩
      go_simp
      exact hK _ _ (H0 _ x2 x3 x4 x5 W1 (f.call ow lo hb))
    refine AllReady.cons (o := { dst := some 2, op := Op.makeSlice 24 (Operand.const (Value.int IntKind.i64 3)) (Operand.const (Value.int IntKind.i64 3)), type := 24, pos := "l14_script.go:8", after := #[], guard := none }) rfl (fun K hK => ?_) ?_
    · rw [if_pos (by simp [Region.wanted])]
      have hm := mk3 W
      go_simp
      exact hK _ _ (H1 x1 _ x3 x4 x5 _ f.make)
    refine AllReady.cons (o := { dst := some 3, op := Op.buildSlice 38 0 #[], type := 38, pos := "l14_script.go:8", after := #[], guard := none }) rfl (fun K hK => ?_) ?_
    · rw [if_pos (by simp [Region.wanted])]
      have hm := bs0 W
      go_simp
      exact hK _ _ (H2 x1 x2 _ x4 x5 _ ((f.alloc _).b2 _ _))
    refine AllReady.cons (o := { dst := some 4, op := Op.buildSlice 38 0 #[], type := 38, pos := "l14_script.go:8", after := #[], guard := none }) rfl (fun K hK => ?_) ?_
    · rw [if_pos (by simp [Region.wanted])]
      have hm := bs0 W
      go_simp
      exact hK _ _ (H3 x1 x2 x3 _ x5 _ ((f.alloc _).b3 _ _))
    refine AllReady.cons (o := { dst := some 5, op := Op.buildSlice 38 0 #[], type := 38, pos := "l14_script.go:8", after := #[], guard := none }) rfl (fun K hK => ?_) ?_
    · rw [if_pos (by simp [Region.wanted])]
      have hm := bs0 W
      go_simp
      exact hK _ _ (H4 x1 x2 x3 x4 _ _ ((f.alloc _).b4 _ _))
    exact AllReady.nil
  exact HE undef undef undef undef undef V.drew ⟨(Below.refl _ _).drew, ⟨none, 0, none, 0, none, 0, none, 0, none, 0⟩, ⟨none, 0, none, 0, none, 0⟩, 0, 0, 0, (fun k => (by cases k)), (fun k => (by cases k)), (fun k => (by cases k)), (fun k => (by cases k)), (fun k => (by cases k)), (fun k => (by cases k))⟩
set_option maxRecDepth 100000 in
set_option maxHeartbeats 8000000 in
theorem c_specNW (w : World) : Calls Tryd.prog 5 #[] w fun e w' => AnsW w e w' ∧ Below w.heap.size w w' := by
  obtain ⟨V, hV⟩ : ∃ Q, w.alloc (.cells #[.slice none 0 0, .slice none 0 0, .bool false, .slice none 0 0, .int .i64 0, .slice none 0 0, .int .i64 0, .slice none 0 0, .int .i64 0, .bool false, .slice none 0 0, .slice none 0 0, .slice none 0 0, .int .i64 0, .slice none 0 0, .slice none 0 0, .slice none 0 0, .slice none 0 0, .bool false] 40) = Q := ⟨_, rfl⟩
  have bV : Below w.heap.size w V := by rw [← hV]; exact (Below.refl _ _).alloc (Nat.le_refl _) _
  have XV : Hid (Box V w.heap.size 40 #[.slice none 0 0, .slice none 0 0, .bool false, .slice none 0 0, .int .i64 0, .slice none 0 0, .int .i64 0, .slice none 0 0, .int .i64 0, .bool false, .slice none 0 0, .slice none 0 0, .slice none 0 0, .int .i64 0, .slice none 0 0, .slice none 0 0, .slice none 0 0, .slice none 0 0, .bool false]) := by unfold Hid; rw [← hV]; exact Box.new _ _ _
  have BV : Hid (Below w.heap.size w V) := bV
  have lV : w.heap.size < V.heap.size := XV.out.lt
  have HBX : Hid (∀ W : World, Below V.heap.size V W → Box W w.heap.size 40 #[.slice none 0 0, .slice none 0 0, .bool false, .slice none 0 0, .int .i64 0, .slice none 0 0, .int .i64 0, .slice none 0 0, .int .i64 0, .bool false, .slice none 0 0, .slice none 0 0, .slice none 0 0, .int .i64 0, .slice none 0 0, .slice none 0 0, .slice none 0 0, .slice none 0 0, .bool false]) := fun W hW => XV.out.belowS hW
  clear bV XV
  go_enter Tryd.func5, Tryd.ntmps5
  go_wp2_with fail
  refine wp_region_any (by kernel_rfl) ?_
  refine regS w V _ HBX ?_
  intro h t B E gs a3 c3 a4 c4 a5 c5 W f0 k1 k2 k3 k4 k5 k6 k7
  have X := HBX.out W f0
  have B1 : Hid (Below w.heap.size w W) := BV.out.trans (f0.mono BV.out.size)
  have gr := fun c => grown_setRow W w.heap.size c
  have hne : ∀ k, V.heap.size ≤ k → k ≠ w.heap.size := fun k hk => by omega
  go_wp2
  refine retW Tryd.results5 rfl rfl (setRow_heap W w.heap.size _ _ 40 _ X) ⟨⟨h, t, ⟨gs, a3, c3, a4, c4, a5, c5⟩, B, E, rfl, by omega, Nat.le_trans k2 (gr _).size, own_same k3 (fun k e => heap_setRow _ _ _ _ (hne k (Nat.le_trans k1 (k3.lt k e).1))), k4, (by show w.heap.size ≤ gs; omega), k7, (heap_setRow _ _ _ _ (hne gs k5)).trans k6⟩, B1.out.grown (gr _) B1.out.size (fun x hx => by cases hx; exact Nat.le_refl _)⟩

end Go.Proofs.YtlocgbjdnfnilaaDoor
