/-
  Engines as they are made: their lists alike, marked, held.
-/
import Derived.Test.YtlocgbjdnfnilaaDoorNv
import Derived.Test.YtlocgbjdnfnilaaDoorNw
namespace Go.Proofs.YtlocgbjdnfnilaaDoor
open Go Go.RowKit
attribute [local go_sem ↓] Go.wp_at_zero Go.wp_at_succ

set_option maxRecDepth 100000 in
set_option maxHeartbeats 2000000 in
theorem c_eqTx0 (a a' : Option Addr) (c c' : Nat) (w : World) :
    Calls Tryd.prog 24 #[.slice a 0 c, .slice a' 0 c'] w fun e w' => e = .returned (.bool true) ∧ w' = w := by
  go_enter Tryd.func24, Tryd.ntmps24
  go_wp2
  go_loop [5] (fun i => i = .int .i64 0) (fun _ => 0)
  case atStart => rfl
  case round =>
    obtain rfl := hrel
    go_wp2
    go_ret
    exact ⟨rfl, rfl⟩
set_option maxRecDepth 100000 in
set_option maxHeartbeats 2000000 in
theorem c_markTx0 (a : Option Addr) (c : Nat) (k : Int) (w : World) :
    Calls Tryd.prog 27 #[.slice a 0 c, .int .i64 k] w fun e w' => e = .returned (.int .i64 k) ∧ w' = w := by
  go_enter Tryd.func27, Tryd.ntmps27
  go_wp2
  go_loop [1, 5] (fun x i => x = .int .i64 k ∧ i = .int .i64 0) (fun _ _ => 0)
  case atStart => exact ⟨rfl, rfl⟩
  case round =>
    obtain ⟨rfl, rfl⟩ := hrel
    go_wp2
    go_ret
    exact ⟨rfl, rfl⟩
set_option maxRecDepth 100000 in
set_option maxHeartbeats 2000000 in
theorem c_heldTx0 (a : Option Addr) (c : Nat) (k : Int) (w : World) :
    Calls Tryd.prog 30 #[.slice a 0 c, .int .i64 k] w fun e w' => e = .returned (.int .i64 k) ∧ w' = w := by
  go_enter Tryd.func30, Tryd.ntmps30
  go_wp2
  go_loop [1, 5] (fun x i => x = .int .i64 k ∧ i = .int .i64 0) (fun _ _ => 0)
  case atStart => exact ⟨rfl, rfl⟩
  case round =>
    obtain ⟨rfl, rfl⟩ := hrel
    go_wp2
    go_ret
    exact ⟨rfl, rfl⟩
set_option maxRecDepth 100000 in
set_option maxHeartbeats 2000000 in
theorem c_eqLock0 (a a' : Option Addr) (c c' : Nat) (w : World) :
    Calls Tryd.prog 41 #[.slice a 0 c, .slice a' 0 c'] w fun e w' => e = .returned (.bool true) ∧ w' = w := by
  go_enter Tryd.func41, Tryd.ntmps41
  go_wp2
  go_loop [5] (fun i => i = .int .i64 0) (fun _ => 0)
  case atStart => rfl
  case round =>
    obtain rfl := hrel
    go_wp2
    go_ret
    exact ⟨rfl, rfl⟩
set_option maxRecDepth 100000 in
set_option maxHeartbeats 2000000 in
theorem c_markLock0 (a : Option Addr) (c : Nat) (k : Int) (w : World) :
    Calls Tryd.prog 46 #[.slice a 0 c, .int .i64 k] w fun e w' => e = .returned (.int .i64 k) ∧ w' = w := by
  go_enter Tryd.func46, Tryd.ntmps46
  go_wp2
  go_loop [1, 5] (fun x i => x = .int .i64 k ∧ i = .int .i64 0) (fun _ _ => 0)
  case atStart => exact ⟨rfl, rfl⟩
  case round =>
    obtain ⟨rfl, rfl⟩ := hrel
    go_wp2
    go_ret
    exact ⟨rfl, rfl⟩
set_option maxRecDepth 100000 in
set_option maxHeartbeats 2000000 in
theorem c_heldLock0 (a : Option Addr) (c : Nat) (k : Int) (w : World) :
    Calls Tryd.prog 51 #[.slice a 0 c, .int .i64 k] w fun e w' => e = .returned (.int .i64 k) ∧ w' = w := by
  go_enter Tryd.func51, Tryd.ntmps51
  go_wp2
  go_loop [1, 5] (fun x i => x = .int .i64 k ∧ i = .int .i64 0) (fun _ _ => 0)
  case atStart => exact ⟨rfl, rfl⟩
  case round =>
    obtain ⟨rfl, rfl⟩ := hrel
    go_wp2
    go_ret
    exact ⟨rfl, rfl⟩
set_option maxRecDepth 100000 in
set_option maxHeartbeats 2000000 in
theorem c_eqWait0 (a a' : Option Addr) (c c' : Nat) (w : World) :
    Calls Tryd.prog 42 #[.slice a 0 c, .slice a' 0 c'] w fun e w' => e = .returned (.bool true) ∧ w' = w := by
  go_enter Tryd.func42, Tryd.ntmps42
  go_wp2
  go_loop [5] (fun i => i = .int .i64 0) (fun _ => 0)
  case atStart => rfl
  case round =>
    obtain rfl := hrel
    go_wp2
    go_ret
    exact ⟨rfl, rfl⟩
set_option maxRecDepth 100000 in
set_option maxHeartbeats 2000000 in
theorem c_markWait0 (a : Option Addr) (c : Nat) (k : Int) (w : World) :
    Calls Tryd.prog 47 #[.slice a 0 c, .int .i64 k] w fun e w' => e = .returned (.int .i64 k) ∧ w' = w := by
  go_enter Tryd.func47, Tryd.ntmps47
  go_wp2
  go_loop [1, 5] (fun x i => x = .int .i64 k ∧ i = .int .i64 0) (fun _ _ => 0)
  case atStart => exact ⟨rfl, rfl⟩
  case round =>
    obtain ⟨rfl, rfl⟩ := hrel
    go_wp2
    go_ret
    exact ⟨rfl, rfl⟩
set_option maxRecDepth 100000 in
set_option maxHeartbeats 2000000 in
theorem c_heldWait0 (a : Option Addr) (c : Nat) (k : Int) (w : World) :
    Calls Tryd.prog 52 #[.slice a 0 c, .int .i64 k] w fun e w' => e = .returned (.int .i64 k) ∧ w' = w := by
  go_enter Tryd.func52, Tryd.ntmps52
  go_wp2
  go_loop [1, 5] (fun x i => x = .int .i64 k ∧ i = .int .i64 0) (fun _ _ => 0)
  case atStart => exact ⟨rfl, rfl⟩
  case round =>
    obtain ⟨rfl, rfl⟩ := hrel
    go_wp2
    go_ret
    exact ⟨rfl, rfl⟩
structure HX where
  a5 : Option Addr
  c5 : Nat
  a6 : Option Addr
  c6 : Nat
  a7 : Option Addr
  c7 : Nat
set_option maxRecDepth 100000 in
set_option maxHeartbeats 2000000 in
theorem c_eqL0 (t t' : HX) (w : World) :
    Calls Tryd.prog 25 #[.agg #[.slice t.a6 0 t.c6, .slice t.a7 0 t.c7], .agg #[.slice t'.a6 0 t'.c6, .slice t'.a7 0 t'.c7]] w fun e w' => e = .returned (.bool true) ∧ Below w.heap.size w w' := by
  obtain ⟨V0, hV0⟩ : ∃ Q, w.alloc (.cells #[.slice t.a6 0 t.c6, .slice t.a7 0 t.c7] 35) = Q := ⟨_, rfl⟩
  have bV0 : Below w.heap.size w V0 := by rw [← hV0]; exact (Below.refl _ _).alloc (Nat.le_refl _) _
  have XV0 : Hid (Box V0 w.heap.size 35 #[.slice t.a6 0 t.c6, .slice t.a7 0 t.c7]) := by unfold Hid; rw [← hV0]; exact Box.new _ _ _
  obtain ⟨V, hV⟩ : ∃ Q, V0.alloc (.cells #[.slice t'.a6 0 t'.c6, .slice t'.a7 0 t'.c7] 35) = Q := ⟨_, rfl⟩
  have bV : Below V0.heap.size V0 V := by rw [← hV]; exact (Below.refl _ _).alloc (Nat.le_refl _) _
  have XV : Hid (Box V V0.heap.size 35 #[.slice t'.a6 0 t'.c6, .slice t'.a7 0 t'.c7]) := by unfold Hid; rw [← hV]; exact Box.new _ _ _
  have BV : Hid (Below w.heap.size w V) := bV0.trans (bV.mono bV0.size)
  have x0 : V.cell? ⟨w.heap.size, 0, none⟩ = some (.slice t.a6 0 t.c6) := (XV0.out.belowS bV).cell 0
  have x1 : V.cell? ⟨w.heap.size, 1, none⟩ = some (.slice t.a7 0 t.c7) := (XV0.out.belowS bV).cell 1
  have y0 : V.cell? ⟨V0.heap.size, 0, none⟩ = some (.slice t'.a6 0 t'.c6) := XV.out.cell 0
  have y1 : V.cell? ⟨V0.heap.size, 1, none⟩ = some (.slice t'.a7 0 t'.c7) := XV.out.cell 1
  clear bV0 bV
  go_enter Tryd.func25, Tryd.ntmps25
  go_wp2_with (first | (go_at_call 41; refine (c_eqLock0 _ _ _ _ _).mono ?_; rintro e w' ⟨rfl, hq⟩; have hq' := hq.symm; subst hq'; clear hq) | (go_at_call 42; refine (c_eqWait0 _ _ _ _ _).mono ?_; rintro e w' ⟨rfl, hq⟩; have hq' := hq.symm; subst hq'; clear hq))
  go_ret
  exact ⟨rfl, BV.out⟩
set_option maxRecDepth 100000 in
set_option maxHeartbeats 2000000 in
theorem c_markL0 (t : HX) (w : World) :
    Calls Tryd.prog 28 #[.agg #[.slice t.a6 0 t.c6, .slice t.a7 0 t.c7], .int .i64 70] w fun e w' => e = .returned (.int .i64 70) ∧ Below w.heap.size w w' := by
  obtain ⟨V, hV⟩ : ∃ Q, w.alloc (.cells #[.slice t.a6 0 t.c6, .slice t.a7 0 t.c7] 35) = Q := ⟨_, rfl⟩
  have bV : Below w.heap.size w V := by rw [← hV]; exact (Below.refl _ _).alloc (Nat.le_refl _) _
  have XV : Hid (Box V w.heap.size 35 #[.slice t.a6 0 t.c6, .slice t.a7 0 t.c7]) := by unfold Hid; rw [← hV]; exact Box.new _ _ _
  have BV : Hid (Below w.heap.size w V) := bV
  have x0 : V.cell? ⟨w.heap.size, 0, none⟩ = some (.slice t.a6 0 t.c6) := XV.out.cell 0
  have x1 : V.cell? ⟨w.heap.size, 1, none⟩ = some (.slice t.a7 0 t.c7) := XV.out.cell 1
  clear bV
  go_enter Tryd.func28, Tryd.ntmps28
  go_wp2_with (first | (go_at_call 46; refine (c_markLock0 _ _ _ _).mono ?_; rintro e w' ⟨rfl, hq⟩; have hq' := hq.symm; subst hq'; clear hq) | (go_at_call 47; refine (c_markWait0 _ _ _ _).mono ?_; rintro e w' ⟨rfl, hq⟩; have hq' := hq.symm; subst hq'; clear hq))
  go_ret
  exact ⟨rfl, BV.out⟩
set_option maxRecDepth 100000 in
set_option maxHeartbeats 2000000 in
theorem c_heldL0 (t : HX) (w : World) :
    Calls Tryd.prog 31 #[.agg #[.slice t.a6 0 t.c6, .slice t.a7 0 t.c7], .int .i64 70] w fun e w' => e = .returned (.int .i64 70) ∧ Below w.heap.size w w' := by
  obtain ⟨V, hV⟩ : ∃ Q, w.alloc (.cells #[.slice t.a6 0 t.c6, .slice t.a7 0 t.c7] 35) = Q := ⟨_, rfl⟩
  have bV : Below w.heap.size w V := by rw [← hV]; exact (Below.refl _ _).alloc (Nat.le_refl _) _
  have XV : Hid (Box V w.heap.size 35 #[.slice t.a6 0 t.c6, .slice t.a7 0 t.c7]) := by unfold Hid; rw [← hV]; exact Box.new _ _ _
  have BV : Hid (Below w.heap.size w V) := bV
  have x0 : V.cell? ⟨w.heap.size, 0, none⟩ = some (.slice t.a6 0 t.c6) := XV.out.cell 0
  have x1 : V.cell? ⟨w.heap.size, 1, none⟩ = some (.slice t.a7 0 t.c7) := XV.out.cell 1
  clear bV
  go_enter Tryd.func31, Tryd.ntmps31
  go_wp2_with (first | (go_at_call 51; refine (c_heldLock0 _ _ _ _).mono ?_; rintro e w' ⟨rfl, hq⟩; have hq' := hq.symm; subst hq'; clear hq) | (go_at_call 52; refine (c_heldWait0 _ _ _ _).mono ?_; rintro e w' ⟨rfl, hq⟩; have hq' := hq.symm; subst hq'; clear hq))
  go_ret
  exact ⟨rfl, BV.out⟩
theorem box14 {w : World} {g : Nat} {t : TypeId} {v0 v1 v2 v3 v4 v5 v6 v7 v8 v9 v10 v11 v12 v13 : Value} (h : Box w g t #[v0, v1, v2, v3, v4, v5, v6, v7, v8, v9, v10, v11, v12, v13]) : w.cell? ⟨g, 0, none⟩ = some v0 ∧ w.cell? ⟨g, 1, none⟩ = some v1 ∧ w.cell? ⟨g, 2, none⟩ = some v2 ∧ w.cell? ⟨g, 3, none⟩ = some v3 ∧ w.cell? ⟨g, 4, none⟩ = some v4 ∧ w.cell? ⟨g, 5, none⟩ = some v5 ∧ w.cell? ⟨g, 6, none⟩ = some v6 ∧ w.cell? ⟨g, 7, none⟩ = some v7 ∧ w.cell? ⟨g, 8, none⟩ = some v8 ∧ w.cell? ⟨g, 9, none⟩ = some v9 ∧ w.cell? ⟨g, 10, none⟩ = some v10 ∧ w.cell? ⟨g, 11, none⟩ = some v11 ∧ w.cell? ⟨g, 12, none⟩ = some v12 ∧ w.cell? ⟨g, 13, none⟩ = some v13 := ⟨h.cell 0, h.cell 1, h.cell 2, h.cell 3, h.cell 4, h.cell 5, h.cell 6, h.cell 7, h.cell 8, h.cell 9, h.cell 10, h.cell 11, h.cell 12, h.cell 13⟩
theorem thaw14 {w : World} {g : Nat} {t : TypeId} {c : Array Value} (h : Box w g t c) : w.frozen? ⟨g, 0, none⟩ = false ∧ w.frozen? ⟨g, 1, none⟩ = false ∧ w.frozen? ⟨g, 2, none⟩ = false ∧ w.frozen? ⟨g, 3, none⟩ = false ∧ w.frozen? ⟨g, 4, none⟩ = false ∧ w.frozen? ⟨g, 5, none⟩ = false ∧ w.frozen? ⟨g, 6, none⟩ = false ∧ w.frozen? ⟨g, 7, none⟩ = false ∧ w.frozen? ⟨g, 8, none⟩ = false ∧ w.frozen? ⟨g, 9, none⟩ = false ∧ w.frozen? ⟨g, 10, none⟩ = false ∧ w.frozen? ⟨g, 11, none⟩ = false ∧ w.frozen? ⟨g, 12, none⟩ = false ∧ w.frozen? ⟨g, 13, none⟩ = false := ⟨h.thaw 0, h.thaw 1, h.thaw 2, h.thaw 3, h.thaw 4, h.thaw 5, h.thaw 6, h.thaw 7, h.thaw 8, h.thaw 9, h.thaw 10, h.thaw 11, h.thaw 12, h.thaw 13⟩
def put14 (V : World) (r : Nat) (v0 v1 v2 v3 v4 v5 v6 v7 v8 v9 v10 v11 v12 v13 : Value) : World := ((((((((((((((V).setCell ⟨r, 0, none⟩ v0).setCell ⟨r, 1, none⟩ v1).setCell ⟨r, 2, none⟩ v2).setCell ⟨r, 3, none⟩ v3).setCell ⟨r, 4, none⟩ v4).setCell ⟨r, 5, none⟩ v5).setCell ⟨r, 6, none⟩ v6).setCell ⟨r, 7, none⟩ v7).setCell ⟨r, 8, none⟩ v8).setCell ⟨r, 9, none⟩ v9).setCell ⟨r, 10, none⟩ v10).setCell ⟨r, 11, none⟩ v11).setCell ⟨r, 12, none⟩ v12).setCell ⟨r, 13, none⟩ v13
theorem put14_box {V : World} {r : Nat} {t : TypeId} {a0 a1 a2 a3 a4 a5 a6 a7 a8 a9 a10 a11 a12 a13 : Value} (h : Box V r t #[a0, a1, a2, a3, a4, a5, a6, a7, a8, a9, a10, a11, a12, a13]) (v0 v1 v2 v3 v4 v5 v6 v7 v8 v9 v10 v11 v12 v13 : Value) : Box (put14 V r v0 v1 v2 v3 v4 v5 v6 v7 v8 v9 v10 v11 v12 v13) r t #[v0, v1, v2, v3, v4, v5, v6, v7, v8, v9, v10, v11, v12, v13] := by
  have h0 : Box ((V).setCell ⟨r, 0, none⟩ v0) r t #[v0, a1, a2, a3, a4, a5, a6, a7, a8, a9, a10, a11, a12, a13] := h.set 0 v0
  have h1 : Box (((V).setCell ⟨r, 0, none⟩ v0).setCell ⟨r, 1, none⟩ v1) r t #[v0, v1, a2, a3, a4, a5, a6, a7, a8, a9, a10, a11, a12, a13] := h0.set 1 v1
  have h2 : Box ((((V).setCell ⟨r, 0, none⟩ v0).setCell ⟨r, 1, none⟩ v1).setCell ⟨r, 2, none⟩ v2) r t #[v0, v1, v2, a3, a4, a5, a6, a7, a8, a9, a10, a11, a12, a13] := h1.set 2 v2
  have h3 : Box (((((V).setCell ⟨r, 0, none⟩ v0).setCell ⟨r, 1, none⟩ v1).setCell ⟨r, 2, none⟩ v2).setCell ⟨r, 3, none⟩ v3) r t #[v0, v1, v2, v3, a4, a5, a6, a7, a8, a9, a10, a11, a12, a13] := h2.set 3 v3
  have h4 : Box ((((((V).setCell ⟨r, 0, none⟩ v0).setCell ⟨r, 1, none⟩ v1).setCell ⟨r, 2, none⟩ v2).setCell ⟨r, 3, none⟩ v3).setCell ⟨r, 4, none⟩ v4) r t #[v0, v1, v2, v3, v4, a5, a6, a7, a8, a9, a10, a11, a12, a13] := h3.set 4 v4
  have h5 : Box (((((((V).setCell ⟨r, 0, none⟩ v0).setCell ⟨r, 1, none⟩ v1).setCell ⟨r, 2, none⟩ v2).setCell ⟨r, 3, none⟩ v3).setCell ⟨r, 4, none⟩ v4).setCell ⟨r, 5, none⟩ v5) r t #[v0, v1, v2, v3, v4, v5, a6, a7, a8, a9, a10, a11, a12, a13] := h4.set 5 v5
  have h6 : Box ((((((((V).setCell ⟨r, 0, none⟩ v0).setCell ⟨r, 1, none⟩ v1).setCell ⟨r, 2, none⟩ v2).setCell ⟨r, 3, none⟩ v3).setCell ⟨r, 4, none⟩ v4).setCell ⟨r, 5, none⟩ v5).setCell ⟨r, 6, none⟩ v6) r t #[v0, v1, v2, v3, v4, v5, v6, a7, a8, a9, a10, a11, a12, a13] := h5.set 6 v6
  have h7 : Box (((((((((V).setCell ⟨r, 0, none⟩ v0).setCell ⟨r, 1, none⟩ v1).setCell ⟨r, 2, none⟩ v2).setCell ⟨r, 3, none⟩ v3).setCell ⟨r, 4, none⟩ v4).setCell ⟨r, 5, none⟩ v5).setCell ⟨r, 6, none⟩ v6).setCell ⟨r, 7, none⟩ v7) r t #[v0, v1, v2, v3, v4, v5, v6, v7, a8, a9, a10, a11, a12, a13] := h6.set 7 v7
  have h8 : Box ((((((((((V).setCell ⟨r, 0, none⟩ v0).setCell ⟨r, 1, none⟩ v1).setCell ⟨r, 2, none⟩ v2).setCell ⟨r, 3, none⟩ v3).setCell ⟨r, 4, none⟩ v4).setCell ⟨r, 5, none⟩ v5).setCell ⟨r, 6, none⟩ v6).setCell ⟨r, 7, none⟩ v7).setCell ⟨r, 8, none⟩ v8) r t #[v0, v1, v2, v3, v4, v5, v6, v7, v8, a9, a10, a11, a12, a13] := h7.set 8 v8
  have h9 : Box (((((((((((V).setCell ⟨r, 0, none⟩ v0).setCell ⟨r, 1, none⟩ v1).setCell ⟨r, 2, none⟩ v2).setCell ⟨r, 3, none⟩ v3).setCell ⟨r, 4, none⟩ v4).setCell ⟨r, 5, none⟩ v5).setCell ⟨r, 6, none⟩ v6).setCell ⟨r, 7, none⟩ v7).setCell ⟨r, 8, none⟩ v8).setCell ⟨r, 9, none⟩ v9) r t #[v0, v1, v2, v3, v4, v5, v6, v7, v8, v9, a10, a11, a12, a13] := h8.set 9 v9
  have h10 : Box ((((((((((((V).setCell ⟨r, 0, none⟩ v0).setCell ⟨r, 1, none⟩ v1).setCell ⟨r, 2, none⟩ v2).setCell ⟨r, 3, none⟩ v3).setCell ⟨r, 4, none⟩ v4).setCell ⟨r, 5, none⟩ v5).setCell ⟨r, 6, none⟩ v6).setCell ⟨r, 7, none⟩ v7).setCell ⟨r, 8, none⟩ v8).setCell ⟨r, 9, none⟩ v9).setCell ⟨r, 10, none⟩ v10) r t #[v0, v1, v2, v3, v4, v5, v6, v7, v8, v9, v10, a11, a12, a13] := h9.set 10 v10
  have h11 : Box (((((((((((((V).setCell ⟨r, 0, none⟩ v0).setCell ⟨r, 1, none⟩ v1).setCell ⟨r, 2, none⟩ v2).setCell ⟨r, 3, none⟩ v3).setCell ⟨r, 4, none⟩ v4).setCell ⟨r, 5, none⟩ v5).setCell ⟨r, 6, none⟩ v6).setCell ⟨r, 7, none⟩ v7).setCell ⟨r, 8, none⟩ v8).setCell ⟨r, 9, none⟩ v9).setCell ⟨r, 10, none⟩ v10).setCell ⟨r, 11, none⟩ v11) r t #[v0, v1, v2, v3, v4, v5, v6, v7, v8, v9, v10, v11, a12, a13] := h10.set 11 v11
  have h12 : Box ((((((((((((((V).setCell ⟨r, 0, none⟩ v0).setCell ⟨r, 1, none⟩ v1).setCell ⟨r, 2, none⟩ v2).setCell ⟨r, 3, none⟩ v3).setCell ⟨r, 4, none⟩ v4).setCell ⟨r, 5, none⟩ v5).setCell ⟨r, 6, none⟩ v6).setCell ⟨r, 7, none⟩ v7).setCell ⟨r, 8, none⟩ v8).setCell ⟨r, 9, none⟩ v9).setCell ⟨r, 10, none⟩ v10).setCell ⟨r, 11, none⟩ v11).setCell ⟨r, 12, none⟩ v12) r t #[v0, v1, v2, v3, v4, v5, v6, v7, v8, v9, v10, v11, v12, a13] := h11.set 12 v12
  exact h12.set 13 v13
theorem put14_below {w w' : World} {r B : Nat} (h : Below B w w') (hg : B ≤ r) (v0 v1 v2 v3 v4 v5 v6 v7 v8 v9 v10 v11 v12 v13 : Value) : Below B w (put14 w' r v0 v1 v2 v3 v4 v5 v6 v7 v8 v9 v10 v11 v12 v13) := ((((((((((((((h.setCell hg _).setCell hg _).setCell hg _).setCell hg _).setCell hg _).setCell hg _).setCell hg _).setCell hg _).setCell hg _).setCell hg _).setCell hg _).setCell hg _).setCell hg _).setCell hg _)
set_option maxRecDepth 100000 in
set_option maxHeartbeats 2000000 in
theorem c_eqE (h h' : HS) (t t' : HX) (S : List ByteArray) (w : World) (r : RdV w h.a0 69 (S.map Value.string)) (r' : RdV w h'.a0 69 (S.map Value.string)) :
    Calls Tryd.prog 12 #[.agg #[.slice h.a0 69 h.c0, .slice h.a1 0 h.c1, .bool false, .slice h.a2 0 h.c2, .int .i64 1, .slice h.a3 0 h.c3, .int .i64 0, .slice h.a4 0 h.c4, .int .i64 0, .bool true, .slice t.a5 0 t.c5, .slice t.a6 0 t.c6, .slice t.a7 0 t.c7, .int .i64 1], .agg #[.slice h'.a0 69 h'.c0, .slice h'.a1 0 h'.c1, .bool false, .slice h'.a2 0 h'.c2, .int .i64 1, .slice h'.a3 0 h'.c3, .int .i64 0, .slice h'.a4 0 h'.c4, .int .i64 0, .bool true, .slice t'.a5 0 t'.c5, .slice t'.a6 0 t'.c6, .slice t'.a7 0 t'.c7, .int .i64 1]] w fun e w' => e = .returned (.bool true) ∧ Below w.heap.size w w' := by
  obtain ⟨V0, hV0⟩ : ∃ Q, w.alloc (.cells #[.slice h.a0 69 h.c0, .slice h.a1 0 h.c1, .bool false, .slice h.a2 0 h.c2, .int .i64 1, .slice h.a3 0 h.c3, .int .i64 0, .slice h.a4 0 h.c4, .int .i64 0, .bool true, .slice t.a5 0 t.c5, .slice t.a6 0 t.c6, .slice t.a7 0 t.c7, .int .i64 1] 37) = Q := ⟨_, rfl⟩
  have bV0 : Below w.heap.size w V0 := by rw [← hV0]; exact (Below.refl _ _).alloc (Nat.le_refl _) _
  have XV0 : Hid (Box V0 w.heap.size 37 #[.slice h.a0 69 h.c0, .slice h.a1 0 h.c1, .bool false, .slice h.a2 0 h.c2, .int .i64 1, .slice h.a3 0 h.c3, .int .i64 0, .slice h.a4 0 h.c4, .int .i64 0, .bool true, .slice t.a5 0 t.c5, .slice t.a6 0 t.c6, .slice t.a7 0 t.c7, .int .i64 1]) := by unfold Hid; rw [← hV0]; exact Box.new _ _ _
  obtain ⟨V, hV⟩ : ∃ Q, V0.alloc (.cells #[.slice h'.a0 69 h'.c0, .slice h'.a1 0 h'.c1, .bool false, .slice h'.a2 0 h'.c2, .int .i64 1, .slice h'.a3 0 h'.c3, .int .i64 0, .slice h'.a4 0 h'.c4, .int .i64 0, .bool true, .slice t'.a5 0 t'.c5, .slice t'.a6 0 t'.c6, .slice t'.a7 0 t'.c7, .int .i64 1] 37) = Q := ⟨_, rfl⟩
  have bV : Below V0.heap.size V0 V := by rw [← hV]; exact (Below.refl _ _).alloc (Nat.le_refl _) _
  have XV : Hid (Box V V0.heap.size 37 #[.slice h'.a0 69 h'.c0, .slice h'.a1 0 h'.c1, .bool false, .slice h'.a2 0 h'.c2, .int .i64 1, .slice h'.a3 0 h'.c3, .int .i64 0, .slice h'.a4 0 h'.c4, .int .i64 0, .bool true, .slice t'.a5 0 t'.c5, .slice t'.a6 0 t'.c6, .slice t'.a7 0 t'.c7, .int .i64 1]) := by unfold Hid; rw [← hV]; exact Box.new _ _ _
  have BV : Hid (Below w.heap.size w V) := bV0.trans (bV.mono bV0.size)
  have Y0 : Hid (Box V w.heap.size 37 #[.slice h.a0 69 h.c0, .slice h.a1 0 h.c1, .bool false, .slice h.a2 0 h.c2, .int .i64 1, .slice h.a3 0 h.c3, .int .i64 0, .slice h.a4 0 h.c4, .int .i64 0, .bool true, .slice t.a5 0 t.c5, .slice t.a6 0 t.c6, .slice t.a7 0 t.c7, .int .i64 1]) := XV0.out.belowS bV
  have R : Hid (RdV V h.a0 69 (S.map Value.string)) := r.below BV.out
  have R' : Hid (RdV V h'.a0 69 (S.map Value.string)) := r'.below BV.out
  clear r r' bV0 bV
  obtain ⟨x0, x1, x2, x3, x4, x5, x6, x7, x8, x9, x10, x11, x12, x13⟩ := box14 Y0.out
  obtain ⟨y0, y1, y2, y3, y4, y5, y6, y7, y8, y9, y10, y11, y12, y13⟩ := box14 XV.out
  go_enter Tryd.func12, Tryd.ntmps12
  go_wp2_with fail
  refine (c_eqSt h h' S V R.out R'.out).mono ?_
  rintro e w1 ⟨rfl, hb⟩
  have B1 : Hid (Below w.heap.size w w1) := BV.out.trans (hb.mono BV.out.size)
  have Y1 : Hid (Box w1 w.heap.size 37 #[.slice h.a0 69 h.c0, .slice h.a1 0 h.c1, .bool false, .slice h.a2 0 h.c2, .int .i64 1, .slice h.a3 0 h.c3, .int .i64 0, .slice h.a4 0 h.c4, .int .i64 0, .bool true, .slice t.a5 0 t.c5, .slice t.a6 0 t.c6, .slice t.a7 0 t.c7, .int .i64 1]) := Y0.out.belowS hb
  have X1 : Hid (Box w1 V0.heap.size 37 #[.slice h'.a0 69 h'.c0, .slice h'.a1 0 h'.c1, .bool false, .slice h'.a2 0 h'.c2, .int .i64 1, .slice h'.a3 0 h'.c3, .int .i64 0, .slice h'.a4 0 h'.c4, .int .i64 0, .bool true, .slice t'.a5 0 t'.c5, .slice t'.a6 0 t'.c6, .slice t'.a7 0 t'.c7, .int .i64 1]) := XV.out.belowS hb
  clear hb hV hV0 Y0 XV BV x0 x1 x2 x3 x4 x5 x6 x7 x8 x9 x10 x11 x12 x13 y0 y1 y2 y3 y4 y5 y6 y7 y8 y9 y10 y11 y12 y13
  obtain ⟨x0, x1, x2, x3, x4, x5, x6, x7, x8, x9, x10, x11, x12, x13⟩ := box14 Y1.out
  obtain ⟨y0, y1, y2, y3, y4, y5, y6, y7, y8, y9, y10, y11, y12, y13⟩ := box14 X1.out
  go_wp2_with fail
  refine (c_eqTx0 _ _ _ _ _).mono ?_
  rintro e w' ⟨rfl, hq⟩; have hq' := hq.symm; subst hq'; clear hq
  go_wp2_with fail
  refine (c_eqL0 t t' w1).mono ?_
  rintro e w2 ⟨rfl, hb⟩
  have B2 : Hid (Below w.heap.size w w2) := B1.out.trans (hb.mono B1.out.size)
  have Y2 : Hid (Box w2 w.heap.size 37 #[.slice h.a0 69 h.c0, .slice h.a1 0 h.c1, .bool false, .slice h.a2 0 h.c2, .int .i64 1, .slice h.a3 0 h.c3, .int .i64 0, .slice h.a4 0 h.c4, .int .i64 0, .bool true, .slice t.a5 0 t.c5, .slice t.a6 0 t.c6, .slice t.a7 0 t.c7, .int .i64 1]) := Y1.out.belowS hb
  have X2 : Hid (Box w2 V0.heap.size 37 #[.slice h'.a0 69 h'.c0, .slice h'.a1 0 h'.c1, .bool false, .slice h'.a2 0 h'.c2, .int .i64 1, .slice h'.a3 0 h'.c3, .int .i64 0, .slice h'.a4 0 h'.c4, .int .i64 0, .bool true, .slice t'.a5 0 t'.c5, .slice t'.a6 0 t'.c6, .slice t'.a7 0 t'.c7, .int .i64 1]) := X1.out.belowS hb
  clear hb x0 x1 x2 x3 x4 x5 x6 x7 x8 x9 x10 x11 x12 x13 y0 y1 y2 y3 y4 y5 y6 y7 y8 y9 y10 y11 y12 y13
  obtain ⟨x0, x1, x2, x3, x4, x5, x6, x7, x8, x9, x10, x11, x12, x13⟩ := box14 Y2.out
  obtain ⟨y0, y1, y2, y3, y4, y5, y6, y7, y8, y9, y10, y11, y12, y13⟩ := box14 X2.out
  go_wp2
  go_ret
  exact ⟨rfl, B2.out⟩
set_option maxRecDepth 100000 in
set_option maxHeartbeats 2000000 in
theorem c_markE (h : HS) (t : HX) (B E : Nat) (xs : List Value) (w : World) (o : w.ownsRow B 9 1 (.slice h.a0 69 h.c0) 69 xs) (hE : ∀ g, ob h.a0 = some g → g < E) (hw : E ≤ w.heap.size) :
    Calls Tryd.prog 13 #[.agg #[.slice h.a0 69 h.c0, .slice h.a1 0 h.c1, .bool false, .slice h.a2 0 h.c2, .int .i64 1, .slice h.a3 0 h.c3, .int .i64 0, .slice h.a4 0 h.c4, .int .i64 0, .bool true, .slice t.a5 0 t.c5, .slice t.a6 0 t.c6, .slice t.a7 0 t.c7, .int .i64 1], .int .i64 1] w fun e w' => e = .returned (.int .i64 70) ∧ w'.ownsRow B 9 1 (.slice h.a0 69 h.c0) 69 (marksS 1 69) ∧ Inn B E w w' := by
  obtain ⟨V, hV⟩ : ∃ Q, w.alloc (.cells #[.slice h.a0 69 h.c0, .slice h.a1 0 h.c1, .bool false, .slice h.a2 0 h.c2, .int .i64 1, .slice h.a3 0 h.c3, .int .i64 0, .slice h.a4 0 h.c4, .int .i64 0, .bool true, .slice t.a5 0 t.c5, .slice t.a6 0 t.c6, .slice t.a7 0 t.c7, .int .i64 1] 37) = Q := ⟨_, rfl⟩
  have bV : Below w.heap.size w V := by rw [← hV]; exact (Below.refl _ _).alloc (Nat.le_refl _) _
  have XV : Hid (Box V w.heap.size 37 #[.slice h.a0 69 h.c0, .slice h.a1 0 h.c1, .bool false, .slice h.a2 0 h.c2, .int .i64 1, .slice h.a3 0 h.c3, .int .i64 0, .slice h.a4 0 h.c4, .int .i64 0, .bool true, .slice t.a5 0 t.c5, .slice t.a6 0 t.c6, .slice t.a7 0 t.c7, .int .i64 1]) := by unfold Hid; rw [← hV]; exact Box.new _ _ _
  have lV : w.heap.size < V.heap.size := XV.out.lt
  have O : Hid (V.ownsRow B 9 1 (.slice h.a0 69 h.c0) 69 xs) := own_below o bV
  have IV : Hid (Inn B E w V) := Inn.of_below bV
  have HE : Hid (∀ g, ob h.a0 = some g → g < E) := hE
  clear o hE bV
  obtain ⟨x0, x1, x2, x3, x4, x5, x6, x7, x8, x9, x10, x11, x12, x13⟩ := box14 XV.out
  go_enter Tryd.func13, Tryd.ntmps13
  go_wp2_with fail
  refine (c_markSt h B E xs V O.out HE.out (by omega)).mono ?_
  rintro e w1 ⟨rfl, om, hi⟩
  have I1 : Hid (Inn B E w w1) := IV.out.trans hi
  have X1 : Hid (Box w1 w.heap.size 37 #[.slice h.a0 69 h.c0, .slice h.a1 0 h.c1, .bool false, .slice h.a2 0 h.c2, .int .i64 1, .slice h.a3 0 h.c3, .int .i64 0, .slice h.a4 0 h.c4, .int .i64 0, .bool true, .slice t.a5 0 t.c5, .slice t.a6 0 t.c6, .slice t.a7 0 t.c7, .int .i64 1]) := XV.out.innO hi (.inr hw)
  have OM : Hid (w1.ownsRow B 9 1 (.slice h.a0 69 h.c0) 69 (marksS 1 69)) := om
  clear om hi hV IV O XV x0 x1 x2 x3 x4 x5 x6 x7 x8 x9 x10 x11 x12 x13
  obtain ⟨x0, x1, x2, x3, x4, x5, x6, x7, x8, x9, x10, x11, x12, x13⟩ := box14 X1.out
  go_wp2_with fail
  refine (c_markTx0 _ _ _ _).mono ?_
  rintro e w' ⟨rfl, hq⟩; have hq' := hq.symm; subst hq'; clear hq
  go_wp2_with fail
  refine (c_markL0 t w1).mono ?_
  rintro e w2 ⟨rfl, hb⟩
  have I2 : Hid (Inn B E w w2) := I1.out.trans (Inn.of_below hb)
  have OM2 : Hid (w2.ownsRow B 9 1 (.slice h.a0 69 h.c0) 69 (marksS 1 69)) := own_below OM.out hb
  clear hb
  go_wp2
  go_ret
  exact ⟨rfl, OM2.out, I2.out⟩
set_option maxRecDepth 100000 in
set_option maxHeartbeats 2000000 in
theorem c_heldE (h : HS) (t : HX) (w : World) (r : RdV w h.a0 69 (marksS 1 69)) :
    Calls Tryd.prog 14 #[.agg #[.slice h.a0 69 h.c0, .slice h.a1 0 h.c1, .bool false, .slice h.a2 0 h.c2, .int .i64 1, .slice h.a3 0 h.c3, .int .i64 0, .slice h.a4 0 h.c4, .int .i64 0, .bool true, .slice t.a5 0 t.c5, .slice t.a6 0 t.c6, .slice t.a7 0 t.c7, .int .i64 1], .int .i64 1] w fun e w' => e = .returned (.int .i64 70) ∧ Below w.heap.size w w' := by
  obtain ⟨V, hV⟩ : ∃ Q, w.alloc (.cells #[.slice h.a0 69 h.c0, .slice h.a1 0 h.c1, .bool false, .slice h.a2 0 h.c2, .int .i64 1, .slice h.a3 0 h.c3, .int .i64 0, .slice h.a4 0 h.c4, .int .i64 0, .bool true, .slice t.a5 0 t.c5, .slice t.a6 0 t.c6, .slice t.a7 0 t.c7, .int .i64 1] 37) = Q := ⟨_, rfl⟩
  have bV : Below w.heap.size w V := by rw [← hV]; exact (Below.refl _ _).alloc (Nat.le_refl _) _
  have XV : Hid (Box V w.heap.size 37 #[.slice h.a0 69 h.c0, .slice h.a1 0 h.c1, .bool false, .slice h.a2 0 h.c2, .int .i64 1, .slice h.a3 0 h.c3, .int .i64 0, .slice h.a4 0 h.c4, .int .i64 0, .bool true, .slice t.a5 0 t.c5, .slice t.a6 0 t.c6, .slice t.a7 0 t.c7, .int .i64 1]) := by unfold Hid; rw [← hV]; exact Box.new _ _ _
  have R : Hid (RdV V h.a0 69 (marksS 1 69)) := r.below bV
  have BV : Hid (Below w.heap.size w V) := bV
  clear r bV
  obtain ⟨x0, x1, x2, x3, x4, x5, x6, x7, x8, x9, x10, x11, x12, x13⟩ := box14 XV.out
  go_enter Tryd.func14, Tryd.ntmps14
  go_wp2_with fail
  refine (c_heldSt h V R.out).mono ?_
  rintro e w1 ⟨rfl, hb⟩
  have B1 : Hid (Below w.heap.size w w1) := BV.out.trans (hb.mono BV.out.size)
  have X1 : Hid (Box w1 w.heap.size 37 #[.slice h.a0 69 h.c0, .slice h.a1 0 h.c1, .bool false, .slice h.a2 0 h.c2, .int .i64 1, .slice h.a3 0 h.c3, .int .i64 0, .slice h.a4 0 h.c4, .int .i64 0, .bool true, .slice t.a5 0 t.c5, .slice t.a6 0 t.c6, .slice t.a7 0 t.c7, .int .i64 1]) := XV.out.belowS hb
  clear hb hV XV BV R x0 x1 x2 x3 x4 x5 x6 x7 x8 x9 x10 x11 x12 x13
  obtain ⟨x0, x1, x2, x3, x4, x5, x6, x7, x8, x9, x10, x11, x12, x13⟩ := box14 X1.out
  go_wp2_with fail
  refine (c_heldTx0 _ _ _ _).mono ?_
  rintro e w' ⟨rfl, hq⟩; have hq' := hq.symm; subst hq'; clear hq
  go_wp2_with fail
  refine (c_heldL0 t w1).mono ?_
  rintro e w2 ⟨rfl, hb⟩
  have B2 : Hid (Below w.heap.size w w2) := B1.out.trans (hb.mono B1.out.size)
  clear hb
  go_wp2
  go_ret
  exact ⟨rfl, B2.out⟩

end Go.Proofs.YtlocgbjdnfnilaaDoor
