/-
  Worlds as they are made: alike, marked, held.
-/
import Derived.Test.YtlocgbjdnfnilaaDoorNec
import Derived.Deep.RegionHeld3
import Derived.Deep.QuietTactic
import Derived.BigQuiet
namespace Go.Proofs.YtlocgbjdnfnilaaDoor
open Go Go.RowKit
attribute [local go_sem ↓] Go.wp_at_zero Go.wp_at_succ

set_option linter.unusedVariables false
set_option linter.unusedSimpArgs false
set_option maxRecDepth 100000 in
set_option maxHeartbeats 2000000 in
theorem c_eqChange0 (a a' : Option Addr) (c c' : Nat) (w : World) :
    Calls Tryd.prog 16 #[.slice a 0 c, .slice a' 0 c'] w fun e w' => e = .returned (.bool true) ∧ w' = w := by
  go_enter Tryd.func16, Tryd.ntmps16
  go_wp2
  go_loop [5] (fun i => i = .int .i64 0) (fun _ => 0)
  case atStart => rfl
  case round =>
    obtain rfl := hrel
    go_wp2
    go_ret
    exact ⟨rfl, rfl⟩
set_option maxRecDepth 100000 in
set_option maxHeartbeats 2000000 in
theorem c_markChange0 (a : Option Addr) (c : Nat) (k : Int) (w : World) :
    Calls Tryd.prog 18 #[.slice a 0 c, .int .i64 k] w fun e w' => e = .returned (.int .i64 k) ∧ w' = w := by
  go_enter Tryd.func18, Tryd.ntmps18
  go_wp2
  go_loop [1, 5] (fun x i => x = .int .i64 k ∧ i = .int .i64 0) (fun _ _ => 0)
  case atStart => exact ⟨rfl, rfl⟩
  case round =>
    obtain ⟨rfl, rfl⟩ := hrel
    go_wp2
    go_ret
    exact ⟨rfl, rfl⟩
set_option maxRecDepth 100000 in
set_option maxHeartbeats 2000000 in
theorem c_heldChange0 (a : Option Addr) (c : Nat) (k : Int) (w : World) :
    Calls Tryd.prog 20 #[.slice a 0 c, .int .i64 k] w fun e w' => e = .returned (.int .i64 k) ∧ w' = w := by
  go_enter Tryd.func20, Tryd.ntmps20
  go_wp2
  go_loop [1, 5] (fun x i => x = .int .i64 k ∧ i = .int .i64 0) (fun _ _ => 0)
  case atStart => exact ⟨rfl, rfl⟩
  case round =>
    obtain ⟨rfl, rfl⟩ := hrel
    go_wp2
    go_ret
    exact ⟨rfl, rfl⟩
theorem Inn.set {B E : Nat} {w w' : World} (h : Inn B E w w') (p : Addr) (v : Value) (hp : B ≤ p.block ∧ p.block < E) : Inn B E w (w'.setCell p v) :=
  ⟨h.os, h.tape, h.output, by have := h.size; simpa using this, fun k hk ho => (Below.heap_setCell w' p v k (by omega)).trans (h.block k hk ho)⟩
theorem Inn.refl (B E : Nat) (w : World) : Inn B E w w := ⟨rfl, rfl, rfl, Nat.le_refl _, fun _ _ _ => rfl⟩
structure HW where
  g : Nat
  ao : Option Addr
  co : Nat
  ad : Option Addr
  cd : Nat
  ab : Option Addr
  cb : Nat
theorem box3 {w : World} {g : Nat} {t : TypeId} {v0 v1 v2 : Value} (h : Box w g t #[v0, v1, v2]) : w.cell? ⟨g, 0, none⟩ = some v0 ∧ w.cell? ⟨g, 1, none⟩ = some v1 ∧ w.cell? ⟨g, 2, none⟩ = some v2 := ⟨h.cell 0, h.cell 1, h.cell 2⟩
theorem box19 {w : World} {g : Nat} {t : TypeId} {v0 v1 v2 v3 v4 v5 v6 v7 v8 v9 v10 v11 v12 v13 v14 v15 v16 v17 v18 : Value} (h : Box w g t #[v0, v1, v2, v3, v4, v5, v6, v7, v8, v9, v10, v11, v12, v13, v14, v15, v16, v17, v18]) : w.cell? ⟨g, 0, none⟩ = some v0 ∧ w.cell? ⟨g, 1, none⟩ = some v1 ∧ w.cell? ⟨g, 2, none⟩ = some v2 ∧ w.cell? ⟨g, 3, none⟩ = some v3 ∧ w.cell? ⟨g, 4, none⟩ = some v4 ∧ w.cell? ⟨g, 5, none⟩ = some v5 ∧ w.cell? ⟨g, 6, none⟩ = some v6 ∧ w.cell? ⟨g, 7, none⟩ = some v7 ∧ w.cell? ⟨g, 8, none⟩ = some v8 ∧ w.cell? ⟨g, 9, none⟩ = some v9 ∧ w.cell? ⟨g, 10, none⟩ = some v10 ∧ w.cell? ⟨g, 11, none⟩ = some v11 ∧ w.cell? ⟨g, 12, none⟩ = some v12 ∧ w.cell? ⟨g, 13, none⟩ = some v13 ∧ w.cell? ⟨g, 14, none⟩ = some v14 ∧ w.cell? ⟨g, 15, none⟩ = some v15 ∧ w.cell? ⟨g, 16, none⟩ = some v16 ∧ w.cell? ⟨g, 17, none⟩ = some v17 ∧ w.cell? ⟨g, 18, none⟩ = some v18 := ⟨h.cell 0, h.cell 1, h.cell 2, h.cell 3, h.cell 4, h.cell 5, h.cell 6, h.cell 7, h.cell 8, h.cell 9, h.cell 10, h.cell 11, h.cell 12, h.cell 13, h.cell 14, h.cell 15, h.cell 16, h.cell 17, h.cell 18⟩
set_option maxRecDepth 100000 in
set_option maxHeartbeats 8000000 in
theorem c_eqI3 (g g' : Nat) (x y z : Int) (w : World) (X : Box w g 3 #[.int .i64 x, .int .i64 y, .int .i64 z]) (Y : Box w g' 3 #[.int .i64 x, .int .i64 y, .int .i64 z]) :
    Calls Tryd.prog 15 #[.slice (some ⟨g, 0, none⟩) 3 3, .slice (some ⟨g', 0, none⟩) 3 3] w fun e w' => e = .returned (.bool true) ∧ Below w.heap.size w w' := by
  have e0 : (x != x) = false := by simp
  have e1 : (y != y) = false := by simp
  have e2 : (z != z) = false := by simp
  have HX : Hid (Box w g 3 #[.int .i64 x, .int .i64 y, .int .i64 z]) := X
  have HY : Hid (Box w g' 3 #[.int .i64 x, .int .i64 y, .int .i64 z]) := Y
  clear X Y
  go_enter Tryd.func15, Tryd.ntmps15
  go_wp2
  go_loopw [5] (fun i wr => ∃ k : Nat, k ≤ 3 ∧ i = .int .i64 k ∧ Hid (Below w.heap.size w wr)) (fun i _ => 3 - (intOf i).toNat)
  case atStart => exact ⟨0, by omega, rfl, Below.refl _ _⟩
  case round =>
    obtain ⟨k, hk, rfl, hb⟩ := hrel
    obtain ⟨x0, x1, x2⟩ := box3 (HX.out.belowS hb.out)
    obtain ⟨y0, y1, y2⟩ := box3 (HY.out.belowS hb.out)
    have hk4 : k = 0 ∨ k = 1 ∨ k = 2 ∨ k = 3 := by omega
    rcases hk4 with rfl | rfl | rfl | rfl
    · go_wp2_with fail
      go_quiet (fail)
      go_wp2
      go_roundw
      case rel => exact ⟨1, by omega, by first | rfl | go_num, below_drewN hb.out _⟩
      case measure => simp [intOf]
    · go_wp2_with fail
      go_quiet (fail)
      go_wp2
      go_roundw
      case rel => exact ⟨2, by omega, by first | rfl | go_num, below_drewN hb.out _⟩
      case measure => simp [intOf]
    · go_wp2_with fail
      go_quiet (fail)
      go_wp2
      go_roundw
      case rel => exact ⟨3, by omega, by first | rfl | go_num, below_drewN hb.out _⟩
      case measure => simp [intOf]
    · go_wp2
      go_ret
      exact ⟨rfl, hb.out⟩
set_option maxRecDepth 100000 in
set_option maxHeartbeats 8000000 in
theorem c_markI3 (g : Nat) (x y z : Int) (w : World) (X : Box w g 3 #[.int .i64 x, .int .i64 y, .int .i64 z]) :
    Calls Tryd.prog 17 #[.slice (some ⟨g, 0, none⟩) 3 3, .int .i64 70] w fun e w' => e = .returned (.int .i64 73) ∧ Box w' g 3 #[.int .i64 70, .int .i64 71, .int .i64 72] ∧ Inn g (g + 1) w w' := by
  have HX : Hid (Box w g 3 #[.int .i64 x, .int .i64 y, .int .i64 z]) := X
  clear X
  go_enter Tryd.func17, Tryd.ntmps17
  go_wp2
  go_loopw [1, 5] (fun m i wr => ∃ k : Nat, k ≤ 3 ∧ i = .int .i64 k ∧ m = .int .i64 (70 + k) ∧ Hid (Inn g (g + 1) w wr) ∧ Hid (k = 0 → Box wr g 3 #[.int .i64 x, .int .i64 y, .int .i64 z]) ∧ Hid (k = 1 → Box wr g 3 #[.int .i64 70, .int .i64 y, .int .i64 z]) ∧ Hid (k = 2 → Box wr g 3 #[.int .i64 70, .int .i64 71, .int .i64 z]) ∧ Hid (k = 3 → Box wr g 3 #[.int .i64 70, .int .i64 71, .int .i64 72])) (fun _ i _ => 3 - (intOf i).toNat)
  case atStart => exact ⟨0, by omega, rfl, rfl, Inn.refl _ _ _, (fun _ => HX.out), (fun h => by omega), (fun h => by omega), (fun h => by omega)⟩
  case round =>
    obtain ⟨k, hk, rfl, rfl, hi, H0, H1, H2, H3⟩ := hrel
    have hk4 : k = 0 ∨ k = 1 ∨ k = 2 ∨ k = 3 := by omega
    rcases hk4 with rfl | rfl | rfl | rfl
    · have X := H0.out rfl
      obtain ⟨x0, x1, x2⟩ := box3 X
      have z0 := X.thaw 0
      have N : Hid (Box (wr.setCell ⟨g, 0, none⟩ (.int .i64 70)) g 3 #[.int .i64 70, .int .i64 y, .int .i64 z]) := X.set 0 _
      have I2 : Hid (Inn g (g + 1) w (wr.setCell ⟨g, 0, none⟩ (.int .i64 70))) := hi.out.set _ _ ⟨Nat.le_refl _, by simp⟩
      clear X H0 H1 H2 H3
      go_wp2
      go_roundw
      case rel => exact ⟨1, by omega, by first | rfl | go_num, by first | rfl | go_num, I2, (fun h => by omega), (fun _ => N.out), (fun h => by omega), (fun h => by omega)⟩
      case measure => simp [intOf]
    · have X := H1.out rfl
      obtain ⟨x0, x1, x2⟩ := box3 X
      have z1 := X.thaw 1
      have N : Hid (Box (wr.setCell ⟨g, 1, none⟩ (.int .i64 71)) g 3 #[.int .i64 70, .int .i64 71, .int .i64 z]) := X.set 1 _
      have I2 : Hid (Inn g (g + 1) w (wr.setCell ⟨g, 1, none⟩ (.int .i64 71))) := hi.out.set _ _ ⟨Nat.le_refl _, by simp⟩
      clear X H0 H1 H2 H3
      go_wp2
      go_roundw
      case rel => exact ⟨2, by omega, by first | rfl | go_num, by first | rfl | go_num, I2, (fun h => by omega), (fun h => by omega), (fun _ => N.out), (fun h => by omega)⟩
      case measure => simp [intOf]
    · have X := H2.out rfl
      obtain ⟨x0, x1, x2⟩ := box3 X
      have z2 := X.thaw 2
      have N : Hid (Box (wr.setCell ⟨g, 2, none⟩ (.int .i64 72)) g 3 #[.int .i64 70, .int .i64 71, .int .i64 72]) := X.set 2 _
      have I2 : Hid (Inn g (g + 1) w (wr.setCell ⟨g, 2, none⟩ (.int .i64 72))) := hi.out.set _ _ ⟨Nat.le_refl _, by simp⟩
      clear X H0 H1 H2 H3
      go_wp2
      go_roundw
      case rel => exact ⟨3, by omega, by first | rfl | go_num, by first | rfl | go_num, I2, (fun h => by omega), (fun h => by omega), (fun h => by omega), (fun _ => N.out)⟩
      case measure => simp [intOf]
    · have X : Hid (Box wr g 3 #[.int .i64 70, .int .i64 71, .int .i64 72]) := H3.out rfl
      clear H0 H1 H2 H3
      go_wp2
      go_ret
      exact ⟨rfl, X.out, hi.out⟩
set_option maxRecDepth 100000 in
set_option maxHeartbeats 8000000 in
theorem c_heldI3 (g : Nat) (w : World) (X : Box w g 3 #[.int .i64 70, .int .i64 71, .int .i64 72]) :
    Calls Tryd.prog 19 #[.slice (some ⟨g, 0, none⟩) 3 3, .int .i64 70] w fun e w' => e = .returned (.int .i64 73) ∧ w' = w := by
  obtain ⟨x0, x1, x2⟩ := box3 X
  clear X
  go_enter Tryd.func19, Tryd.ntmps19
  go_wp2
  go_loopw [1, 5] (fun m i wr => ∃ k : Nat, k ≤ 3 ∧ i = .int .i64 k ∧ m = .int .i64 (70 + k) ∧ wr = w) (fun _ i _ => 3 - (intOf i).toNat)
  case atStart => exact ⟨0, by omega, rfl, rfl, rfl⟩
  case round =>
    obtain ⟨k, hk, rfl, rfl, rfl⟩ := hrel
    have hk4 : k = 0 ∨ k = 1 ∨ k = 2 ∨ k = 3 := by omega
    rcases hk4 with rfl | rfl | rfl | rfl
    · go_wp2
      go_roundw
      case rel => exact ⟨1, by omega, by first | rfl | go_num, by first | rfl | go_num, by first | rfl | trivial⟩
      case measure => simp [intOf]
    · go_wp2
      go_roundw
      case rel => exact ⟨2, by omega, by first | rfl | go_num, by first | rfl | go_num, by first | rfl | trivial⟩
      case measure => simp [intOf]
    · go_wp2
      go_roundw
      case rel => exact ⟨3, by omega, by first | rfl | go_num, by first | rfl | go_num, by first | rfl | trivial⟩
      case measure => simp [intOf]
    · go_wp2
      go_ret
      exact ⟨rfl, rfl⟩
set_option maxRecDepth 100000 in
set_option maxHeartbeats 8000000 in
theorem c_eqW (h h' : HS) (t t' : HX) (s s' : HW) (S : List ByteArray) (w : World) (r : RdV w h.a0 69 (S.map Value.string)) (r' : RdV w h'.a0 69 (S.map Value.string)) (q : Box w s.g 3 #[.int .i64 0, .int .i64 0, .int .i64 0]) (q' : Box w s'.g 3 #[.int .i64 0, .int .i64 0, .int .i64 0]) :
    Calls Tryd.prog 7 #[.agg #[.slice h.a0 69 h.c0, .slice h.a1 0 h.c1, .bool false, .slice h.a2 0 h.c2, .int .i64 1, .slice h.a3 0 h.c3, .int .i64 0, .slice h.a4 0 h.c4, .int .i64 0, .bool true, .slice t.a5 0 t.c5, .slice t.a6 0 t.c6, .slice t.a7 0 t.c7, .int .i64 1, .slice (some ⟨s.g, 0, none⟩) 3 3, .slice s.ao 0 s.co, .slice s.ad 0 s.cd, .slice s.ab 0 s.cb, .bool false], .agg #[.slice h'.a0 69 h'.c0, .slice h'.a1 0 h'.c1, .bool false, .slice h'.a2 0 h'.c2, .int .i64 1, .slice h'.a3 0 h'.c3, .int .i64 0, .slice h'.a4 0 h'.c4, .int .i64 0, .bool true, .slice t'.a5 0 t'.c5, .slice t'.a6 0 t'.c6, .slice t'.a7 0 t'.c7, .int .i64 1, .slice (some ⟨s'.g, 0, none⟩) 3 3, .slice s'.ao 0 s'.co, .slice s'.ad 0 s'.cd, .slice s'.ab 0 s'.cb, .bool false]] w fun e w' => e = .returned (.bool true) ∧ Below w.heap.size w w' := by
  obtain ⟨V0, hV0⟩ : ∃ Q, w.alloc (.cells #[.slice h.a0 69 h.c0, .slice h.a1 0 h.c1, .bool false, .slice h.a2 0 h.c2, .int .i64 1, .slice h.a3 0 h.c3, .int .i64 0, .slice h.a4 0 h.c4, .int .i64 0, .bool true, .slice t.a5 0 t.c5, .slice t.a6 0 t.c6, .slice t.a7 0 t.c7, .int .i64 1, .slice (some ⟨s.g, 0, none⟩) 3 3, .slice s.ao 0 s.co, .slice s.ad 0 s.cd, .slice s.ab 0 s.cb, .bool false] 40) = Q := ⟨_, rfl⟩
  have bV0 : Below w.heap.size w V0 := by rw [← hV0]; exact (Below.refl _ _).alloc (Nat.le_refl _) _
  have XV0 : Hid (Box V0 w.heap.size 40 #[.slice h.a0 69 h.c0, .slice h.a1 0 h.c1, .bool false, .slice h.a2 0 h.c2, .int .i64 1, .slice h.a3 0 h.c3, .int .i64 0, .slice h.a4 0 h.c4, .int .i64 0, .bool true, .slice t.a5 0 t.c5, .slice t.a6 0 t.c6, .slice t.a7 0 t.c7, .int .i64 1, .slice (some ⟨s.g, 0, none⟩) 3 3, .slice s.ao 0 s.co, .slice s.ad 0 s.cd, .slice s.ab 0 s.cb, .bool false]) := by unfold Hid; rw [← hV0]; exact Box.new _ _ _
  obtain ⟨V, hV⟩ : ∃ Q, V0.alloc (.cells #[.slice h'.a0 69 h'.c0, .slice h'.a1 0 h'.c1, .bool false, .slice h'.a2 0 h'.c2, .int .i64 1, .slice h'.a3 0 h'.c3, .int .i64 0, .slice h'.a4 0 h'.c4, .int .i64 0, .bool true, .slice t'.a5 0 t'.c5, .slice t'.a6 0 t'.c6, .slice t'.a7 0 t'.c7, .int .i64 1, .slice (some ⟨s'.g, 0, none⟩) 3 3, .slice s'.ao 0 s'.co, .slice s'.ad 0 s'.cd, .slice s'.ab 0 s'.cb, .bool false] 40) = Q := ⟨_, rfl⟩
  have bV : Below V0.heap.size V0 V := by rw [← hV]; exact (Below.refl _ _).alloc (Nat.le_refl _) _
  have XV : Hid (Box V V0.heap.size 40 #[.slice h'.a0 69 h'.c0, .slice h'.a1 0 h'.c1, .bool false, .slice h'.a2 0 h'.c2, .int .i64 1, .slice h'.a3 0 h'.c3, .int .i64 0, .slice h'.a4 0 h'.c4, .int .i64 0, .bool true, .slice t'.a5 0 t'.c5, .slice t'.a6 0 t'.c6, .slice t'.a7 0 t'.c7, .int .i64 1, .slice (some ⟨s'.g, 0, none⟩) 3 3, .slice s'.ao 0 s'.co, .slice s'.ad 0 s'.cd, .slice s'.ab 0 s'.cb, .bool false]) := by unfold Hid; rw [← hV]; exact Box.new _ _ _
  have BV : Hid (Below w.heap.size w V) := bV0.trans (bV.mono bV0.size)
  have Y0 : Hid (Box V w.heap.size 40 #[.slice h.a0 69 h.c0, .slice h.a1 0 h.c1, .bool false, .slice h.a2 0 h.c2, .int .i64 1, .slice h.a3 0 h.c3, .int .i64 0, .slice h.a4 0 h.c4, .int .i64 0, .bool true, .slice t.a5 0 t.c5, .slice t.a6 0 t.c6, .slice t.a7 0 t.c7, .int .i64 1, .slice (some ⟨s.g, 0, none⟩) 3 3, .slice s.ao 0 s.co, .slice s.ad 0 s.cd, .slice s.ab 0 s.cb, .bool false]) := XV0.out.belowS bV
  have R : Hid (RdV V h.a0 69 (S.map Value.string)) := r.below BV.out
  have R' : Hid (RdV V h'.a0 69 (S.map Value.string)) := r'.below BV.out
  have Q : Hid (Box V s.g 3 #[.int .i64 0, .int .i64 0, .int .i64 0]) := q.belowS BV.out
  have Q' : Hid (Box V s'.g 3 #[.int .i64 0, .int .i64 0, .int .i64 0]) := q'.belowS BV.out
  clear r r' q q' bV0 bV
  obtain ⟨x0, x1, x2, x3, x4, x5, x6, x7, x8, x9, x10, x11, x12, x13, x14, x15, x16, x17, x18⟩ := box19 Y0.out
  obtain ⟨y0, y1, y2, y3, y4, y5, y6, y7, y8, y9, y10, y11, y12, y13, y14, y15, y16, y17, y18⟩ := box19 XV.out
  go_enter Tryd.func7, Tryd.ntmps7
  go_wp2_with fail
  refine (c_eqE h h' t t' S V R.out R'.out).mono ?_
  rintro e w1 ⟨rfl, hb⟩
  have B1 : Hid (Below w.heap.size w w1) := BV.out.trans (hb.mono BV.out.size)
  have Y1 : Hid (Box w1 w.heap.size 40 #[.slice h.a0 69 h.c0, .slice h.a1 0 h.c1, .bool false, .slice h.a2 0 h.c2, .int .i64 1, .slice h.a3 0 h.c3, .int .i64 0, .slice h.a4 0 h.c4, .int .i64 0, .bool true, .slice t.a5 0 t.c5, .slice t.a6 0 t.c6, .slice t.a7 0 t.c7, .int .i64 1, .slice (some ⟨s.g, 0, none⟩) 3 3, .slice s.ao 0 s.co, .slice s.ad 0 s.cd, .slice s.ab 0 s.cb, .bool false]) := Y0.out.belowS hb
  have X1 : Hid (Box w1 V0.heap.size 40 #[.slice h'.a0 69 h'.c0, .slice h'.a1 0 h'.c1, .bool false, .slice h'.a2 0 h'.c2, .int .i64 1, .slice h'.a3 0 h'.c3, .int .i64 0, .slice h'.a4 0 h'.c4, .int .i64 0, .bool true, .slice t'.a5 0 t'.c5, .slice t'.a6 0 t'.c6, .slice t'.a7 0 t'.c7, .int .i64 1, .slice (some ⟨s'.g, 0, none⟩) 3 3, .slice s'.ao 0 s'.co, .slice s'.ad 0 s'.cd, .slice s'.ab 0 s'.cb, .bool false]) := XV.out.belowS hb
  have Q1 : Box w1 s.g 3 #[.int .i64 0, .int .i64 0, .int .i64 0] := Q.out.belowS hb
  have Q1' : Box w1 s'.g 3 #[.int .i64 0, .int .i64 0, .int .i64 0] := Q'.out.belowS hb
  have C := c_eqI3 s.g s'.g 0 0 0 w1 Q1 Q1'
  clear hb hV hV0 Y0 XV BV x0 x1 x2 x3 x4 x5 x6 x7 x8 x9 x10 x11 x12 x13 x14 x15 x16 x17 x18 y0 y1 y2 y3 y4 y5 y6 y7 y8 y9 y10 y11 y12 y13 y14 y15 y16 y17 y18 R R' Q Q' Q1 Q1'
  obtain ⟨x0, x1, x2, x3, x4, x5, x6, x7, x8, x9, x10, x11, x12, x13, x14, x15, x16, x17, x18⟩ := box19 Y1.out
  obtain ⟨y0, y1, y2, y3, y4, y5, y6, y7, y8, y9, y10, y11, y12, y13, y14, y15, y16, y17, y18⟩ := box19 X1.out
  go_wp2_with fail
  refine C.mono ?_
  rintro e w2 ⟨rfl, hb⟩
  have B2 : Hid (Below w.heap.size w w2) := B1.out.trans (hb.mono B1.out.size)
  have Y2 : Hid (Box w2 w.heap.size 40 #[.slice h.a0 69 h.c0, .slice h.a1 0 h.c1, .bool false, .slice h.a2 0 h.c2, .int .i64 1, .slice h.a3 0 h.c3, .int .i64 0, .slice h.a4 0 h.c4, .int .i64 0, .bool true, .slice t.a5 0 t.c5, .slice t.a6 0 t.c6, .slice t.a7 0 t.c7, .int .i64 1, .slice (some ⟨s.g, 0, none⟩) 3 3, .slice s.ao 0 s.co, .slice s.ad 0 s.cd, .slice s.ab 0 s.cb, .bool false]) := Y1.out.belowS hb
  have X2 : Hid (Box w2 V0.heap.size 40 #[.slice h'.a0 69 h'.c0, .slice h'.a1 0 h'.c1, .bool false, .slice h'.a2 0 h'.c2, .int .i64 1, .slice h'.a3 0 h'.c3, .int .i64 0, .slice h'.a4 0 h'.c4, .int .i64 0, .bool true, .slice t'.a5 0 t'.c5, .slice t'.a6 0 t'.c6, .slice t'.a7 0 t'.c7, .int .i64 1, .slice (some ⟨s'.g, 0, none⟩) 3 3, .slice s'.ao 0 s'.co, .slice s'.ad 0 s'.cd, .slice s'.ab 0 s'.cb, .bool false]) := X1.out.belowS hb
  clear hb C B1 Y1 X1 x0 x1 x2 x3 x4 x5 x6 x7 x8 x9 x10 x11 x12 x13 x14 x15 x16 x17 x18 y0 y1 y2 y3 y4 y5 y6 y7 y8 y9 y10 y11 y12 y13 y14 y15 y16 y17 y18
  obtain ⟨x0, x1, x2, x3, x4, x5, x6, x7, x8, x9, x10, x11, x12, x13, x14, x15, x16, x17, x18⟩ := box19 Y2.out
  obtain ⟨y0, y1, y2, y3, y4, y5, y6, y7, y8, y9, y10, y11, y12, y13, y14, y15, y16, y17, y18⟩ := box19 X2.out
  go_wp2_with fail
  refine (c_eqChange0 _ _ _ _ _).mono ?_
  rintro e w' ⟨rfl, hq⟩; have hq' := hq.symm; subst hq'; clear hq
  go_wp2_with fail
  refine (c_eqChange0 _ _ _ _ _).mono ?_
  rintro e w' ⟨rfl, hq⟩; have hq' := hq.symm; subst hq'; clear hq
  go_wp2_with fail
  refine (c_eqChange0 _ _ _ _ _).mono ?_
  rintro e w' ⟨rfl, hq⟩; have hq' := hq.symm; subst hq'; clear hq
  go_wp2
  go_ret
  exact ⟨rfl, B2.out⟩
set_option maxRecDepth 100000 in
set_option maxHeartbeats 8000000 in
theorem c_markW (h : HS) (t : HX) (s : HW) (B E : Nat) (xs : List Value) (w : World) (o : w.ownsRow B 9 1 (.slice h.a0 69 h.c0) 69 xs) (hE : ∀ g, ob h.a0 = some g → g < E) (hw : E ≤ w.heap.size) (q : Box w s.g 3 #[.int .i64 0, .int .i64 0, .int .i64 0]) (hg : s.g < B ∨ E ≤ s.g) :
    Calls Tryd.prog 8 #[.agg #[.slice h.a0 69 h.c0, .slice h.a1 0 h.c1, .bool false, .slice h.a2 0 h.c2, .int .i64 1, .slice h.a3 0 h.c3, .int .i64 0, .slice h.a4 0 h.c4, .int .i64 0, .bool true, .slice t.a5 0 t.c5, .slice t.a6 0 t.c6, .slice t.a7 0 t.c7, .int .i64 1, .slice (some ⟨s.g, 0, none⟩) 3 3, .slice s.ao 0 s.co, .slice s.ad 0 s.cd, .slice s.ab 0 s.cb, .bool false], .int .i64 1] w fun e w' => e = .returned (.int .i64 73) ∧ w'.ownsRow B 9 1 (.slice h.a0 69 h.c0) 69 (marksS 1 69) ∧ Box w' s.g 3 #[.int .i64 70, .int .i64 71, .int .i64 72] ∧ (∃ wm, Inn B E w wm ∧ Inn s.g (s.g + 1) wm w') := by
  obtain ⟨V, hV⟩ : ∃ Q, w.alloc (.cells #[.slice h.a0 69 h.c0, .slice h.a1 0 h.c1, .bool false, .slice h.a2 0 h.c2, .int .i64 1, .slice h.a3 0 h.c3, .int .i64 0, .slice h.a4 0 h.c4, .int .i64 0, .bool true, .slice t.a5 0 t.c5, .slice t.a6 0 t.c6, .slice t.a7 0 t.c7, .int .i64 1, .slice (some ⟨s.g, 0, none⟩) 3 3, .slice s.ao 0 s.co, .slice s.ad 0 s.cd, .slice s.ab 0 s.cb, .bool false] 40) = Q := ⟨_, rfl⟩
  have bV : Below w.heap.size w V := by rw [← hV]; exact (Below.refl _ _).alloc (Nat.le_refl _) _
  have XV : Hid (Box V w.heap.size 40 #[.slice h.a0 69 h.c0, .slice h.a1 0 h.c1, .bool false, .slice h.a2 0 h.c2, .int .i64 1, .slice h.a3 0 h.c3, .int .i64 0, .slice h.a4 0 h.c4, .int .i64 0, .bool true, .slice t.a5 0 t.c5, .slice t.a6 0 t.c6, .slice t.a7 0 t.c7, .int .i64 1, .slice (some ⟨s.g, 0, none⟩) 3 3, .slice s.ao 0 s.co, .slice s.ad 0 s.cd, .slice s.ab 0 s.cb, .bool false]) := by unfold Hid; rw [← hV]; exact Box.new _ _ _
  have lV : w.heap.size < V.heap.size := XV.out.lt
  have lq : s.g < w.heap.size := q.lt
  have O : Hid (V.ownsRow B 9 1 (.slice h.a0 69 h.c0) 69 xs) := own_below o bV
  have IV : Hid (Inn B E w V) := Inn.of_below bV
  have HE : Hid (∀ g, ob h.a0 = some g → g < E) := hE
  have Q : Hid (Box V s.g 3 #[.int .i64 0, .int .i64 0, .int .i64 0]) := q.belowS bV
  clear o hE bV q
  obtain ⟨x0, x1, x2, x3, x4, x5, x6, x7, x8, x9, x10, x11, x12, x13, x14, x15, x16, x17, x18⟩ := box19 XV.out
  go_enter Tryd.func8, Tryd.ntmps8
  go_wp2_with fail
  refine (c_markE h t B E xs V O.out HE.out (by omega)).mono ?_
  rintro e w1 ⟨rfl, om, hi⟩
  have I1 : Hid (Inn B E w w1) := IV.out.trans hi
  have X1 : Hid (Box w1 w.heap.size 40 #[.slice h.a0 69 h.c0, .slice h.a1 0 h.c1, .bool false, .slice h.a2 0 h.c2, .int .i64 1, .slice h.a3 0 h.c3, .int .i64 0, .slice h.a4 0 h.c4, .int .i64 0, .bool true, .slice t.a5 0 t.c5, .slice t.a6 0 t.c6, .slice t.a7 0 t.c7, .int .i64 1, .slice (some ⟨s.g, 0, none⟩) 3 3, .slice s.ao 0 s.co, .slice s.ad 0 s.cd, .slice s.ab 0 s.cb, .bool false]) := XV.out.innO hi (.inr (by omega))
  have OM : Hid (w1.ownsRow B 9 1 (.slice h.a0 69 h.c0) 69 (marksS 1 69)) := om
  have Q1 : Box w1 s.g 3 #[.int .i64 0, .int .i64 0, .int .i64 0] := Q.out.innO hi hg
  have C := c_markI3 s.g 0 0 0 w1 Q1
  have l1 : V.heap.size ≤ w1.heap.size := hi.size
  clear om hi hV IV O XV x0 x1 x2 x3 x4 x5 x6 x7 x8 x9 x10 x11 x12 x13 x14 x15 x16 x17 x18 Q Q1
  obtain ⟨x0, x1, x2, x3, x4, x5, x6, x7, x8, x9, x10, x11, x12, x13, x14, x15, x16, x17, x18⟩ := box19 X1.out
  go_wp2_with fail
  refine C.mono ?_
  rintro e w2 ⟨rfl, q2, hi⟩
  have Q2 : Hid (Box w2 s.g 3 #[.int .i64 70, .int .i64 71, .int .i64 72]) := q2
  have X2 : Hid (Box w2 w.heap.size 40 #[.slice h.a0 69 h.c0, .slice h.a1 0 h.c1, .bool false, .slice h.a2 0 h.c2, .int .i64 1, .slice h.a3 0 h.c3, .int .i64 0, .slice h.a4 0 h.c4, .int .i64 0, .bool true, .slice t.a5 0 t.c5, .slice t.a6 0 t.c6, .slice t.a7 0 t.c7, .int .i64 1, .slice (some ⟨s.g, 0, none⟩) 3 3, .slice s.ao 0 s.co, .slice s.ad 0 s.cd, .slice s.ab 0 s.cb, .bool false]) := X1.out.innO hi (.inr (by omega))
  have I2 : Hid (Inn s.g (s.g + 1) w1 w2) := hi
  have OM2 : Hid (w2.ownsRow B 9 1 (.slice h.a0 69 h.c0) 69 (marksS 1 69)) := own_same OM.out (fun k e => hi.block k (OM.out.lt k e).2 (by have a1 := (OM.out.lt k e).1; have a2 := HE.out k (by rw [← ob_slice]; exact e); omega))
  clear q2 hi X1 OM C x0 x1 x2 x3 x4 x5 x6 x7 x8 x9 x10 x11 x12 x13 x14 x15 x16 x17 x18
  obtain ⟨x0, x1, x2, x3, x4, x5, x6, x7, x8, x9, x10, x11, x12, x13, x14, x15, x16, x17, x18⟩ := box19 X2.out
  go_wp2_with fail
  refine (c_markChange0 _ _ _ _).mono ?_
  rintro e w' ⟨rfl, hq⟩; have hq' := hq.symm; subst hq'; clear hq
  go_wp2_with fail
  refine (c_markChange0 _ _ _ _).mono ?_
  rintro e w' ⟨rfl, hq⟩; have hq' := hq.symm; subst hq'; clear hq
  go_wp2_with fail
  refine (c_markChange0 _ _ _ _).mono ?_
  rintro e w' ⟨rfl, hq⟩; have hq' := hq.symm; subst hq'; clear hq
  go_wp2
  go_ret
  exact ⟨rfl, OM2.out, Q2.out, ⟨_, I1.out, I2.out⟩⟩
set_option maxRecDepth 100000 in
set_option maxHeartbeats 8000000 in
theorem c_heldW (h : HS) (t : HX) (s : HW) (w : World) (r : RdV w h.a0 69 (marksS 1 69)) (q : Box w s.g 3 #[.int .i64 70, .int .i64 71, .int .i64 72]) :
    Calls Tryd.prog 9 #[.agg #[.slice h.a0 69 h.c0, .slice h.a1 0 h.c1, .bool false, .slice h.a2 0 h.c2, .int .i64 1, .slice h.a3 0 h.c3, .int .i64 0, .slice h.a4 0 h.c4, .int .i64 0, .bool true, .slice t.a5 0 t.c5, .slice t.a6 0 t.c6, .slice t.a7 0 t.c7, .int .i64 1, .slice (some ⟨s.g, 0, none⟩) 3 3, .slice s.ao 0 s.co, .slice s.ad 0 s.cd, .slice s.ab 0 s.cb, .bool false], .int .i64 1] w fun e w' => e = .returned (.int .i64 73) ∧ Below w.heap.size w w' := by
  obtain ⟨V, hV⟩ : ∃ Q, w.alloc (.cells #[.slice h.a0 69 h.c0, .slice h.a1 0 h.c1, .bool false, .slice h.a2 0 h.c2, .int .i64 1, .slice h.a3 0 h.c3, .int .i64 0, .slice h.a4 0 h.c4, .int .i64 0, .bool true, .slice t.a5 0 t.c5, .slice t.a6 0 t.c6, .slice t.a7 0 t.c7, .int .i64 1, .slice (some ⟨s.g, 0, none⟩) 3 3, .slice s.ao 0 s.co, .slice s.ad 0 s.cd, .slice s.ab 0 s.cb, .bool false] 40) = Q := ⟨_, rfl⟩
  have bV : Below w.heap.size w V := by rw [← hV]; exact (Below.refl _ _).alloc (Nat.le_refl _) _
  have XV : Hid (Box V w.heap.size 40 #[.slice h.a0 69 h.c0, .slice h.a1 0 h.c1, .bool false, .slice h.a2 0 h.c2, .int .i64 1, .slice h.a3 0 h.c3, .int .i64 0, .slice h.a4 0 h.c4, .int .i64 0, .bool true, .slice t.a5 0 t.c5, .slice t.a6 0 t.c6, .slice t.a7 0 t.c7, .int .i64 1, .slice (some ⟨s.g, 0, none⟩) 3 3, .slice s.ao 0 s.co, .slice s.ad 0 s.cd, .slice s.ab 0 s.cb, .bool false]) := by unfold Hid; rw [← hV]; exact Box.new _ _ _
  have R : Hid (RdV V h.a0 69 (marksS 1 69)) := r.below bV
  have Q : Hid (Box V s.g 3 #[.int .i64 70, .int .i64 71, .int .i64 72]) := q.belowS bV
  have BV : Hid (Below w.heap.size w V) := bV
  clear r q bV
  obtain ⟨x0, x1, x2, x3, x4, x5, x6, x7, x8, x9, x10, x11, x12, x13, x14, x15, x16, x17, x18⟩ := box19 XV.out
  go_enter Tryd.func9, Tryd.ntmps9
  go_wp2_with fail
  refine (c_heldE h t V R.out).mono ?_
  rintro e w1 ⟨rfl, hb⟩
  have B1 : Hid (Below w.heap.size w w1) := BV.out.trans (hb.mono BV.out.size)
  have X1 : Hid (Box w1 w.heap.size 40 #[.slice h.a0 69 h.c0, .slice h.a1 0 h.c1, .bool false, .slice h.a2 0 h.c2, .int .i64 1, .slice h.a3 0 h.c3, .int .i64 0, .slice h.a4 0 h.c4, .int .i64 0, .bool true, .slice t.a5 0 t.c5, .slice t.a6 0 t.c6, .slice t.a7 0 t.c7, .int .i64 1, .slice (some ⟨s.g, 0, none⟩) 3 3, .slice s.ao 0 s.co, .slice s.ad 0 s.cd, .slice s.ab 0 s.cb, .bool false]) := XV.out.belowS hb
  have C := c_heldI3 s.g w1 (Q.out.belowS hb)
  clear hb hV BV XV R Q x0 x1 x2 x3 x4 x5 x6 x7 x8 x9 x10 x11 x12 x13 x14 x15 x16 x17 x18
  obtain ⟨x0, x1, x2, x3, x4, x5, x6, x7, x8, x9, x10, x11, x12, x13, x14, x15, x16, x17, x18⟩ := box19 X1.out
  go_wp2_with fail
  refine C.mono ?_
  rintro e w' ⟨rfl, hq⟩; have hq' := hq.symm; subst hq'; clear hq
  go_wp2_with fail
  refine (c_heldChange0 _ _ _ _).mono ?_
  rintro e w' ⟨rfl, hq⟩; have hq' := hq.symm; subst hq'; clear hq
  go_wp2_with fail
  refine (c_heldChange0 _ _ _ _).mono ?_
  rintro e w' ⟨rfl, hq⟩; have hq' := hq.symm; subst hq'; clear hq
  go_wp2_with fail
  refine (c_heldChange0 _ _ _ _).mono ?_
  rintro e w' ⟨rfl, hq⟩; have hq' := hq.symm; subst hq'; clear hq
  go_wp2
  go_ret
  exact ⟨rfl, B1.out⟩

end Go.Proofs.YtlocgbjdnfnilaaDoor
