/-
  Trees as they are made: one leaf that is empty; alike, marked, held.
-/
import Derived.Test.YthnggpjgajkaeaaBx
import Derived.Deep.RegionHeld3
namespace Go.Proofs.Ythnggpjgajkaeaa
open Go Go.RowKit
attribute [local go_sem ↓] Go.wp_at_zero Go.wp_at_succ

set_option maxRecDepth 100000 in
set_option maxHeartbeats 2000000 in
theorem c_eqString0 (w : World) :
    Calls Try.prog 33 #[.slice none 0 0, .slice none 0 0] w fun e w' => e = .returned (.bool true) ∧ w' = w := by
  go_enter Try.func33, Try.ntmps33
  go_wp2
  go_loop [5] (fun i => i = .int .i64 0) (fun _ => 0)
  case atStart => rfl
  case round =>
    obtain rfl := hrel
    go_wp2
    go_ret
    exact ⟨rfl, rfl⟩
set_option maxRecDepth 100000 in
set_option maxHeartbeats 2000000 in
theorem c_markString0 (k : Int) (w : World) :
    Calls Try.prog 34 #[.slice none 0 0, .int .i64 k] w fun e w' => e = .returned (.int .i64 k) ∧ w' = w := by
  go_enter Try.func34, Try.ntmps34
  go_wp2
  go_loop [1, 5] (fun x i => x = .int .i64 k ∧ i = .int .i64 0) (fun _ _ => 0)
  case atStart => exact ⟨rfl, rfl⟩
  case round =>
    obtain ⟨rfl, rfl⟩ := hrel
    go_wp2
    go_ret
    exact ⟨rfl, rfl⟩
set_option maxRecDepth 100000 in
set_option maxHeartbeats 2000000 in
theorem c_heldString0 (k : Int) (w : World) :
    Calls Try.prog 35 #[.slice none 0 0, .int .i64 k] w fun e w' => e = .returned (.int .i64 k) ∧ w' = w := by
  go_enter Try.func35, Try.ntmps35
  go_wp2
  go_loop [1, 5] (fun x i => x = .int .i64 k ∧ i = .int .i64 0) (fun _ _ => 0)
  case atStart => exact ⟨rfl, rfl⟩
  case round =>
    obtain ⟨rfl, rfl⟩ := hrel
    go_wp2
    go_ret
    exact ⟨rfl, rfl⟩
set_option maxRecDepth 100000 in
set_option maxHeartbeats 2000000 in
theorem c_eqInt0 (w : World) :
    Calls Try.prog 95 #[.slice none 0 0, .slice none 0 0] w fun e w' => e = .returned (.bool true) ∧ w' = w := by
  go_enter Try.func95, Try.ntmps95
  go_wp2
  go_loop [5] (fun i => i = .int .i64 0) (fun _ => 0)
  case atStart => rfl
  case round =>
    obtain rfl := hrel
    go_wp2
    go_ret
    exact ⟨rfl, rfl⟩
set_option maxRecDepth 100000 in
set_option maxHeartbeats 2000000 in
theorem c_markInt0 (k : Int) (w : World) :
    Calls Try.prog 80 #[.slice none 0 0, .int .i64 k] w fun e w' => e = .returned (.int .i64 k) ∧ w' = w := by
  go_enter Try.func80, Try.ntmps80
  go_wp2
  go_loop [1, 5] (fun x i => x = .int .i64 k ∧ i = .int .i64 0) (fun _ _ => 0)
  case atStart => exact ⟨rfl, rfl⟩
  case round =>
    obtain ⟨rfl, rfl⟩ := hrel
    go_wp2
    go_ret
    exact ⟨rfl, rfl⟩
set_option maxRecDepth 100000 in
set_option maxHeartbeats 2000000 in
theorem c_heldInt0 (k : Int) (w : World) :
    Calls Try.prog 81 #[.slice none 0 0, .int .i64 k] w fun e w' => e = .returned (.int .i64 k) ∧ w' = w := by
  go_enter Try.func81, Try.ntmps81
  go_wp2
  go_loop [1, 5] (fun x i => x = .int .i64 k ∧ i = .int .i64 0) (fun _ _ => 0)
  case atStart => exact ⟨rfl, rfl⟩
  case round =>
    obtain ⟨rfl, rfl⟩ := hrel
    go_wp2
    go_ret
    exact ⟨rfl, rfl⟩
/-- The block at b begins with a node that is a leaf or none, and empty. -/
def NB (w : World) (b : Nat) (x : Bool) : Prop := ∃ cur, Box w b 72 cur ∧ cur[0]? = some (.bool x) ∧ cur[1]? = some (.slice none 0 0) ∧ cur[2]? = some (.slice none 0 0)
theorem NB.lt {w : World} {b : Nat} {x : Bool} (h : NB w b x) : b < w.heap.size := by obtain ⟨_, h, _⟩ := h; exact h.lt
theorem NB.below {w w' : World} {b : Nat} {x : Bool} (h : NB w b x) (hb : Below w.heap.size w w') : NB w' b x := by obtain ⟨c, h, r⟩ := h; exact ⟨c, h.belowS hb, r⟩
theorem NB.inn {w w' : World} {b B E : Nat} {x : Bool} (h : NB w b x) (hb : Inn B E w w') (hg : b < B ∨ E ≤ b) : NB w' b x := by obtain ⟨c, h, r⟩ := h; exact ⟨c, h.innO hb hg, r⟩
theorem NB.cells {w : World} {b : Nat} {x : Bool} (h : NB w b x) : w.cell? ⟨b, 0, none⟩ = some (.bool x) ∧ w.cell? ⟨b, 1, none⟩ = some (.slice none 0 0) ∧ w.cell? ⟨b, 2, none⟩ = some (.slice none 0 0) := by
  obtain ⟨c, h, r0, r1, r2⟩ := h
  exact ⟨(h.cell 0).trans r0, (h.cell 1).trans r1, (h.cell 2).trans r2⟩
theorem NB.thaw {w : World} {b : Nat} {x : Bool} (h : NB w b x) : w.frozen? ⟨b, 0, none⟩ = false := by obtain ⟨c, h, _⟩ := h; exact h.thaw 0
theorem NB.set {w : World} {b : Nat} {x : Bool} (h : NB w b x) (y : Bool) : NB (w.setCell ⟨b, 0, none⟩ (.bool y)) b y := by
  obtain ⟨c, h, r0, r1, r2⟩ := h
  have hl : 0 < c.size := (Array.getElem?_eq_some_iff.1 r0).1
  refine ⟨_, h.set 0 (.bool y), ?_, ?_, ?_⟩
  · simp [hl]
  · rw [Array.getElem?_setIfInBounds]; simpa using r1
  · rw [Array.getElem?_setIfInBounds]; simpa using r2
set_option maxRecDepth 100000 in
set_option maxHeartbeats 2000000 in
theorem c_eqN (x : Bool) (w : World) :
    Calls Try.prog 79 #[.agg #[.bool x, .slice none 0 0, .slice none 0 0], .agg #[.bool x, .slice none 0 0, .slice none 0 0]] w fun e w' => e = .returned (.bool true) ∧ Below w.heap.size w w' := by
  have e1 : (x != x) = false := by simp
  go_enter Try.func79, Try.ntmps79
  go_wp2_with (first | (go_at_call 33; refine (c_eqString0 _).mono ?_; rintro e w' ⟨rfl, hq⟩; have hq' := hq.symm; subst hq'; clear hq) | (go_at_call 95; refine (c_eqInt0 _).mono ?_; rintro e w' ⟨rfl, hq⟩; have hq' := hq.symm; subst hq'; clear hq))
  go_ret
  exact ⟨rfl, ((Below.refl w.heap.size w).alloc (Nat.le_refl _) _).alloc (by simp) _⟩
set_option maxRecDepth 100000 in
set_option maxHeartbeats 2000000 in
theorem c_eqNS (b b' c c' : Nat) (x0 : Bool) (w : World) (r : NB w b x0) (r' : NB w b' x0) :
    Calls Try.prog 52 #[.slice (some ⟨b, 0, none⟩) 1 c, .slice (some ⟨b', 0, none⟩) 1 c'] w fun e w' => e = .returned (.bool true) ∧ Below w.heap.size w w' := by
  have r1 : Hid (NB w b x0) := r
  have r2 : Hid (NB w b' x0) := r'
  clear r r'
  go_enter Try.func52, Try.ntmps52
  go_wp2
  go_loopw [5] (fun i wr => ∃ k : Nat, k ≤ 1 ∧ i = .int .i64 k ∧ Below w.heap.size w wr) (fun i _ => 1 - (intOf i).toNat)
  case atStart => exact ⟨0, by omega, rfl, Below.refl _ _⟩
  case round =>
    obtain ⟨k, hk, rfl, hb⟩ := hrel
    by_cases hlt : k < 1
    · obtain rfl : k = 0 := by omega
      obtain ⟨e0, e1, e2⟩ := (r1.out.below hb).cells
      obtain ⟨y0, y1, y2⟩ := (r2.out.below hb).cells
      have C : Hid (∀ wx, Calls Try.prog 79 #[.agg #[.bool x0, .slice none 0 0, .slice none 0 0], .agg #[.bool x0, .slice none 0 0, .slice none 0 0]] wx fun e w' => e = .returned (.bool true) ∧ Below wx.heap.size wx w') := fun wx => c_eqN x0 wx
      go_wp2_with fail
      go_region_held3 (fun x => x.cell? ⟨b, 0, none⟩ = some (.bool x0) ∧ x.cell? ⟨b, 1, none⟩ = some (.slice none 0 0) ∧ x.cell? ⟨b, 2, none⟩ = some (.slice none 0 0) ∧ x.cell? ⟨b', 0, none⟩ = some (.bool x0) ∧ x.cell? ⟨b', 1, none⟩ = some (.slice none 0 0) ∧ x.cell? ⟨b', 2, none⟩ = some (.slice none 0 0))
        (first | go_keep | (exact ⟨far6 hb3 e0, far6 hb3 e1, far6 hb3 e2, far6 hb3 y0, far6 hb3 y1, far6 hb3 y2⟩))
        (first | (go_at_call 79; refine (C.out _).mono ?_; rintro e w3 ⟨rfl, hb3⟩))
      have hb' : Below w.heap.size w w3 := hb.drew.trans (hb3.mono hb.size)
      clear hb3 e0 e1 e2 y0 y1 y2 C
      go_wp2
      go_roundw
      case rel => exact ⟨1, by omega, by go_num, hb'⟩
      case measure => simp [intOf]
    · obtain rfl : k = 1 := by omega
      go_wp2
      go_ret
      exact ⟨rfl, hb⟩
set_option maxRecDepth 100000 in
set_option maxHeartbeats 2000000 in
theorem c_eqT (b b' c c' : Nat) (x0 : Bool) (w : World) (r : NB w b x0) (r' : NB w b' x0) :
    Calls Try.prog 24 #[.agg #[.int .i64 0, .slice (some ⟨b, 0, none⟩) 1 c], .agg #[.int .i64 0, .slice (some ⟨b', 0, none⟩) 1 c']] w fun e w' => e = .returned (.bool true) ∧ Below w.heap.size w w' := by
  obtain ⟨V0, hV0⟩ : ∃ Q, w.alloc (.cells #[.int .i64 0, .slice (some ⟨b, 0, none⟩) 1 c] 27) = Q := ⟨_, rfl⟩
  have bV0 : Below w.heap.size w V0 := by rw [← hV0]; exact (Below.refl _ _).alloc (Nat.le_refl _) _
  have XV0 : Hid (Box V0 w.heap.size 27 #[.int .i64 0, .slice (some ⟨b, 0, none⟩) 1 c]) := by unfold Hid; rw [← hV0]; exact Box.new _ _ _
  obtain ⟨V, hV⟩ : ∃ Q, V0.alloc (.cells #[.int .i64 0, .slice (some ⟨b', 0, none⟩) 1 c'] 27) = Q := ⟨_, rfl⟩
  have bV : Below V0.heap.size V0 V := by rw [← hV]; exact (Below.refl _ _).alloc (Nat.le_refl _) _
  have XV : Hid (Box V V0.heap.size 27 #[.int .i64 0, .slice (some ⟨b', 0, none⟩) 1 c']) := by unfold Hid; rw [← hV]; exact Box.new _ _ _
  have BV : Hid (Below w.heap.size w V) := bV0.trans (bV.mono bV0.size)
  have x0' := (XV0.out.belowS bV).cell 0
  have x1 : V.cell? ⟨w.heap.size, 1, none⟩ = some (.slice (some ⟨b, 0, none⟩) 1 c) := (XV0.out.belowS bV).cell 1
  have x2 : V.cell? ⟨w.heap.size, 0, none⟩ = some (.int .i64 0) := (XV0.out.belowS bV).cell 0
  have y1 : V.cell? ⟨V0.heap.size, 1, none⟩ = some (.slice (some ⟨b', 0, none⟩) 1 c') := XV.out.cell 1
  have y2 : V.cell? ⟨V0.heap.size, 0, none⟩ = some (.int .i64 0) := XV.out.cell 0
  have R : Hid (NB V b x0) := r.below BV.out
  have R' : Hid (NB V b' x0) := r'.below BV.out
  clear bV0 bV r r' x0'
  go_enter Try.func24, Try.ntmps24
  go_wp2_with fail
  refine (c_eqNS b b' c c' x0 V R.out R'.out).mono ?_
  rintro e w1 ⟨rfl, hb⟩
  have B1 : Hid (Below w.heap.size w w1) := BV.out.trans (hb.mono BV.out.size)
  clear hb
  go_wp2
  go_ret
  exact ⟨rfl, B1.out⟩
set_option maxRecDepth 100000 in
set_option maxHeartbeats 2000000 in
theorem c_markNS (b c : Nat) (x0 : Bool) (w : World) (r : NB w b x0) :
    Calls Try.prog 53 #[.slice (some ⟨b, 0, none⟩) 1 c, .int .i64 1] w fun e w' => e = .returned (.int .i64 2) ∧ NB w' b false ∧ Inn b (b + 1) w w' := by
  have r1 : Hid (NB w b x0) := r
  clear r
  go_enter Try.func53, Try.ntmps53
  go_wp2
  go_loopw [1, 5] (fun x i wr => (x = .int .i64 1 ∧ i = .int .i64 0 ∧ wr = w) ∨ (x = .int .i64 2 ∧ i = .int .i64 1 ∧ NB wr b false ∧ Inn b (b + 1) w wr)) (fun _ i _ => 1 - (intOf i).toNat)
  case atStart => exact .inl ⟨rfl, rfl, rfl⟩
  case round =>
    rcases hrel with ⟨rfl, rfl, rfl⟩ | ⟨rfl, rfl, hN, hI⟩
    · obtain ⟨e0, e1, e2⟩ := r1.out.cells
      have th := r1.out.thaw
      obtain ⟨V, hV⟩ : ∃ V, wr.setCell ⟨b, 0, none⟩ (.bool false) = V := ⟨_, rfl⟩
      have NV : Hid (NB V b false) := by unfold Hid; rw [← hV]; exact r1.out.set false
      have IV : Hid (Inn b (b + 1) wr V) := by unfold Hid; rw [← hV]; exact ⟨rfl, rfl, rfl, by simp, fun k _ ho => Below.heap_setCell wr _ _ k (by show k ≠ b; omega)⟩
      obtain ⟨d0, d1, d2⟩ := NV.out.cells
      go_wp2_with (first | (go_at_call 34; refine (c_markString0 _ _).mono ?_; rintro e w' ⟨rfl, hq⟩; have hq' := hq.symm; subst hq'; clear hq) | (go_at_call 80; refine (c_markInt0 _ _).mono ?_; rintro e w' ⟨rfl, hq⟩; have hq' := hq.symm; subst hq'; clear hq))
      go_roundw
      case rel => exact .inr ⟨by go_num, by go_num, NV.out, IV.out⟩
      case measure => simp [intOf]
    · have NV : Hid (NB wr b false) := hN
      have IV : Hid (Inn b (b + 1) w wr) := hI
      clear hN hI
      go_wp2
      go_ret
      exact ⟨rfl, NV.out, IV.out⟩
set_option maxRecDepth 100000 in
set_option maxHeartbeats 2000000 in
theorem c_heldNS (b c : Nat) (w : World) (r : NB w b false) :
    Calls Try.prog 54 #[.slice (some ⟨b, 0, none⟩) 1 c, .int .i64 1] w fun e w' => e = .returned (.int .i64 2) ∧ w' = w := by
  obtain ⟨e0, e1, e2⟩ := r.cells
  clear r
  go_enter Try.func54, Try.ntmps54
  go_wp2
  go_loop [1, 5] (fun x i => (x = .int .i64 1 ∧ i = .int .i64 0) ∨ (x = .int .i64 2 ∧ i = .int .i64 1)) (fun _ i => 1 - (intOf i).toNat)
  case atStart => exact .inl ⟨rfl, rfl⟩
  case round =>
    rcases hrel with ⟨rfl, rfl⟩ | ⟨rfl, rfl⟩
    · go_wp2_with (first | (go_at_call 35; refine (c_heldString0 _ _).mono ?_; rintro e w' ⟨rfl, hq⟩; have hq' := hq.symm; subst hq'; clear hq) | (go_at_call 81; refine (c_heldInt0 _ _).mono ?_; rintro e w' ⟨rfl, hq⟩; have hq' := hq.symm; subst hq'; clear hq))
      go_round
      case rel => exact .inr ⟨by go_num, by go_num⟩
      case measure => simp [intOf]
    · go_wp2
      go_ret
      exact ⟨rfl, rfl⟩
set_option maxRecDepth 100000 in
set_option maxHeartbeats 2000000 in
theorem c_markT (b c : Nat) (x0 : Bool) (w : World) (r : NB w b x0) :
    Calls Try.prog 25 #[.agg #[.int .i64 0, .slice (some ⟨b, 0, none⟩) 1 c], .int .i64 1] w fun e w' => e = .returned (.int .i64 2) ∧ NB w' b false ∧ Inn b (b + 1) w w' := by
  obtain ⟨V, hV⟩ : ∃ Q, w.alloc (.cells #[.int .i64 0, .slice (some ⟨b, 0, none⟩) 1 c] 27) = Q := ⟨_, rfl⟩
  have bV : Below w.heap.size w V := by rw [← hV]; exact (Below.refl _ _).alloc (Nat.le_refl _) _
  have XV : Hid (Box V w.heap.size 27 #[.int .i64 0, .slice (some ⟨b, 0, none⟩) 1 c]) := by unfold Hid; rw [← hV]; exact Box.new _ _ _
  have x1 : V.cell? ⟨w.heap.size, 1, none⟩ = some (.slice (some ⟨b, 0, none⟩) 1 c) := XV.out.cell 1
  have R : Hid (NB V b x0) := r.below bV
  have IV : Hid (Inn b (b + 1) w V) := Inn.of_below bV
  clear bV r
  go_enter Try.func25, Try.ntmps25
  go_wp2_with fail
  refine (c_markNS b c x0 V R.out).mono ?_
  rintro e w1 ⟨rfl, hn, hi⟩
  have N1 : Hid (NB w1 b false) := hn
  have I1 : Hid (Inn b (b + 1) w w1) := IV.out.trans hi
  clear hn hi
  go_wp2
  go_ret
  exact ⟨rfl, N1.out, I1.out⟩
set_option maxRecDepth 100000 in
set_option maxHeartbeats 2000000 in
theorem c_heldT (b c : Nat) (w : World) (r : NB w b false) :
    Calls Try.prog 26 #[.agg #[.int .i64 0, .slice (some ⟨b, 0, none⟩) 1 c], .int .i64 1] w fun e w' => e = .returned (.int .i64 2) ∧ Below w.heap.size w w' := by
  obtain ⟨V, hV⟩ : ∃ Q, w.alloc (.cells #[.int .i64 0, .slice (some ⟨b, 0, none⟩) 1 c] 27) = Q := ⟨_, rfl⟩
  have bV : Below w.heap.size w V := by rw [← hV]; exact (Below.refl _ _).alloc (Nat.le_refl _) _
  have XV : Hid (Box V w.heap.size 27 #[.int .i64 0, .slice (some ⟨b, 0, none⟩) 1 c]) := by unfold Hid; rw [← hV]; exact Box.new _ _ _
  have x1 : V.cell? ⟨w.heap.size, 1, none⟩ = some (.slice (some ⟨b, 0, none⟩) 1 c) := XV.out.cell 1
  have R : Hid (NB V b false) := r.below bV
  have BV : Hid (Below w.heap.size w V) := bV
  clear bV r
  go_enter Try.func26, Try.ntmps26
  go_wp2_with fail
  refine (c_heldNS b c V R.out).mono ?_
  rintro e w1 ⟨rfl, rfl⟩
  go_wp2
  go_ret
  exact ⟨rfl, BV.out⟩

end Go.Proofs.Ythnggpjgajkaeaa
