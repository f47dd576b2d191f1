/-
  A tree of no keys: its branch, its node.
-/
import Derived.Test.YthnggpjgajkaeaaTa
import Derived.Deep.RegionHeld3
namespace Go.Proofs.Ythnggpjgajkaeaa
open Go Go.RowKit
attribute [local go_sem ↓] Go.wp_at_zero Go.wp_at_succ

theorem retN {fn : Func} {q : Nat} {R : Ending → World → Prop} {w' : World} {g : Nat} {a : Act} {v0 v1 v2 : Value} (hres : fn.results = #[.cell q 72]) (h0 : a.tmps.getD q undef = .pointer (some ⟨g, 0, none⟩)) (hd : a.defers = []) (hb : Box w' g 72 #[v0, v1, v2]) (hR : R (.returned (.agg #[v0, v1, v2])) w') : bodyPost Try.prog fn R .ret a w' := by
  have b0 : w'.cell? ⟨g, 0, none⟩ = some v0 := hb.cell 0
  have b1 : w'.cell? ⟨g, 1, none⟩ = some v1 := hb.cell 1
  have b2 : w'.cell? ⟨g, 2, none⟩ = some v2 := hb.cell 2
  refine bodyPost_ret (v := .agg #[v0, v1, v2]) ?_ hd hR
  have h0' : a.tmps[q]?.getD undef = .pointer (some ⟨g, 0, none⟩) := by simpa using h0
  have hl : (loadVar 72 ⟨g, 0, none⟩).run Try.prog w' = .ok (.agg #[v0, v1, v2]) w' := by simp [go_sem, b0, b1, b2]
  simp only [results, hres]
  simp [h0', asAddr, hl]
theorem put3_box {V : World} {r : Nat} {t : TypeId} {a0 a1 a2 : Value} (h : Box V r t #[a0, a1, a2]) (v0 v1 v2 : Value) : Box ((((V).setCell ⟨r, 0, none⟩ v0).setCell ⟨r, 1, none⟩ v1).setCell ⟨r, 2, none⟩ v2) r t #[v0, v1, v2] := (((h.set 0 v0).set 1 v1).set 2 v2)
theorem put3_below {w V : World} {r B : Nat} (h : Below B w V) (hg : B ≤ r) (v0 v1 v2 : Value) : Below B w ((((V).setCell ⟨r, 0, none⟩ v0).setCell ⟨r, 1, none⟩ v1).setCell ⟨r, 2, none⟩ v2) := (((h.setCell hg _).setCell hg _).setCell hg _)
theorem retT {fn : Func} {q : Nat} {R : Ending → World → Prop} {w' : World} {g : Nat} {a : Act} {v0 v1 : Value} (hres : fn.results = #[.cell q 27]) (h0 : a.tmps.getD q undef = .pointer (some ⟨g, 0, none⟩)) (hd : a.defers = []) (hb : Box w' g 27 #[v0, v1]) (hR : R (.returned (.agg #[v0, v1])) w') : bodyPost Try.prog fn R .ret a w' := by
  have b0 : w'.cell? ⟨g, 0, none⟩ = some v0 := hb.cell 0
  have b1 : w'.cell? ⟨g, 1, none⟩ = some v1 := hb.cell 1
  refine bodyPost_ret (v := .agg #[v0, v1]) ?_ hd hR
  have h0' : a.tmps[q]?.getD undef = .pointer (some ⟨g, 0, none⟩) := by simpa using h0
  have hl : (loadVar 27 ⟨g, 0, none⟩).run Try.prog w' = .ok (.agg #[v0, v1]) w' := by simp [go_sem, b0, b1]
  simp only [results, hres]
  simp [h0', asAddr, hl]
theorem put2_box {V : World} {r : Nat} {t : TypeId} {a0 a1 : Value} (h : Box V r t #[a0, a1]) (v0 v1 : Value) : Box (((V).setCell ⟨r, 0, none⟩ v0).setCell ⟨r, 1, none⟩ v1) r t #[v0, v1] := ((h.set 0 v0).set 1 v1)
theorem put2_below {w V : World} {r B : Nat} (h : Below B w V) (hg : B ≤ r) (v0 v1 : Value) : Below B w (((V).setCell ⟨r, 0, none⟩ v0).setCell ⟨r, 1, none⟩ v1) := ((h.setCell hg _).setCell hg _)
set_option maxRecDepth 100000 in
set_option maxHeartbeats 2000000 in
theorem c_isLeaf (g : Nat) (w : World) (x1 : w.cell? ⟨g, 1, none⟩ = some (.slice none 0 0)) :
    Calls Try.prog 66 #[.pointer (some ⟨g, 0, none⟩)] w fun e w' => e = .returned (.bool true) ∧ w' = w := by
  go_enter Try.func66, Try.ntmps66
  go_wp2
  go_ret
  exact ⟨rfl, rfl⟩
set_option maxRecDepth 100000 in
set_option maxHeartbeats 2000000 in
theorem c_copyS0 (w : World) :
    Calls Try.prog 67 #[.slice none 0 0] w fun e w' => e = .returned (.slice none 0 0) ∧ w' = w := by
  obtain ⟨i, hi⟩ := Option.isSome_iff_exists.1 (by kernel_rfl : (Try.prog.info? 9).isSome = true)
  go_enter Try.func67, Try.ntmps67
  go_wp2_with (at_builtin; refine wpList_append_own_none rfl (.const (.slice none 0 0)) (.tmp 3) 23 rfl w.heap.size 9 i 1 Try.underlying23 hi (.slice none 0 0) 0 [] rfl (World.ownsRow_nil w _ _ _) rfl ?_)
  go_ret
  exact ⟨rfl, rfl⟩
set_option maxRecDepth 100000 in
set_option maxHeartbeats 2000000 in
theorem c_grown1 (a : Option Addr) (c : Nat) (w : World) :
    Calls Try.prog 62 #[.slice a 1 c] w fun e w' => e = .returned (.slice a 1 c) ∧ w' = w := by
  go_enter Try.func62, Try.ntmps62
  go_wp2
  go_ret
  exact ⟨rfl, rfl⟩
set_option maxRecDepth 100000 in
set_option maxHeartbeats 2000000 in
theorem c_leaves0 (w : World) :
    Calls Try.prog 63 #[.slice none 0 0] w fun e w' => e = .returned (.slice (some ⟨w.heap.size + 1, 0, none⟩) 1 1) ∧ w' = (w.alloc (.cells #[.slice none 0 0, .slice none 0 0, .int .i64 0] 88)).alloc (.cells #[.pointer (some ⟨w.heap.size, 0, none⟩)] 57) := by
  go_enter Try.func63, Try.ntmps63
  go_wp2
  go_ret
  exact ⟨by simp, rfl⟩
set_option maxRecDepth 100000 in
set_option maxHeartbeats 2000000 in
theorem c_node (g : Nat) (p : Int) (w : World) (h : Box w g 88 #[.slice none 0 0, .slice none 0 0, .int .i64 p]) :
    Calls Try.prog 64 #[.pointer (some ⟨g, 0, none⟩)] w fun e w' => e = .returned (.agg #[.bool true, .slice none 0 0, .slice none 0 0]) ∧ Below w.heap.size w w' := by
  obtain ⟨V, hV⟩ : ∃ V, w.alloc (.cells #[.bool false, .slice none 0 0, .slice none 0 0] 72) = V := ⟨_, rfl⟩
  have bV : Below w.heap.size w V := by rw [← hV]; exact (Below.refl _ _).alloc (Nat.le_refl _) _
  have SV : V.heap.size = w.heap.size + 1 := by rw [← hV]; simp
  have XV : Hid (Box V w.heap.size 72 #[.bool false, .slice none 0 0, .slice none 0 0]) := by unfold Hid; rw [← hV]; exact Box.new _ _ _
  have HV : Hid (Box V g 88 #[.slice none 0 0, .slice none 0 0, .int .i64 p]) := h.belowS bV
  have BV : Hid (Below w.heap.size w V) := bV
  have C1 : Hid (∀ W, W.cell? ⟨g, 1, none⟩ = some (.slice none 0 0) → Calls Try.prog 66 #[.pointer (some ⟨g, 0, none⟩)] W fun e w' => e = .returned (.bool true) ∧ w' = W) := fun W hW => c_isLeaf g W hW
  have C2 : Hid (∀ W, Calls Try.prog 67 #[.slice none 0 0] W fun e w' => e = .returned (.slice none 0 0) ∧ w' = W) := fun W => c_copyS0 W
  have x0 : V.cell? ⟨g, 0, none⟩ = some (.slice none 0 0) := HV.out.cell 0
  have x1 : V.cell? ⟨g, 1, none⟩ = some (.slice none 0 0) := HV.out.cell 1
  clear h bV
  go_enter Try.func64, Try.ntmps64
  go_wp2_with fail
  go_region_held3 (fun x => x.cell? ⟨g, 0, none⟩ = some (.slice none 0 0) ∧ x.cell? ⟨g, 1, none⟩ = some (.slice none 0 0))
    (first | go_keep | exact ⟨x0, x1⟩ | exact ⟨far6 (w := V.drew) ((Below.refl _ _).alloc (Nat.le_refl _) _) x0, far6 (w := V.drew) ((Below.refl _ _).alloc (Nat.le_refl _) _) x1⟩)
    (first
      | (go_at_call 66
         refine (C1.out _ (by first | exact x1 | exact far6 (w := V.drew) ((Below.refl _ _).alloc (Nat.le_refl _) _) x1)).mono ?_
         rintro e w' ⟨rfl, hq⟩; have hq' := hq.symm; subst hq'; clear hq)
      | (go_at_call 67
         refine (C2.out _).mono ?_
         rintro e w' ⟨rfl, hq⟩; have hq' := hq.symm; subst hq'; clear hq))
  all_goals
    obtain ⟨U, hU⟩ : ∃ U, V.alloc (.cells #[.bool true, .slice none 0 0, .slice none 0 0] 72) = U := ⟨_, rfl⟩
    rw [hU]
    have bU : Below V.heap.size V U := by rw [← hU]; exact (Below.refl _ _).alloc (Nat.le_refl _) _
    have XU : Box U (w.heap.size + 1) 72 #[.bool true, .slice none 0 0, .slice none 0 0] := by rw [← hU, ← SV]; exact Box.new _ _ _
    have BU : Hid (Below w.heap.size w U) := BV.out.trans (bU.mono (by omega))
    have u0 : U.cell? ⟨w.heap.size + 1, 0, none⟩ = some (.bool true) := XU.cell 0
    have u1 : U.cell? ⟨w.heap.size + 1, 1, none⟩ = some (.slice none 0 0) := XU.cell 1
    have u2 : U.cell? ⟨w.heap.size + 1, 2, none⟩ = some (.slice none 0 0) := XU.cell 2
    have v0 : U.cell? ⟨w.heap.size, 0, none⟩ = some (.bool false) := (XV.out.belowS bU).cell 0
    have v1 : U.cell? ⟨w.heap.size, 1, none⟩ = some (.slice none 0 0) := (XV.out.belowS bU).cell 1
    have v2 : U.cell? ⟨w.heap.size, 2, none⟩ = some (.slice none 0 0) := (XV.out.belowS bU).cell 2
    have t0 := (XV.out.belowS bU).thaw 0
    have t1 := (XV.out.belowS bU).thaw 1
    have t2 := (XV.out.belowS bU).thaw 2
    have y1 : U.cell? ⟨g, 1, none⟩ = some (.slice none 0 0) := far6 bU x1
    have XU0 : Hid (Box U w.heap.size 72 #[.bool false, .slice none 0 0, .slice none 0 0]) := XV.out.belowS bU
    clear bU XU hU x0 x1 C1 C2 XV HV BV
    go_wp2_with fail
    go_loop [19] (fun i => i = .int .i64 0) (fun _ => 0)
    case atStart => rfl
    case round =>
      obtain rfl := hrel
      go_wp2
      exact retN Try.results64 rfl rfl (put3_box (XU0.out.drewN 1) _ _ _) ⟨rfl, put3_below BU.out.drew (Nat.le_refl _) _ _ _⟩

end Go.Proofs.Ythnggpjgajkaeaa
