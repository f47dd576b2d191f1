/-
  A law's tree copied and compared.
-/
import Derived.Test.YthnggpjgajkaeaaTr
import Derived.Test.YthnggpjgajkaeaaTa
namespace Go.Proofs.Ythnggpjgajkaeaa
open Go Go.RowKit
attribute [local go_sem ↓] Go.wp_at_zero Go.wp_at_succ

/-- A copy of a law's tree. -/
structure TrC (w : World) (x n : Nat) (vs gs : List TNode) : Prop where
  same : SameN vs gs
  rd : RdN w (some ⟨x, 0, none⟩) n gs
  fit : ∀ i, i < n → FitN (gs.getD i zeroN)
  nil : ∀ i, i < n → (gs.getD i zeroN).ka = none → (gs.getD i zeroN).kc = 0
theorem TrC.below {w w' : World} {x n : Nat} {vs gs : List TNode} (h : TrC w x n vs gs) (hb : Below w.heap.size w w') : TrC w' x n vs gs := ⟨h.same, h.rd.below hb, h.fit, h.nil⟩
theorem TrC.says {w : World} {x n : Nat} {vs gs : List TNode} (h : TrC w x n vs gs) : gs.map saysN = vs.map saysN := h.same.symm
theorem fit_same {w w' : World} {v u : TNode} (hv : InN w v) (hu : InN w' u) (hs : saysN v = saysN u) (hf : FitN v) : FitN u := by
  simp only [saysN, Prod.mk.injEq] at hs
  have a1 : v.ks.length = v.kn := by have := hv.1.1; simpa using this
  have a2 : u.ks.length = u.kn := by have := hu.1.1; simpa using this
  have b1 : v.js.length = v.im := by have := hv.2.1; simpa using this
  have b2 : u.js.length = u.im := by have := hu.2.1; simpa using this
  obtain ⟨h1, h2, h3⟩ := hf
  rw [hs.2.1] at a1 h3
  rw [hs.2.2] at b1
  exact ⟨by omega, by omega, h3⟩
set_option maxRecDepth 100000 in
set_option maxHeartbeats 8000000 in
theorem c_toTC (ro : Int) (a : Option Addr) (n c : Nat) (vs : List TNode) (w : World) (hr : RdN w a n vs) (hn : n ≤ 1048576) (hf : ∀ i, i < n → FitN (vs.getD i zeroN)) :
    Calls Try.prog 29 #[.agg #[.int .i64 ro, .slice a n c]] w fun e w' => (∃ (x : Nat) (gs : List TNode), e = .returned (.agg #[.int .i64 ro, .slice (some ⟨x, 0, none⟩) n n]) ∧ TrC w' x n vs gs) ∧ Below w.heap.size w w' := by
  refine (c_toT ro a n c vs w hr hn hf).mono ?_
  rintro e w' ⟨⟨x, gs, rfl, hs, ho, hof, _, _⟩, hb⟩
  have hl : gs.length = n := by rw [← hs.len]; exact hr.1
  have hin : ∀ i, i < n → InN w' (gs.getD i zeroN) := fun i hi => (hof i (by omega)).inn
  refine ⟨⟨x, gs, rfl, hs, RdN.own ho hin, fun i hi => fit_same (hr.2.2 i hi) (hin i hi) (hs.at i) (hf i hi), fun i hi => own_src (hof i (by omega)).1⟩, hb⟩
set_option maxRecDepth 100000 in
set_option maxHeartbeats 8000000 in
theorem c_eqT2 (ro : Int) (a a' : Option Addr) (n c c' : Nat) (vs us : List TNode) (w : World) (hr : RdN w a n vs) (hr' : RdN w a' n us) (hs : SameN vs us) (hn : n ≤ 1048576) (hf : ∀ i, i < n → FitN (vs.getD i zeroN)) :
    Calls Try.prog 24 #[.agg #[.int .i64 ro, .slice a n c], .agg #[.int .i64 ro, .slice a' n c']] w fun e w' => e = .returned (.bool true) ∧ Below w.heap.size w w' := by
  obtain ⟨V0, hV0⟩ : ∃ Q, w.alloc (.cells #[.int .i64 ro, .slice a n c] 27) = Q := ⟨_, rfl⟩
  have bV0 : Below w.heap.size w V0 := by rw [← hV0]; exact (Below.refl _ _).alloc (Nat.le_refl _) _
  have XV0 : Hid (Box V0 w.heap.size 27 #[.int .i64 ro, .slice a n c]) := by unfold Hid; rw [← hV0]; exact Box.new _ _ _
  obtain ⟨V, hV⟩ : ∃ Q, V0.alloc (.cells #[.int .i64 ro, .slice a' n c'] 27) = Q := ⟨_, rfl⟩
  have bV : Below V0.heap.size V0 V := by rw [← hV]; exact (Below.refl _ _).alloc (Nat.le_refl _) _
  have XV : Hid (Box V V0.heap.size 27 #[.int .i64 ro, .slice a' n c']) := by unfold Hid; rw [← hV]; exact Box.new _ _ _
  have BV : Hid (Below w.heap.size w V) := bV0.trans (bV.mono bV0.size)
  have x1 : V.cell? ⟨w.heap.size, 1, none⟩ = some (.slice a n c) := (XV0.out.belowS bV).cell 1
  have x2 : V.cell? ⟨w.heap.size, 0, none⟩ = some (.int .i64 ro) := (XV0.out.belowS bV).cell 0
  have y1 : V.cell? ⟨V0.heap.size, 1, none⟩ = some (.slice a' n c') := XV.out.cell 1
  have y2 : V.cell? ⟨V0.heap.size, 0, none⟩ = some (.int .i64 ro) := XV.out.cell 0
  have C := c_eqNL a a' n c c' vs us V (hr.below BV.out) (hr'.below BV.out) hs hn hf
  have nn : (ro != ro) = false := by simp
  clear bV0 bV hr hr' hs hf
  go_enter Try.func24, Try.ntmps24
  go_wp2_with fail
  refine C.mono ?_
  rintro e w1 ⟨rfl, hb⟩
  have B1 : Hid (Below w.heap.size w w1) := BV.out.trans (hb.mono BV.out.size)
  clear hb C
  go_wp2
  go_ret
  exact ⟨rfl, B1.out⟩

end Go.Proofs.Ythnggpjgajkaeaa
