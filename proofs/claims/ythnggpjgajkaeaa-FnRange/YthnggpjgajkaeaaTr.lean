/-
  Nodes and trees that say the same compare alike.
-/
import Derived.Test.YthnggpjgajkaeaaTq
import Derived.Deep.RegionHeld3
namespace Go.Proofs.Ythnggpjgajkaeaa
open Go Go.RowKit
attribute [local go_sem ↓] Go.wp_at_zero Go.wp_at_succ

def sameToI (zs zs' : List (Int)) (k : Nat) : Prop := ∀ j, j < k → zs.getD j (0) = zs'.getD j (0)
theorem same_allI {zs zs' : List (Int)} (hl : zs.length = zs'.length) (h : sameToI zs zs' zs.length) : zs = zs' := by
  apply List.ext_getElem hl
  intro i h1 h2
  have := h i h1
  rwa [List.getD_eq_getElem?_getD, List.getElem?_eq_getElem h1, List.getD_eq_getElem?_getD, List.getElem?_eq_getElem h2] at this

set_option maxHeartbeats 1000000 in
theorem c_eqI (a a' : Option Addr) (n cap n' cap' : Nat) (zs zs' : List (Int)) (w : World) (hr : RdV w a n (zs.map (Value.int .i64))) (hr' : RdV w a' n' (zs'.map (Value.int .i64))) (hn : n ≤ 1048576) (hn' : n' ≤ 1048576) :
    Calls Try.prog 95 #[.slice a n cap, .slice a' n' cap'] w fun e w' => e = .returned (.bool (decide (zs = zs'))) ∧ ∃ q, w' = w.drewN q := by
  obtain ⟨hl, hcs⟩ := hr
  obtain ⟨hl', hcs'⟩ := hr'
  simp only [List.length_map] at hl hl'
  by_cases hnn : n = n'
  · subst hnn
    have hll : zs.length = zs'.length := by omega
    go_enter Try.func95, Try.ntmps95
    go_wp2
    go_loopw [5] (fun i wr => ∃ k : Nat, k ≤ n ∧ i = .int .i64 k ∧ Hid (sameToI zs zs' k) ∧ ∃ q, wr = w.drewN q) (fun i _ => n - (intOf i).toNat)
    case atStart => exact ⟨0, by omega, rfl, fun j h => absurd h (by omega), 0, rfl⟩
    case round =>
      obtain ⟨k, hk, rfl, HS, q, rfl⟩ := hrel
      by_cases hlt : k < n
      · obtain ⟨b, off, rfl, _, hc⟩ := hcs (by omega)
        obtain ⟨b', off', rfl, _, hc'⟩ := hcs' (by omega)
        obtain ⟨z, hz⟩ : ∃ z, z = zs.getD k (0) := ⟨_, rfl⟩
        obtain ⟨z', hz'⟩ : ∃ z, z = zs'.getD k (0) := ⟨_, rfl⟩
        have hck : w.cell? ⟨b, off + k, none⟩ = some ((Value.int .i64) z) := by rw [hz, hc k hlt]; exact map_get _ _ _ _ (by omega)
        have hck' : w.cell? ⟨b', off' + k, none⟩ = some ((Value.int .i64) z') := by rw [hz', hc' k hlt]; exact map_get _ _ _ _ (by omega)
        have g1 : (0 : Int) ≤ (k : Int) := by omega
        have g2 : (k : Int) < (n : Int) := by omega
        have HZ : Hid (z = zs.getD k (0)) := hz
        have HZ' : Hid (z' = zs'.getD k (0)) := hz'
        clear hc hc' hcs hcs' hz hz'
        by_cases he : z = z'
        · have HE : Hid (z = z') := he
          have he1 : (z != z') = false := by simp [he]
          clear he
          go_wp2_with fail
          go_quiet (fail)
          go_wp2
          go_roundw
          case rel => exact ⟨k + 1, by omega, by go_num, fun j hj => if e : j = k then by rw [e, ← HZ.out, ← HZ'.out]; exact HE.out else HS.out j (by omega), _, rfl⟩
          case measure => simp [intOf]; omega
        · have HE : Hid (¬ z = z') := he
          have he1 : (z != z') = true := by simpa using he
          clear he
          go_wp2_with fail
          go_quiet (fail)
          go_wp2
          go_ret
          exact ⟨ret_bool (decide_eq_false fun e => HE.out (by rw [HZ.out, HZ'.out, e])).symm, _, World.drewN_drewN _ _ _⟩
      · have e : k = n := by omega
        subst e
        go_wp2
        go_ret
        exact ⟨ret_bool (decide_eq_true (same_allI hll (by rw [hl]; exact HS.out))).symm, q, rfl⟩
  · have hne : ((n : Int) != (n' : Int)) = true := by simp; omega
    go_enter Try.func95, Try.ntmps95
    go_wp2
    go_ret
    exact ⟨ret_bool (decide_eq_false fun e => hnn (by rw [← hl, ← hl', e])).symm, 0, rfl⟩

set_option maxRecDepth 100000 in
set_option maxHeartbeats 8000000 in
theorem c_eqN1 (lf : Bool) (ka ka' ia ia' : Option Addr) (kn kc kc' im ic ic' : Nat) (ks : List ByteArray) (js : List Int) (w : World) (hr : RdV w ka kn (ks.map Value.string)) (hr' : RdV w ka' kn (ks.map Value.string)) (hi : RdV w ia im (js.map (Value.int .i64))) (hi' : RdV w ia' im (js.map (Value.int .i64))) (m1 : kn ≤ 1048576) (m2 : im ≤ 1048576) :
    Calls Try.prog 79 #[.agg #[.bool lf, .slice ka kn kc, .slice ia im ic], .agg #[.bool lf, .slice ka' kn kc', .slice ia' im ic']] w fun e w' => e = .returned (.bool true) ∧ Below w.heap.size w w' := by
  obtain ⟨V0, hV0⟩ : ∃ Q, w.alloc (.cells #[.bool lf, .slice ka kn kc, .slice ia im ic] 72) = Q := ⟨_, rfl⟩
  have bV0 : Below w.heap.size w V0 := by rw [← hV0]; exact (Below.refl _ _).alloc (Nat.le_refl _) _
  have XV0 : Hid (Box V0 w.heap.size 72 #[.bool lf, .slice ka kn kc, .slice ia im ic]) := by unfold Hid; rw [← hV0]; exact Box.new _ _ _
  obtain ⟨V, hV⟩ : ∃ Q, V0.alloc (.cells #[.bool lf, .slice ka' kn kc', .slice ia' im ic'] 72) = Q := ⟨_, rfl⟩
  have bV : Below V0.heap.size V0 V := by rw [← hV]; exact (Below.refl _ _).alloc (Nat.le_refl _) _
  have XV : Hid (Box V V0.heap.size 72 #[.bool lf, .slice ka' kn kc', .slice ia' im ic']) := by unfold Hid; rw [← hV]; exact Box.new _ _ _
  have BV : Hid (Below w.heap.size w V) := bV0.trans (bV.mono bV0.size)
  have x0 : V.cell? ⟨w.heap.size, 0, none⟩ = some (.bool lf) := (XV0.out.belowS bV).cell 0
  have x1 : V.cell? ⟨w.heap.size, 1, none⟩ = some (.slice ka kn kc) := (XV0.out.belowS bV).cell 1
  have x2 : V.cell? ⟨w.heap.size, 2, none⟩ = some (.slice ia im ic) := (XV0.out.belowS bV).cell 2
  have y0 : V.cell? ⟨V0.heap.size, 0, none⟩ = some (.bool lf) := XV.out.cell 0
  have y1 : V.cell? ⟨V0.heap.size, 1, none⟩ = some (.slice ka' kn kc') := XV.out.cell 1
  have y2 : V.cell? ⟨V0.heap.size, 2, none⟩ = some (.slice ia' im ic') := XV.out.cell 2
  have e1 : (lf != lf) = false := by simp
  have C1 : Hid (Calls Try.prog 33 #[.slice ka kn kc, .slice ka' kn kc'] V fun e w' => e = .returned (.bool true) ∧ ∃ q, w' = V.drewN q) := (c_eqS ka ka' kn kc kn kc' ks ks V (hr.below BV.out) (hr'.below BV.out) m1 m1).mono fun e w' ⟨h, q⟩ => ⟨by rw [h]; simp, q⟩
  have C2 : Hid (∀ W, Below w.heap.size w W → Calls Try.prog 95 #[.slice ia im ic, .slice ia' im ic'] W fun e w' => e = .returned (.bool true) ∧ ∃ q, w' = W.drewN q) := fun W hW => (c_eqI ia ia' im ic im ic' js js W (hi.below hW) (hi'.below hW) m2 m2).mono fun e w' ⟨h, q⟩ => ⟨by rw [h]; simp, q⟩
  clear hr hr' hi hi' bV0 bV XV0 XV
  go_enter Try.func79, Try.ntmps79
  go_wp2_with fail
  refine C1.out.mono ?_
  rintro e w1 ⟨rfl, q, rfl⟩
  go_wp2_with fail
  refine (C2.out (V.drewN q) (below_drewN BV.out q)).mono ?_
  rintro e w1 ⟨rfl, q', rfl⟩
  go_wp2
  go_ret
  exact ⟨rfl, below_drewN BV.out _⟩
theorem SameN.len {vs us : List TNode} (h : SameN vs us) : vs.length = us.length := by have := congrArg List.length h; simpa using this
theorem SameN.at {vs us : List TNode} (h : SameN vs us) (k : Nat) : saysN (vs.getD k zeroN) = saysN (us.getD k zeroN) := by
  have q : ((vs.map saysN)[k]?).getD (saysN zeroN) = ((us.map saysN)[k]?).getD (saysN zeroN) := by rw [h]
  rw [List.getElem?_map, List.getElem?_map] at q
  rw [List.getD_eq_getElem?_getD, List.getD_eq_getElem?_getD]
  cases h1 : vs[k]? <;> cases h2 : us[k]? <;> rw [h1, h2] at q <;> exact q
set_option maxRecDepth 100000 in
set_option maxHeartbeats 8000000 in
theorem c_eqNL (a a' : Option Addr) (n cap cap' : Nat) (vs us : List TNode) (w : World) (hr : RdN w a n vs) (hr' : RdN w a' n us) (hs : SameN vs us) (hn : n ≤ 1048576) (hf : ∀ i, i < n → FitN (vs.getD i zeroN)) :
    Calls Try.prog 52 #[.slice a n cap, .slice a' n cap'] w fun e w' => e = .returned (.bool true) ∧ Below w.heap.size w w' := by
  obtain ⟨hl, hcs, hin⟩ := hr
  obtain ⟨hl', hcs', hin'⟩ := hr'
  have HN : Hid (∀ i, i < n → InN w (vs.getD i zeroN)) := hin
  have HN' : Hid (∀ i, i < n → InN w (us.getD i zeroN)) := hin'
  have HF : Hid (∀ i, i < n → FitN (vs.getD i zeroN)) := hf
  have HS : Hid (SameN vs us) := hs
  clear hin hin' hf hs
  go_enter Try.func52, Try.ntmps52
  go_wp2
  go_loopw [5] (fun i wr => ∃ k : Nat, k ≤ n ∧ i = .int .i64 k ∧ Below w.heap.size w wr) (fun i _ => n - (intOf i).toNat)
  case atStart => exact ⟨0, by omega, rfl, Below.refl _ _⟩
  case round =>
    obtain ⟨k, hk, rfl, hb⟩ := hrel
    by_cases hlt : k < n
    · obtain ⟨b, off, rfl, hbl, hc⟩ := hcs (by omega)
      obtain ⟨b', off', rfl, hbl', hc'⟩ := hcs' (by omega)
      obtain ⟨d0, d1, d2⟩ := hc k hlt
      obtain ⟨x0, x1, x2⟩ := hc' k hlt
      have I1 := HN.out k hlt
      have I2 := HN'.out k hlt
      have FG := HF.out k hlt
      have SA := HS.out.at k
      obtain ⟨⟨lf, ka, kn, kc, ks, ia, im, ic, js⟩, hv⟩ : ∃ v, v = vs.getD k zeroN := ⟨_, rfl⟩
      obtain ⟨⟨lf', ka', kn', kc', ks', ia', im', ic', js'⟩, hv'⟩ : ∃ v, v = us.getD k zeroN := ⟨_, rfl⟩
      rw [← hv] at d0 d1 d2 I1 FG SA
      rw [← hv'] at x0 x1 x2 I2 SA
      simp only [saysN, Prod.mk.injEq] at SA
      obtain ⟨rfl, rfl, rfl⟩ := SA
      dsimp only at d0 d1 d2 x0 x1 x2
      have r1 : RdV w ka kn (ks.map Value.string) := I1.1
      have r2 : RdV w ia im (js.map (Value.int .i64)) := I1.2
      have r3 : RdV w ka' kn' (ks.map Value.string) := I2.1
      have r4 : RdV w ia' im' (js.map (Value.int .i64)) := I2.2
      obtain rfl : kn = kn' := by rw [← r1.1, ← r3.1]
      obtain rfl : im = im' := by rw [← r2.1, ← r4.1]
      have C : Hid (∀ wx, Below w.heap.size w wx → Calls Try.prog 79 #[.agg #[.bool lf, .slice ka kn kc, .slice ia im ic], .agg #[.bool lf, .slice ka' kn kc', .slice ia' im ic']] wx fun e w' => e = .returned (.bool true) ∧ Below wx.heap.size wx w') := fun wx hx => c_eqN1 lf ka ka' ia ia' kn kc kc' im ic ic' ks js wx (r1.below hx) (r3.below hx) (r2.below hx) (r4.below hx) FG.1 FG.2.1
      have e0 := (hb.cell (p := ⟨b, off + k * 3, none⟩) hbl).trans d0
      have e1 := (hb.cell (p := ⟨b, off + k * 3 + 1, none⟩) hbl).trans d1
      have e2 := (hb.cell (p := ⟨b, off + k * 3 + 2, none⟩) hbl).trans d2
      have y0 := (hb.cell (p := ⟨b', off' + k * 3, none⟩) hbl').trans x0
      have y1 := (hb.cell (p := ⟨b', off' + k * 3 + 1, none⟩) hbl').trans x1
      have y2 := (hb.cell (p := ⟨b', off' + k * 3 + 2, none⟩) hbl').trans x2
      have g1 : (0 : Int) ≤ (k : Int) := by omega
      have g2 : (k : Int) < (n : Int) := by omega
      have HB : Hid (Below w.heap.size w wr) := hb
      clear hc hc' hcs hcs' hv hv' d0 d1 d2 x0 x1 x2 r1 r2 r3 r4 I1 I2 FG HN HN' HF HS hb
      go_wp2_with fail
      go_region_held3 (fun x => x.cell? ⟨b, off + k * 3, none⟩ = some (.bool lf) ∧ x.cell? ⟨b, off + k * 3 + 1, none⟩ = some (.slice ka kn kc) ∧ x.cell? ⟨b, off + k * 3 + 2, none⟩ = some (.slice ia im ic) ∧ x.cell? ⟨b', off' + k * 3, none⟩ = some (.bool lf) ∧ x.cell? ⟨b', off' + k * 3 + 1, none⟩ = some (.slice ka' kn kc') ∧ x.cell? ⟨b', off' + k * 3 + 2, none⟩ = some (.slice ia' im ic'))
        (first | go_keep | (exact ⟨far6 hb3 e0, far6 hb3 e1, far6 hb3 e2, far6 hb3 y0, far6 hb3 y1, far6 hb3 y2⟩))
        (first | (go_at_call 79; refine (C.out _ (by first | exact HB.out.drew | exact HB.out)).mono ?_; rintro e w3 ⟨rfl, hb3⟩))
      have hb' : Below w.heap.size w w3 := HB.out.drew.trans (hb3.mono HB.out.size)
      clear hb3 e0 e1 e2 y0 y1 y2 C
      go_wp2
      go_roundw
      case rel => exact ⟨k + 1, by omega, by go_num, hb'⟩
      case measure => simp [intOf]; omega
    · have e : k = n := by omega
      subst e
      go_wp2
      go_ret
      exact ⟨rfl, hb⟩

end Go.Proofs.Ythnggpjgajkaeaa
