/-
  Right pages: the walks of PageOK, the program's and the specification's.
-/
import Derived.Test.YtcokbogicbdoaaaDoorGgq
namespace Go.Proofs.YtcokbogicbdoaaaDoor.G
open Go Go.RowKit
attribute [local go_sem ↓] Go.wp_at_zero Go.wp_at_succ

def longB (s : ByteArray) : Bool := decide (30 < s.size)
def okG (D : DG) : Bool := inB D.L 0 1000 && decide (D.S.length = 4) && !(D.S.any longB)
theorem okG_l {D : DG} (h : inB D.L 0 1000 = false) : okG D = false := by unfold okG; rw [h]; rfl
theorem okG_n {D : DG} (h : ¬ D.S.length = 4) : okG D = false := by unfold okG; rw [decide_eq_false h]; simp
theorem okG_any {D : DG} (h : D.S.any longB = true) : okG D = false := by unfold okG; rw [h]; simp
theorem okG_yes {D : DG} (h0 : inB D.L 0 1000 = true) (h1 : D.S.length = 4) (h : D.S.any longB = false) : okG D = true := by unfold okG; rw [h0, h, decide_eq_true h1]; rfl
theorem any_at {ss : List ByteArray} {k : Nat} (hk : k < ss.length) (h : longB (ss.getD k ⟨#[]⟩) = true) : ss.any longB = true := by
  rw [List.any_eq_true]
  refine ⟨_, List.getElem_mem hk, ?_⟩
  rwa [List.getD_eq_getElem?_getD, List.getElem?_eq_getElem hk] at h
theorem any_no {ss : List ByteArray} {k : Nat} (hk : ss.length = k) (h : ∀ j, j < k → longB (ss.getD j ⟨#[]⟩) = false) : ss.any longB = false := by
  rw [List.any_eq_false]
  intro s hs
  obtain ⟨i, hi, rfl⟩ := List.mem_iff_getElem.1 hs
  have := h i (by omega)
  rw [List.getD_eq_getElem?_getD, List.getElem?_eq_getElem hi] at this
  simp at this
  simp [this]
theorem okG_parts {D : DG} (h : okG D = true) : 0 ≤ D.L ∧ D.L ≤ 1000 ∧ D.S.length = 4 ∧ ∀ s ∈ D.S, s.size ≤ 30 := by
  unfold okG inB at h
  simp only [Bool.and_eq_true, decide_eq_true_eq, Bool.not_eq_true', List.any_eq_false] at h
  obtain ⟨⟨h1, h2⟩, h3⟩ := h
  exact ⟨h1.1, h1.2, h2, fun s hs => by have := h3 s hs; unfold longB at this; simp at this; omega⟩

theorem c_isLsn (n : Int) (w : World) : Calls Tryd.prog 89 #[.int .i64 n] w fun e w' => e = .returned (.bool (inB n 0 1000)) ∧ w' = w := by
  by_cases h1 : 0 ≤ n <;> by_cases h2 : n ≤ 1000
  all_goals
    go_enter Tryd.func89, Tryd.ntmps89
    go_wp2
    go_ret
    exact ⟨ret_bool (by simp [inB, h1, h2]), rfl⟩
theorem c_tooLong (s : ByteArray) (w : World) (hs : s.size ≤ maxLen) : Calls Tryd.prog 85 #[.string s] w fun e w' => e = .returned (.bool (longB s)) ∧ w' = w := by
  unfold maxLen at hs
  by_cases h1 : 30 < s.size
  all_goals
    go_enter Tryd.func85, Tryd.ntmps85
    go_wp2
    go_ret
    exact ⟨ret_bool (by simp [longB, h1]; omega), rfl⟩

theorem at_get {w : World} {b off n : Nat} {ss : List ByteArray} (hc : ∀ i, i < n → w.cell? ⟨b, off + i, none⟩ = (ss.map Value.string)[i]?) (hl : ss.length = n) (k : Nat) (hk : k < n) : w.cell? ⟨b, off + k, none⟩ = some (.string (ss.getD k ⟨#[]⟩)) := by
  rw [hc k hk]; exact map_get _ _ _ _ (by omega)
theorem size_at {ss : List ByteArray} {m : Nat} (hs : ∀ s ∈ ss, s.size ≤ m) {k : Nat} (hk : k < ss.length) : (ss.getD k ⟨#[]⟩).size ≤ m := by
  rw [List.getD_eq_getElem?_getD, List.getElem?_eq_getElem hk]; exact hs _ (List.getElem_mem hk)

set_option maxHeartbeats 1000000 in
theorem c_idxF (a : Option Addr) (n cap : Nat) (ss : List ByteArray) (w : World) (hr : RdV w a n (ss.map Value.string)) (hn : n ≤ 1048576) (hs : ∀ s ∈ ss, s.size ≤ 1048576) :
    Calls Tryd.prog 94 #[.slice a n cap, .func (.func 85) #[] #[]] w fun e w' => (∃ z : Int, e = .returned (.int .i64 z) ∧ decide (0 ≤ z) = ss.any longB) ∧ ∃ q, w' = w.drewN q := by
  obtain ⟨hl, hcs⟩ := hr
  simp only [List.length_map] at hl
  have HS : Hid (∀ s ∈ ss, s.size ≤ 1048576) := hs
  clear hs
  go_enter Tryd.func94, Tryd.ntmps94
  go_wp2
  go_loopw [8] (fun i wr => ∃ k : Nat, k ≤ n ∧ i = .int .i64 k ∧ Hid (∀ j, j < k → longB (ss.getD j ⟨#[]⟩) = false) ∧ ∃ q, wr = w.drewN q) (fun i _ => n - (intOf i).toNat)
  case atStart => exact ⟨0, by omega, rfl, fun j h => absurd h (by omega), 0, rfl⟩
  case round =>
    obtain ⟨k, hk, rfl, HJ, q, rfl⟩ := hrel
    by_cases hlt : k < n
    · obtain ⟨b, off, rfl, _, hc⟩ := hcs (by omega)
      obtain ⟨x, hx⟩ : ∃ x, x = ss.getD k ⟨#[]⟩ := ⟨_, rfl⟩
      have hck : w.cell? ⟨b, off + k, none⟩ = some (.string x) := by rw [hx]; exact at_get hc hl k hlt
      have hxs : x.size ≤ 1048576 := by rw [hx]; exact size_at HS.out (by omega)
      have HX : Hid (x = ss.getD k ⟨#[]⟩) := hx
      have g1 : (0 : Int) ≤ (k : Int) := by omega
      have g2 : (k : Int) < (n : Int) := by omega
      clear hc hcs hx
      cases hb : longB x
      · go_wp2_with (go_at_call 85; refine (c_tooLong x _ (by unfold maxLen; omega)).mono ?_; rintro e w' ⟨rfl, rfl⟩)
        go_roundw
        case rel => exact ⟨k + 1, by omega, by go_num, fun j hj => if e : j = k then by rw [e, ← HX.out]; exact hb else HJ.out j (by omega), _, rfl⟩
        case measure => simp [intOf]; omega
      · go_wp2_with (go_at_call 85; refine (c_tooLong x _ (by unfold maxLen; omega)).mono ?_; rintro e w' ⟨rfl, rfl⟩)
        go_ret
        exact ⟨⟨_, rfl, by rw [any_at (k := k) (by omega) (by rw [← HX.out]; exact hb)]; simp⟩, _, rfl⟩
    · have e : n = k := by omega
      subst e
      go_wp2
      go_ret
      exact ⟨⟨_, rfl, by rw [any_no hl HJ.out]; rfl⟩, q, rfl⟩

theorem c_contF (a : Option Addr) (n cap : Nat) (ss : List ByteArray) (w : World) (hr : RdV w a n (ss.map Value.string)) (hn : n ≤ 1048576) (hs : ∀ s ∈ ss, s.size ≤ 1048576) :
    Calls Tryd.prog 90 #[.slice a n cap, .func (.func 85) #[] #[]] w fun e w' => e = .returned (.bool (ss.any longB)) ∧ ∃ q, w' = w.drewN q := by
  go_enter Tryd.func90, Tryd.ntmps90
  go_wp2_with fail
  refine (c_idxF a n cap ss w hr hn hs).mono ?_
  rintro e w' ⟨⟨z, rfl, hz⟩, q, rfl⟩
  have HZ : Hid (decide (0 ≤ z) = ss.any longB) := hz
  clear hz hr hs
  go_wp2
  go_ret
  exact ⟨ret_bool HZ.out, _, rfl⟩

set_option maxHeartbeats 2000000 in
theorem c_implOK (h : HG) (D : DG) (w : World) (r : RdG w h D) (hf : FitG D) :
    Calls Tryd.prog 81 #[.agg #[.int .i64 h.l, .slice h.a h.n h.c]] w fun e w' => e = .returned (.bool (okG D)) ∧ Below w.heap.size w w' := by
  have k0 := r.len
  obtain ⟨f0, f1⟩ := hf
  obtain ⟨rl, r0⟩ := r
  obtain ⟨l, a, n, c⟩ := h
  simp only at *
  subst k0 rl
  have R0 : Hid (RdV w a D.S.length (D.S.map Value.string)) := r0
  have F1 : Hid (∀ s ∈ D.S, s.size ≤ 1048576) := f1
  clear r0 f1
  obtain ⟨V, hV⟩ : ∃ V, w.alloc (.cells #[.int .i64 D.L, .slice a D.S.length c] 49) = V := ⟨_, rfl⟩
  have HB : Hid (Below w.heap.size w V) := by unfold Hid; rw [← hV]; exact (Below.refl _ _).alloc (Nat.le_refl _) _
  have bx1 : Box V w.heap.size 49 #[.int .i64 D.L, .slice a D.S.length c] := by rw [← hV]; exact Box.new _ _ _
  obtain ⟨v0, v1⟩ := box2 bx1
  clear bx1
  cases h0 : inB D.L 0 1000
  · have E : Hid (okG D = false) := okG_l h0
    go_enter Tryd.func81, Tryd.ntmps81
    go_wp2_with (go_at_call 89; refine (c_isLsn _ _).mono ?_; rintro e w' ⟨rfl, rfl⟩; rw [h0])
    go_ret
    exact ⟨ret_bool E.out.symm, HB.out⟩
  · by_cases h1 : D.S.length = 4
    · have e1 : ((D.S.length : Int) == 4) = true := by rw [h1]; rfl
      have H0 : Hid (inB D.L 0 1000 = true) := h0
      have H1 : Hid (D.S.length = 4) := h1
      clear h1
      cases h2 : D.S.any longB
      · have E : Hid (okG D = true) := okG_yes H0.out H1.out h2
        go_enter Tryd.func81, Tryd.ntmps81
        go_wp2_with (first
          | (go_at_call 89; refine (c_isLsn _ _).mono ?_; rintro e w' ⟨rfl, rfl⟩; rw [h0])
          | (go_at_call 90; refine (c_contF a _ c D.S _ (R0.out.below HB.out) f0 F1.out).mono ?_; rintro e w' ⟨rfl, q, hq⟩; rw [h2]; have HB' : Hid (Below w.heap.size w w') := (by unfold Hid; rw [hq]; exact below_drewN HB.out q); clear hq))
        go_ret
        exact ⟨ret_bool E.out.symm, HB'.out⟩
      · have E : Hid (okG D = false) := okG_any h2
        go_enter Tryd.func81, Tryd.ntmps81
        go_wp2_with (first
          | (go_at_call 89; refine (c_isLsn _ _).mono ?_; rintro e w' ⟨rfl, rfl⟩; rw [h0])
          | (go_at_call 90; refine (c_contF a _ c D.S _ (R0.out.below HB.out) f0 F1.out).mono ?_; rintro e w' ⟨rfl, q, hq⟩; rw [h2]; have HB' : Hid (Below w.heap.size w w') := (by unfold Hid; rw [hq]; exact below_drewN HB.out q); clear hq))
        go_ret
        exact ⟨ret_bool E.out.symm, HB'.out⟩
    · have e1 : ((D.S.length : Int) == 4) = false := by simp; omega
      have E : Hid (okG D = false) := okG_n h1
      clear h1
      go_enter Tryd.func81, Tryd.ntmps81
      go_wp2_with (go_at_call 89; refine (c_isLsn _ _).mono ?_; rintro e w' ⟨rfl, rfl⟩; rw [h0])
      go_ret
      exact ⟨ret_bool E.out.symm, HB.out⟩

set_option maxHeartbeats 2000000 in
theorem c_specOK (h : HG) (D : DG) (w : World) (r : RdG w h D) (hf : FitG D) :
    Calls Tryd.prog 28 #[.agg #[.int .i64 h.l, .slice h.a h.n h.c]] w fun e w' => e = .returned (.bool (okG D)) ∧ Below w.heap.size w w' := by
  have k0 := r.len
  obtain ⟨f0, f1⟩ := hf
  obtain ⟨rl, r0⟩ := r
  obtain ⟨l, a, n, c⟩ := h
  simp only at *
  subst k0 rl
  have F1 : Hid (∀ s ∈ D.S, s.size ≤ 1048576) := f1
  clear f1
  obtain ⟨V, hV⟩ : ∃ V, w.alloc (.cells #[.int .i64 D.L, .slice a D.S.length c] 49) = V := ⟨_, rfl⟩
  have HB : Hid (Below w.heap.size w V) := by unfold Hid; rw [← hV]; exact (Below.refl _ _).alloc (Nat.le_refl _) _
  have bx1 : Box V w.heap.size 49 #[.int .i64 D.L, .slice a D.S.length c] := by rw [← hV]; exact Box.new _ _ _
  obtain ⟨v0, v1⟩ := box2 bx1
  clear bx1
  cases h0 : inB D.L 0 1000
  · have E : Hid (okG D = false) := okG_l h0
    clear r0
    go_enter Tryd.func28, Tryd.ntmps28
    go_wp2_with (go_at_call 26; refine (c_in _ _ _ _).mono ?_; rintro e w' ⟨rfl, hq⟩; have hq' := hq.symm; subst hq'; clear hq; rw [h0])
    go_ret
    exact ⟨ret_bool E.out.symm, HB.out⟩
  · by_cases h1 : D.S.length = 4
    · have e1 : ((D.S.length : Int) != 4) = false := by rw [h1]; rfl
      have H0 : Hid (inB D.L 0 1000 = true) := h0
      have H1 : Hid (D.S.length = 4) := h1
      obtain ⟨b, off, rfl, _, hc⟩ := (r0.below HB.out).2 (by omega)
      have HC : Hid (∀ i, i < D.S.length → V.cell? ⟨b, off + i, none⟩ = (D.S.map Value.string)[i]?) := hc
      clear r0 hc h1
      go_enter Tryd.func28, Tryd.ntmps28
      go_wp2_with (go_at_call 26; refine (c_in _ _ _ _).mono ?_; rintro e w' ⟨rfl, hq⟩; have hq' := hq.symm; subst hq'; clear hq; rw [h0])
      go_loop [3] (fun i => ∃ k : Nat, k ≤ 4 ∧ i = .int .i64 k ∧ Hid (∀ j, j < k → longB (D.S.getD j ⟨#[]⟩) = false)) (fun i => 4 - (intOf i).toNat)
      case atStart => exact ⟨0, by omega, rfl, fun j h => absurd h (by omega)⟩
      case round =>
        obtain ⟨k, hk, rfl, HJ⟩ := hrel
        by_cases hlt : k < 4
        · obtain ⟨x, hx⟩ : ∃ x, x = D.S.getD k ⟨#[]⟩ := ⟨_, rfl⟩
          have hck : V.cell? ⟨b, off + k, none⟩ = some (.string x) := by rw [hx]; exact at_get HC.out rfl k (by have := H1.out; omega)
          have hxs : x.size ≤ 1048576 := by rw [hx]; exact size_at F1.out (by have := H1.out; omega)
          have HX : Hid (x = D.S.getD k ⟨#[]⟩) := hx
          have g2 : (k : Int) < (D.S.length : Int) := by have := H1.out; omega
          clear hx
          by_cases hb : 30 < x.size
          · have E : Hid (okG D = false) := okG_any (any_at (k := k) (by have := H1.out; omega) (by rw [← HX.out]; unfold longB; exact decide_eq_true hb))
            go_wp2
            go_ret
            exact ⟨ret_bool E.out.symm, HB.out⟩
          · have HN : Hid (¬ 30 < x.size) := hb
            go_wp2
            go_round
            case rel => exact ⟨k + 1, by omega, by go_num, fun j hj => if e : j = k then by rw [e, ← HX.out]; unfold longB; exact decide_eq_false HN.out else HJ.out j (by omega)⟩
            case measure => simp [intOf]; omega
        · have e : k = 4 := by omega
          subst e
          have E : Hid (okG D = true) := okG_yes H0.out H1.out (any_no H1.out HJ.out)
          go_wp2
          go_ret
          exact ⟨ret_bool E.out.symm, HB.out⟩
    · have e1 : ((D.S.length : Int) != 4) = true := by simp; omega
      have E : Hid (okG D = false) := okG_n h1
      clear h1 r0
      go_enter Tryd.func28, Tryd.ntmps28
      go_wp2_with (go_at_call 26; refine (c_in _ _ _ _).mono ?_; rintro e w' ⟨rfl, hq⟩; have hq' := hq.symm; subst hq'; clear hq; rw [h0])
      go_ret
      exact ⟨ret_bool E.out.symm, HB.out⟩

end Go.Proofs.YtcokbogicbdoaaaDoor.G
