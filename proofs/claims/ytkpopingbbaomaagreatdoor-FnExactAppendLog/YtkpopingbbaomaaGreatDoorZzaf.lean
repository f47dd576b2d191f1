/-
  The new page: the walks of NewPage.
-/
import Derived.Test.YtkpopingbbaomaaGreatDoorZzae
import Derived.Deep.RegionHeld3
import Derived.Deep.DrawnRows
import Derived.Test.YtkpopingbbaomaaGreatDoorZzac
namespace Go.Proofs.YtkpopingbbaomaaGreatDoor
open Go Go.RowKit
attribute [local go_sem ↓] Go.wp_at_zero Go.wp_at_succ

/-- The marks of numbers: k0, k0 + 1, .. -/
def marksI (k0 n : Nat) : List Int := (List.range n).map fun i => ((k0 + i : Nat) : Int)
theorem marksI_get (k0 n k : Nat) (h : k < n) : ((marksI k0 n).map (Value.int .i64))[k]? = some (.int .i64 ((k0 + k : Nat) : Int)) := by
  unfold marksI; rw [List.getElem?_map, List.getElem?_map, List.getElem?_range h]; rfl
theorem marksI_len (k0 n : Nat) : ((marksI k0 n).map (Value.int .i64)).length = n := by simp [marksI]
set_option maxRecDepth 100000 in
set_option maxHeartbeats 1000000 in
theorem c_markI (base : Nat) (v : Value) (n k0 : Nat) (xs : List Value) (w : World) (hown : w.ownsRow base 3 1 v n xs) (hn : n ≤ 2097152) (hk : k0 ≤ 8388608) :
    Calls Tryz.prog 28 #[v, .int .i64 k0] w fun e w' => e = .returned (.int .i64 (k0 + n : Nat)) ∧ w'.ownsRow base 3 1 v n ((marksI k0 n).map (Value.int .i64)) ∧ w.grownBy w' v.ownBlock := by
  have hxl : xs.length = n := by simpa using hown.1
  rcases own_form hown with ⟨rfl, rfl⟩ | ⟨g, cap, rfl, hg1, hg2⟩
  · go_enter Tryz.func28, Tryz.ntmps28
    go_wp2
    refine wp_loop_rounds 1 ?_
    rw [rounds_succ]
    go_wp2
    go_ret
    exact ⟨by simp, by simpa [marksI] using World.ownsRow_nil w base 3 1, World.grownBy.refl _ _⟩
  · go_enter Tryz.func28, Tryz.ntmps28
    go_wp2
    go_loopw [1, 5] (fun m i wr => ∃ k : Nat, k ≤ n ∧ i = .int .i64 k ∧ m = .int .i64 ((k0 + k : Nat) : Int) ∧ wr.ownsRow base 3 1 (.slice (some ⟨g, 0, none⟩) n cap) n (mixV ((marksI k0 n).map (Value.int .i64)) xs k) ∧ w.grownBy wr (some g)) (fun _ i _ => n - (intOf i).toNat)
    case atStart => exact ⟨0, by omega, rfl, rfl, by rw [mixV_zero]; exact hown, World.grownBy.refl _ _⟩
    case round =>
      obtain ⟨k, hk, rfl, rfl, hown, hgr⟩ := hrel
      by_cases hlt : k < n
      · obtain ⟨old, hold⟩ : ∃ old, wr.cell? ⟨g, k, none⟩ = some old := by
          rw [hown.cellAt k (by omega)]
          exact ⟨_, List.getElem?_eq_getElem (by rw [hown.1]; omega)⟩
        have hfz := hown.frozenAt k
        obtain ⟨hown2, hgr2⟩ := hown.stored k (.int .i64 ((k0 : Int) + (k : Int)))
        rw [mixV_step _ _ n k _ hxl (marksI_len _ _) hlt (by rw [marksI_get _ _ _ hlt]; simp)] at hown2
        have HO : Hid (_) := hown2
        have HG : Hid (_) := hgr.trans hgr2
        clear hown2 hgr2
        go_wp2
        go_roundw
        case rel => exact ⟨k + 1, by omega, by go_num, by go_num, HO.out, HG.out⟩
        case measure => simp [intOf]; omega
      · have e : k = n := by omega
        subst e
        rw [mixV_full _ _ k hxl (marksI_len _ _)] at hown
        go_wp2
        go_ret
        exact ⟨rfl, hown, hgr⟩
set_option maxRecDepth 100000 in
set_option maxHeartbeats 1000000 in
theorem c_heldI (a : Option Addr) (n cap k0 : Nat) (w : World) (hr : RdV w a n ((marksI k0 n).map (Value.int .i64))) (hn : n ≤ 2097152) (hk : k0 ≤ 8388608) :
    Calls Tryz.prog 46 #[.slice a n cap, .int .i64 k0] w fun e w' => e = .returned (.int .i64 (k0 + n : Nat)) ∧ w' = w := by
  obtain ⟨hl, hcs⟩ := hr
  go_enter Tryz.func46, Tryz.ntmps46
  go_wp2
  go_loop [1, 5] (fun m i => ∃ k : Nat, k ≤ n ∧ i = .int .i64 k ∧ m = .int .i64 ((k0 + k : Nat) : Int)) (fun _ i => n - (intOf i).toNat)
  case atStart => exact ⟨0, by omega, rfl, rfl⟩
  case round =>
    obtain ⟨k, hk, rfl, rfl⟩ := hrel
    by_cases hlt : k < n
    · obtain ⟨b, off, rfl, _, hc⟩ := hcs (by omega)
      have hck : w.cell? ⟨b, off + k, none⟩ = some (.int .i64 ((k0 : Int) + (k : Int))) := by
        rw [hc k hlt, marksI_get _ _ _ hlt]; simp
      clear hc hcs
      go_wp2
      go_round
      case rel => exact ⟨k + 1, by omega, by go_num, by go_num⟩
      case measure => simp [intOf]; omega
    · have e : k = n := by omega
      subst e
      go_wp2
      go_ret
      exact ⟨rfl, rfl⟩
set_option maxRecDepth 100000 in
set_option maxHeartbeats 1000000 in
theorem c_szI (a : Option Addr) (n cap : Nat) (left : Int) (w : World) (hm : n ≤ maxLen) (h0 : 0 ≤ left) (h1 : left ≤ 1048576) :
    Calls Tryz.prog 176 #[.slice a n cap, .int .i64 left] w fun e w' => e = .returned (.int .i64 (if left - n < 0 then -1 else left - n)) ∧ w' = w := by
  unfold maxLen at hm
  by_cases hn : left - n < 0
  · rw [if_pos hn]
    go_enter Tryz.func176, Tryz.ntmps176
    go_wp2
    go_ret
    exact ⟨rfl, rfl⟩
  · rw [if_neg hn]
    go_enter Tryz.func176, Tryz.ntmps176
    go_wp2
    go_ret
    exact ⟨rfl, rfl⟩

/-! ### The marks of texts -/

end Go.Proofs.YtkpopingbbaomaaGreatDoor
namespace Go.Proofs.YtkpopingbbaomaaGreatDoor.G
open Go Go.RowKit
attribute [local go_sem ↓] Go.wp_at_zero Go.wp_at_succ

def longB (s : ByteArray) : Bool := decide (30 < s.size)
def okG (D : DG) : Bool := inB D.L 0 1000 && decide (D.S.length = 4) && !(D.S.any longB)
theorem okG_l {D : DG} (h : inB D.L 0 1000 = false) : okG D = false := by unfold okG; rw [h]; rfl
theorem okG_n {D : DG} (h : ¬ D.S.length = 4) : okG D = false := by unfold okG; rw [decide_eq_false h]; simp
theorem okG_any {D : DG} (h : D.S.any longB = true) : okG D = false := by unfold okG; rw [h]; simp
theorem okG_yes {D : DG} (h0 : inB D.L 0 1000 = true) (h1 : D.S.length = 4) (h : D.S.any longB = false) : okG D = true := by unfold okG; rw [h0, h, decide_eq_true h1]; rfl
theorem any_at {ss : List ByteArray} {k : Nat} (hk : k < ss.length) (h : longB (ss.getD k ⟨#[]⟩) = true) : ss.any longB = true := by
  rw [List.any_eq_true]
  refine ⟨_, List.getElem_mem hk, ?_⟩
  rwa [List.getD_eq_getElem?_getD, List.getElem?_eq_getElem hk] at h
theorem any_no {ss : List ByteArray} {k : Nat} (hk : ss.length = k) (h : ∀ j, j < k → longB (ss.getD j ⟨#[]⟩) = false) : ss.any longB = false := by
  rw [List.any_eq_false]
  intro s hs
  obtain ⟨i, hi, rfl⟩ := List.mem_iff_getElem.1 hs
  have := h i (by omega)
  rw [List.getD_eq_getElem?_getD, List.getElem?_eq_getElem hi] at this
  simp at this
  simp [this]
theorem okG_parts {D : DG} (h : okG D = true) : 0 ≤ D.L ∧ D.L ≤ 1000 ∧ D.S.length = 4 ∧ ∀ s ∈ D.S, s.size ≤ 30 := by
  unfold okG inB at h
  simp only [Bool.and_eq_true, decide_eq_true_eq, Bool.not_eq_true', List.any_eq_false] at h
  obtain ⟨⟨h1, h2⟩, h3⟩ := h
  exact ⟨h1.1, h1.2, h2, fun s hs => by have := h3 s hs; unfold longB at this; simp at this; omega⟩

theorem c_isLsn (n : Int) (w : World) : Calls Tryz.prog 299 #[.int .i64 n] w fun e w' => e = .returned (.bool (inB n 0 1000)) ∧ w' = w := by
  by_cases h1 : 0 ≤ n <;> by_cases h2 : n ≤ 1000
  all_goals
    go_enter Tryz.func299, Tryz.ntmps299
    go_wp2
    go_ret
    exact ⟨ret_bool (by simp [inB, h1, h2]), rfl⟩
theorem c_tooLong (s : ByteArray) (w : World) (hs : s.size ≤ maxLen) : Calls Tryz.prog 285 #[.string s] w fun e w' => e = .returned (.bool (longB s)) ∧ w' = w := by
  unfold maxLen at hs
  by_cases h1 : 30 < s.size
  all_goals
    go_enter Tryz.func285, Tryz.ntmps285
    go_wp2
    go_ret
    exact ⟨ret_bool (by simp [longB, h1]; omega), rfl⟩

theorem at_get {w : World} {b off n : Nat} {ss : List ByteArray} (hc : ∀ i, i < n → w.cell? ⟨b, off + i, none⟩ = (ss.map Value.string)[i]?) (hl : ss.length = n) (k : Nat) (hk : k < n) : w.cell? ⟨b, off + k, none⟩ = some (.string (ss.getD k ⟨#[]⟩)) := by
  rw [hc k hk]; exact map_get _ _ _ _ (by omega)
theorem size_at {ss : List ByteArray} {m : Nat} (hs : ∀ s ∈ ss, s.size ≤ m) {k : Nat} (hk : k < ss.length) : (ss.getD k ⟨#[]⟩).size ≤ m := by
  rw [List.getD_eq_getElem?_getD, List.getElem?_eq_getElem hk]; exact hs _ (List.getElem_mem hk)

set_option maxHeartbeats 1000000 in
theorem c_idxF (a : Option Addr) (n cap : Nat) (ss : List ByteArray) (w : World) (hr : RdV w a n (ss.map Value.string)) (hn : n ≤ 1048576) (hs : ∀ s ∈ ss, s.size ≤ 1048576) :
    Calls Tryz.prog 308 #[.slice a n cap, .func (.func 285) #[] #[]] w fun e w' => (∃ z : Int, e = .returned (.int .i64 z) ∧ decide (0 ≤ z) = ss.any longB) ∧ ∃ q, w' = w.drewN q := by
  obtain ⟨hl, hcs⟩ := hr
  simp only [List.length_map] at hl
  have HS : Hid (∀ s ∈ ss, s.size ≤ 1048576) := hs
  clear hs
  go_enter Tryz.func308, Tryz.ntmps308
  go_wp2
  go_loopw [8] (fun i wr => ∃ k : Nat, k ≤ n ∧ i = .int .i64 k ∧ Hid (∀ j, j < k → longB (ss.getD j ⟨#[]⟩) = false) ∧ ∃ q, wr = w.drewN q) (fun i _ => n - (intOf i).toNat)
  case atStart => exact ⟨0, by omega, rfl, fun j h => absurd h (by omega), 0, rfl⟩
  case round =>
    obtain ⟨k, hk, rfl, HJ, q, rfl⟩ := hrel
    by_cases hlt : k < n
    · obtain ⟨b, off, rfl, _, hc⟩ := hcs (by omega)
      obtain ⟨x, hx⟩ : ∃ x, x = ss.getD k ⟨#[]⟩ := ⟨_, rfl⟩
      have hck : w.cell? ⟨b, off + k, none⟩ = some (.string x) := by rw [hx]; exact at_get hc hl k hlt
      have hxs : x.size ≤ 1048576 := by rw [hx]; exact size_at HS.out (by omega)
      have HX : Hid (x = ss.getD k ⟨#[]⟩) := hx
      have g1 : (0 : Int) ≤ (k : Int) := by omega
      have g2 : (k : Int) < (n : Int) := by omega
      clear hc hcs hx
      cases hb : longB x
      · go_wp2_with (go_at_call 285; refine (c_tooLong x _ (by unfold maxLen; omega)).mono ?_; rintro e w' ⟨rfl, rfl⟩)
        go_roundw
        case rel => exact ⟨k + 1, by omega, by go_num, fun j hj => if e : j = k then by rw [e, ← HX.out]; exact hb else HJ.out j (by omega), _, rfl⟩
        case measure => simp [intOf]; omega
      · go_wp2_with (go_at_call 285; refine (c_tooLong x _ (by unfold maxLen; omega)).mono ?_; rintro e w' ⟨rfl, rfl⟩)
        go_ret
        exact ⟨⟨_, rfl, by rw [any_at (k := k) (by omega) (by rw [← HX.out]; exact hb)]; simp⟩, _, rfl⟩
    · have e : n = k := by omega
      subst e
      go_wp2
      go_ret
      exact ⟨⟨_, rfl, by rw [any_no hl HJ.out]; rfl⟩, q, rfl⟩

theorem c_contF (a : Option Addr) (n cap : Nat) (ss : List ByteArray) (w : World) (hr : RdV w a n (ss.map Value.string)) (hn : n ≤ 1048576) (hs : ∀ s ∈ ss, s.size ≤ 1048576) :
    Calls Tryz.prog 300 #[.slice a n cap, .func (.func 285) #[] #[]] w fun e w' => e = .returned (.bool (ss.any longB)) ∧ ∃ q, w' = w.drewN q := by
  go_enter Tryz.func300, Tryz.ntmps300
  go_wp2_with fail
  refine (c_idxF a n cap ss w hr hn hs).mono ?_
  rintro e w' ⟨⟨z, rfl, hz⟩, q, rfl⟩
  have HZ : Hid (decide (0 ≤ z) = ss.any longB) := hz
  clear hz hr hs
  go_wp2
  go_ret
  exact ⟨ret_bool HZ.out, _, rfl⟩

set_option maxHeartbeats 2000000 in
theorem c_implOK (h : HG) (D : DG) (w : World) (r : RdG w h D) (hf : FitG D) :
    Calls Tryz.prog 269 #[.agg #[.int .i64 h.l, .slice h.a h.n h.c]] w fun e w' => e = .returned (.bool (okG D)) ∧ Below w.heap.size w w' := by
  have k0 := r.len
  obtain ⟨f0, f1⟩ := hf
  obtain ⟨rl, r0⟩ := r
  obtain ⟨l, a, n, c⟩ := h
  simp only at *
  subst k0 rl
  have R0 : Hid (RdV w a D.S.length (D.S.map Value.string)) := r0
  have F1 : Hid (∀ s ∈ D.S, s.size ≤ 1048576) := f1
  clear r0 f1
  obtain ⟨V, hV⟩ : ∃ V, w.alloc (.cells #[.int .i64 D.L, .slice a D.S.length c] 140) = V := ⟨_, rfl⟩
  have HB : Hid (Below w.heap.size w V) := by unfold Hid; rw [← hV]; exact (Below.refl _ _).alloc (Nat.le_refl _) _
  have bx1 : Box V w.heap.size 140 #[.int .i64 D.L, .slice a D.S.length c] := by rw [← hV]; exact Box.new _ _ _
  obtain ⟨v0, v1⟩ := box2 bx1
  clear bx1
  cases h0 : inB D.L 0 1000
  · have E : Hid (okG D = false) := okG_l h0
    go_enter Tryz.func269, Tryz.ntmps269
    go_wp2_with (go_at_call 299; refine (c_isLsn _ _).mono ?_; rintro e w' ⟨rfl, rfl⟩; rw [h0])
    go_ret
    exact ⟨ret_bool E.out.symm, HB.out⟩
  · by_cases h1 : D.S.length = 4
    · have e1 : ((D.S.length : Int) == 4) = true := by rw [h1]; rfl
      have H0 : Hid (inB D.L 0 1000 = true) := h0
      have H1 : Hid (D.S.length = 4) := h1
      clear h1
      cases h2 : D.S.any longB
      · have E : Hid (okG D = true) := okG_yes H0.out H1.out h2
        go_enter Tryz.func269, Tryz.ntmps269
        go_wp2_with (first
          | (go_at_call 299; refine (c_isLsn _ _).mono ?_; rintro e w' ⟨rfl, rfl⟩; rw [h0])
          | (go_at_call 300; refine (c_contF a _ c D.S _ (R0.out.below HB.out) f0 F1.out).mono ?_; rintro e w' ⟨rfl, q, hq⟩; rw [h2]; have HB' : Hid (Below w.heap.size w w') := (by unfold Hid; rw [hq]; exact below_drewN HB.out q); clear hq))
        go_ret
        exact ⟨ret_bool E.out.symm, HB'.out⟩
      · have E : Hid (okG D = false) := okG_any h2
        go_enter Tryz.func269, Tryz.ntmps269
        go_wp2_with (first
          | (go_at_call 299; refine (c_isLsn _ _).mono ?_; rintro e w' ⟨rfl, rfl⟩; rw [h0])
          | (go_at_call 300; refine (c_contF a _ c D.S _ (R0.out.below HB.out) f0 F1.out).mono ?_; rintro e w' ⟨rfl, q, hq⟩; rw [h2]; have HB' : Hid (Below w.heap.size w w') := (by unfold Hid; rw [hq]; exact below_drewN HB.out q); clear hq))
        go_ret
        exact ⟨ret_bool E.out.symm, HB'.out⟩
    · have e1 : ((D.S.length : Int) == 4) = false := by simp; omega
      have E : Hid (okG D = false) := okG_n h1
      clear h1
      go_enter Tryz.func269, Tryz.ntmps269
      go_wp2_with (go_at_call 299; refine (c_isLsn _ _).mono ?_; rintro e w' ⟨rfl, rfl⟩; rw [h0])
      go_ret
      exact ⟨ret_bool E.out.symm, HB.out⟩

set_option maxHeartbeats 2000000 in
theorem c_specOK (h : HG) (D : DG) (w : World) (r : RdG w h D) (hf : FitG D) :
    Calls Tryz.prog 118 #[.agg #[.int .i64 h.l, .slice h.a h.n h.c]] w fun e w' => e = .returned (.bool (okG D)) ∧ Below w.heap.size w w' := by
  have k0 := r.len
  obtain ⟨f0, f1⟩ := hf
  obtain ⟨rl, r0⟩ := r
  obtain ⟨l, a, n, c⟩ := h
  simp only at *
  subst k0 rl
  have F1 : Hid (∀ s ∈ D.S, s.size ≤ 1048576) := f1
  clear f1
  obtain ⟨V, hV⟩ : ∃ V, w.alloc (.cells #[.int .i64 D.L, .slice a D.S.length c] 140) = V := ⟨_, rfl⟩
  have HB : Hid (Below w.heap.size w V) := by unfold Hid; rw [← hV]; exact (Below.refl _ _).alloc (Nat.le_refl _) _
  have bx1 : Box V w.heap.size 140 #[.int .i64 D.L, .slice a D.S.length c] := by rw [← hV]; exact Box.new _ _ _
  obtain ⟨v0, v1⟩ := box2 bx1
  clear bx1
  cases h0 : inB D.L 0 1000
  · have E : Hid (okG D = false) := okG_l h0
    clear r0
    go_enter Tryz.func118, Tryz.ntmps118
    go_wp2_with (go_at_call 53; refine (c_in _ _ _ _).mono ?_; rintro e w' ⟨rfl, hq⟩; have hq' := hq.symm; subst hq'; clear hq; rw [h0])
    go_ret
    exact ⟨ret_bool E.out.symm, HB.out⟩
  · by_cases h1 : D.S.length = 4
    · have e1 : ((D.S.length : Int) != 4) = false := by rw [h1]; rfl
      have H0 : Hid (inB D.L 0 1000 = true) := h0
      have H1 : Hid (D.S.length = 4) := h1
      obtain ⟨b, off, rfl, _, hc⟩ := (r0.below HB.out).2 (by omega)
      have HC : Hid (∀ i, i < D.S.length → V.cell? ⟨b, off + i, none⟩ = (D.S.map Value.string)[i]?) := hc
      clear r0 hc h1
      go_enter Tryz.func118, Tryz.ntmps118
      go_wp2_with (go_at_call 53; refine (c_in _ _ _ _).mono ?_; rintro e w' ⟨rfl, hq⟩; have hq' := hq.symm; subst hq'; clear hq; rw [h0])
      go_loop [3] (fun i => ∃ k : Nat, k ≤ 4 ∧ i = .int .i64 k ∧ Hid (∀ j, j < k → longB (D.S.getD j ⟨#[]⟩) = false)) (fun i => 4 - (intOf i).toNat)
      case atStart => exact ⟨0, by omega, rfl, fun j h => absurd h (by omega)⟩
      case round =>
        obtain ⟨k, hk, rfl, HJ⟩ := hrel
        by_cases hlt : k < 4
        · obtain ⟨x, hx⟩ : ∃ x, x = D.S.getD k ⟨#[]⟩ := ⟨_, rfl⟩
          have hck : V.cell? ⟨b, off + k, none⟩ = some (.string x) := by rw [hx]; exact at_get HC.out rfl k (by have := H1.out; omega)
          have hxs : x.size ≤ 1048576 := by rw [hx]; exact size_at F1.out (by have := H1.out; omega)
          have HX : Hid (x = D.S.getD k ⟨#[]⟩) := hx
          have g2 : (k : Int) < (D.S.length : Int) := by have := H1.out; omega
          clear hx
          by_cases hb : 30 < x.size
          · have E : Hid (okG D = false) := okG_any (any_at (k := k) (by have := H1.out; omega) (by rw [← HX.out]; unfold longB; exact decide_eq_true hb))
            go_wp2
            go_ret
            exact ⟨ret_bool E.out.symm, HB.out⟩
          · have HN : Hid (¬ 30 < x.size) := hb
            go_wp2
            go_round
            case rel => exact ⟨k + 1, by omega, by go_num, fun j hj => if e : j = k then by rw [e, ← HX.out]; unfold longB; exact decide_eq_false HN.out else HJ.out j (by omega)⟩
            case measure => simp [intOf]; omega
        · have e : k = 4 := by omega
          subst e
          have E : Hid (okG D = true) := okG_yes H0.out H1.out (any_no H1.out HJ.out)
          go_wp2
          go_ret
          exact ⟨ret_bool E.out.symm, HB.out⟩
    · have e1 : ((D.S.length : Int) != 4) = true := by simp; omega
      have E : Hid (okG D = false) := okG_n h1
      clear h1 r0
      go_enter Tryz.func118, Tryz.ntmps118
      go_wp2_with (go_at_call 53; refine (c_in _ _ _ _).mono ?_; rintro e w' ⟨rfl, hq⟩; have hq' := hq.symm; subst hq'; clear hq; rw [h0])
      go_ret
      exact ⟨ret_bool E.out.symm, HB.out⟩

end Go.Proofs.YtkpopingbbaomaaGreatDoor.G
namespace Go.Proofs.YtkpopingbbaomaaGreatDoor.G
open Go Go.RowKit
attribute [local go_sem ↓] Go.wp_at_zero Go.wp_at_succ

def newG : DG := ⟨0, [⟨#[]⟩, ⟨#[]⟩, ⟨#[]⟩, ⟨#[]⟩]⟩
theorem new_fit : FitG newG := ⟨by simp [newG], fun s h => by simp [newG] at h; subst h; simp [ByteArray.size]⟩
theorem own_new {w1 : World} {B : Nat} {c : Nat} (h : w1.ownsRow B 9 1 (.slice (some ⟨B, 0, none⟩) 4 c) 4 (madeCells (Value.string ⟨#[]⟩).cells (4 * 1)).toList) : OwnG w1 B w1.heap.size ⟨0, some ⟨B, 0, none⟩, 4, c⟩ newG := by
  refine ⟨rfl, ?_, Nat.le_refl _, fun g e => h.lt g (by rw [ob_slice]; exact e)⟩
  have e : (madeCells (Value.string ⟨#[]⟩).cells (4 * 1)).toList = newG.S.map Value.string := by rw [show (Value.string ⟨#[]⟩).cells = #[Value.string ⟨#[]⟩] from rfl, toList_madeCells_one]; rfl
  rw [← e]
  exact h

set_option maxRecDepth 100000 in
set_option maxHeartbeats 2000000 in
theorem c_specNew (w : World) : Calls Tryz.prog 202 #[] w fun e w' => (∃ h' : HG, e = .returned (.agg #[.int .i64 h'.l, .slice h'.a h'.n h'.c]) ∧ OwnG w' w.heap.size w'.heap.size h' newG) ∧ Below w.heap.size w w' := by
  obtain ⟨i0, hi, hz0, hz1, hz2⟩ := info_parts infoS
  obtain ⟨V, hV⟩ : ∃ V, w.alloc (.cells #[.int .i64 0, .slice none 0 0] 140) = V := ⟨_, rfl⟩
  have HB : Hid (Below w.heap.size w V) := by unfold Hid; rw [← hV]; exact (Below.refl _ _).alloc (Nat.le_refl _) _
  have BR : Hid (Box V w.heap.size 140 #[.int .i64 0, .slice none 0 0]) := by unfold Hid; rw [← hV]; exact Box.new _ _ _
  have l0 := BR.out.lt
  go_enter Tryz.func202, Tryz.ntmps202
  go_wp2_with (at_make; refine wpList_make_full _ rfl (.const (.int .i64 4)) (.const (.int .i64 4)) 22 rfl V.heap.size 9 i0 (Value.string ⟨#[]⟩) 1 Tryz.underlying22 hi hz0 hz1 .i64 .i64 _ _ 4 rfl rfl rfl rfl (by rw [hz2]; omega) (by unfold maxLen; omega) (Nat.le_refl _) ?_; intro w1 hown hgrow; have hb : Below V.heap.size V w1 := (Below.refl _ _).grown hgrow (Nat.le_refl _) (fun k h => by cases h); have O1 : Hid (OwnG w1 V.heap.size w1.heap.size ⟨0, some ⟨V.heap.size, 0, none⟩, 4, 4⟩ newG) := own_new hown; have B1 : Hid (Below w.heap.size w w1) := HB.out.trans (hb.mono HB.out.size); have BR1 : Hid (Box w1 w.heap.size 140 #[.int .i64 0, .slice none 0 0]) := BR.out.belowS hb; obtain ⟨u0, u1⟩ := box2 BR1.out; have t0 := BR1.out.thaw 0; have t1 := BR1.out.thaw 1; clear hown hgrow hb HB BR hV)
  refine retG1 Tryz.results202 rfl rfl (put2_box BR1.out _ _) ⟨⟨⟨0, some ⟨V.heap.size, 0, none⟩, 4, 4⟩, rfl, ?_⟩, put2_below B1.out (Nat.le_refl _) _ _⟩
  have := O1.out.put2 (r := w.heap.size) (.inl (by omega)) (.int .i64 0) (.slice (some ⟨V.heap.size, 0, none⟩) 4 4)
  exact this.wide (B' := w.heap.size) (by omega)

set_option maxRecDepth 100000 in
set_option maxHeartbeats 2000000 in
theorem c_implNew (w : World) : Calls Tryz.prog 270 #[] w fun e w' => (∃ h' : HG, e = .returned (.agg #[.int .i64 h'.l, .slice h'.a h'.n h'.c]) ∧ OwnG w' w.heap.size w'.heap.size h' newG) ∧ Below w.heap.size w w' := by
  obtain ⟨i0, hi, hz0, hz1, hz2⟩ := info_parts infoS
  obtain ⟨V, hV⟩ : ∃ V, w.alloc (.cells #[.int .i64 0, .slice none 0 0] 140) = V := ⟨_, rfl⟩
  have HB : Hid (Below w.heap.size w V) := by unfold Hid; rw [← hV]; exact (Below.refl _ _).alloc (Nat.le_refl _) _
  have BR : Hid (Box V w.heap.size 140 #[.int .i64 0, .slice none 0 0]) := by unfold Hid; rw [← hV]; exact Box.new _ _ _
  have l0 := BR.out.lt
  go_enter Tryz.func270, Tryz.ntmps270
  go_wp2_with (at_make; refine wpList_make_full _ rfl (.const (.int .i64 4)) (.const (.int .i64 4)) 22 rfl V.heap.size 9 i0 (Value.string ⟨#[]⟩) 1 Tryz.underlying22 hi hz0 hz1 .i64 .i64 _ _ 4 rfl rfl rfl rfl (by rw [hz2]; omega) (by unfold maxLen; omega) (Nat.le_refl _) ?_; intro w1 hown hgrow; have hb : Below V.heap.size V w1 := (Below.refl _ _).grown hgrow (Nat.le_refl _) (fun k h => by cases h); have O1 : Hid (OwnG w1 V.heap.size w1.heap.size ⟨0, some ⟨V.heap.size, 0, none⟩, 4, 4⟩ newG) := own_new hown; have B1 : Hid (Below w.heap.size w w1) := HB.out.trans (hb.mono HB.out.size); have BR1 : Hid (Box w1 w.heap.size 140 #[.int .i64 0, .slice none 0 0]) := BR.out.belowS hb; obtain ⟨u0, u1⟩ := box2 BR1.out; have t0 := BR1.out.thaw 0; have t1 := BR1.out.thaw 1; clear hown hgrow hb HB BR hV)
  refine retG1 Tryz.results270 rfl rfl (put2_box BR1.out _ _) ⟨⟨⟨0, some ⟨V.heap.size, 0, none⟩, 4, 4⟩, rfl, ?_⟩, put2_below B1.out (Nat.le_refl _) _ _⟩
  have := O1.out.put2 (r := w.heap.size) (.inl (by omega)) (.int .i64 0) (.slice (some ⟨V.heap.size, 0, none⟩) 4 4)
  exact this.wide (B' := w.heap.size) (by omega)

end Go.Proofs.YtkpopingbbaomaaGreatDoor.G
