/-
  Right disks: the walk of the program's DiskOK.
-/
import Derived.Test.YtfibdpfhfgnbiaaGreatDoorZzac
import Derived.Test.YtfibdpfhfgnbiaaGreatDoorDkq
namespace Go.Proofs.YtfibdpfhfgnbiaaGreatDoor.G
open Go Go.RowKit
attribute [local go_sem ↓] Go.wp_at_zero Go.wp_at_succ

def longB (s : ByteArray) : Bool := decide (30 < s.size)
def okG (D : DG) : Bool := inB D.L 0 1000 && decide (D.S.length = 4) && !(D.S.any longB)
theorem okG_l {D : DG} (h : inB D.L 0 1000 = false) : okG D = false := by unfold okG; rw [h]; rfl
theorem okG_n {D : DG} (h : ¬ D.S.length = 4) : okG D = false := by unfold okG; rw [decide_eq_false h]; simp
theorem okG_any {D : DG} (h : D.S.any longB = true) : okG D = false := by unfold okG; rw [h]; simp
theorem okG_yes {D : DG} (h0 : inB D.L 0 1000 = true) (h1 : D.S.length = 4) (h : D.S.any longB = false) : okG D = true := by unfold okG; rw [h0, h, decide_eq_true h1]; rfl
theorem any_at {ss : List ByteArray} {k : Nat} (hk : k < ss.length) (h : longB (ss.getD k ⟨#[]⟩) = true) : ss.any longB = true := by
  rw [List.any_eq_true]
  refine ⟨_, List.getElem_mem hk, ?_⟩
  rwa [List.getD_eq_getElem?_getD, List.getElem?_eq_getElem hk] at h
theorem any_no {ss : List ByteArray} {k : Nat} (hk : ss.length = k) (h : ∀ j, j < k → longB (ss.getD j ⟨#[]⟩) = false) : ss.any longB = false := by
  rw [List.any_eq_false]
  intro s hs
  obtain ⟨i, hi, rfl⟩ := List.mem_iff_getElem.1 hs
  have := h i (by omega)
  rw [List.getD_eq_getElem?_getD, List.getElem?_eq_getElem hi] at this
  simp at this
  simp [this]
theorem okG_parts {D : DG} (h : okG D = true) : 0 ≤ D.L ∧ D.L ≤ 1000 ∧ D.S.length = 4 ∧ ∀ s ∈ D.S, s.size ≤ 30 := by
  unfold okG inB at h
  simp only [Bool.and_eq_true, decide_eq_true_eq, Bool.not_eq_true', List.any_eq_false] at h
  obtain ⟨⟨h1, h2⟩, h3⟩ := h
  exact ⟨h1.1, h1.2, h2, fun s hs => by have := h3 s hs; unfold longB at this; simp at this; omega⟩

theorem c_isLsn (n : Int) (w : World) : Calls Tryz.prog 299 #[.int .i64 n] w fun e w' => e = .returned (.bool (inB n 0 1000)) ∧ w' = w := by
  by_cases h1 : 0 ≤ n <;> by_cases h2 : n ≤ 1000
  all_goals
    go_enter Tryz.func299, Tryz.ntmps299
    go_wp2
    go_ret
    exact ⟨ret_bool (by simp [inB, h1, h2]), rfl⟩
theorem c_tooLong (s : ByteArray) (w : World) (hs : s.size ≤ maxLen) : Calls Tryz.prog 285 #[.string s] w fun e w' => e = .returned (.bool (longB s)) ∧ w' = w := by
  unfold maxLen at hs
  by_cases h1 : 30 < s.size
  all_goals
    go_enter Tryz.func285, Tryz.ntmps285
    go_wp2
    go_ret
    exact ⟨ret_bool (by simp [longB, h1]; omega), rfl⟩

theorem at_get {w : World} {b off n : Nat} {ss : List ByteArray} (hc : ∀ i, i < n → w.cell? ⟨b, off + i, none⟩ = (ss.map Value.string)[i]?) (hl : ss.length = n) (k : Nat) (hk : k < n) : w.cell? ⟨b, off + k, none⟩ = some (.string (ss.getD k ⟨#[]⟩)) := by
  rw [hc k hk]; exact map_get _ _ _ _ (by omega)
theorem size_at {ss : List ByteArray} {m : Nat} (hs : ∀ s ∈ ss, s.size ≤ m) {k : Nat} (hk : k < ss.length) : (ss.getD k ⟨#[]⟩).size ≤ m := by
  rw [List.getD_eq_getElem?_getD, List.getElem?_eq_getElem hk]; exact hs _ (List.getElem_mem hk)

set_option maxHeartbeats 1000000 in
theorem c_idxF (a : Option Addr) (n cap : Nat) (ss : List ByteArray) (w : World) (hr : RdV w a n (ss.map Value.string)) (hn : n ≤ 1048576) (hs : ∀ s ∈ ss, s.size ≤ 1048576) :
    Calls Tryz.prog 308 #[.slice a n cap, .func (.func 285) #[] #[]] w fun e w' => (∃ z : Int, e = .returned (.int .i64 z) ∧ decide (0 ≤ z) = ss.any longB) ∧ ∃ q, w' = w.drewN q := by
  obtain ⟨hl, hcs⟩ := hr
  simp only [List.length_map] at hl
  have HS : Hid (∀ s ∈ ss, s.size ≤ 1048576) := hs
  clear hs
  go_enter Tryz.func308, Tryz.ntmps308
  go_wp2
  go_loopw [8] (fun i wr => ∃ k : Nat, k ≤ n ∧ i = .int .i64 k ∧ Hid (∀ j, j < k → longB (ss.getD j ⟨#[]⟩) = false) ∧ ∃ q, wr = w.drewN q) (fun i _ => n - (intOf i).toNat)
  case atStart => exact ⟨0, by omega, rfl, fun j h => absurd h (by omega), 0, rfl⟩
  case round =>
    obtain ⟨k, hk, rfl, HJ, q, rfl⟩ := hrel
    by_cases hlt : k < n
    · obtain ⟨b, off, rfl, _, hc⟩ := hcs (by omega)
      obtain ⟨x, hx⟩ : ∃ x, x = ss.getD k ⟨#[]⟩ := ⟨_, rfl⟩
      have hck : w.cell? ⟨b, off + k, none⟩ = some (.string x) := by rw [hx]; exact at_get hc hl k hlt
      have hxs : x.size ≤ 1048576 := by rw [hx]; exact size_at HS.out (by omega)
      have HX : Hid (x = ss.getD k ⟨#[]⟩) := hx
      have g1 : (0 : Int) ≤ (k : Int) := by omega
      have g2 : (k : Int) < (n : Int) := by omega
      clear hc hcs hx
      cases hb : longB x
      · go_wp2_with (go_at_call 285; refine (c_tooLong x _ (by unfold maxLen; omega)).mono ?_; rintro e w' ⟨rfl, rfl⟩)
        go_roundw
        case rel => exact ⟨k + 1, by omega, by go_num, fun j hj => if e : j = k then by rw [e, ← HX.out]; exact hb else HJ.out j (by omega), _, rfl⟩
        case measure => simp [intOf]; omega
      · go_wp2_with (go_at_call 285; refine (c_tooLong x _ (by unfold maxLen; omega)).mono ?_; rintro e w' ⟨rfl, rfl⟩)
        go_ret
        exact ⟨⟨_, rfl, by rw [any_at (k := k) (by omega) (by rw [← HX.out]; exact hb)]; simp⟩, _, rfl⟩
    · have e : n = k := by omega
      subst e
      go_wp2
      go_ret
      exact ⟨⟨_, rfl, by rw [any_no hl HJ.out]; rfl⟩, q, rfl⟩

theorem c_contF (a : Option Addr) (n cap : Nat) (ss : List ByteArray) (w : World) (hr : RdV w a n (ss.map Value.string)) (hn : n ≤ 1048576) (hs : ∀ s ∈ ss, s.size ≤ 1048576) :
    Calls Tryz.prog 300 #[.slice a n cap, .func (.func 285) #[] #[]] w fun e w' => e = .returned (.bool (ss.any longB)) ∧ ∃ q, w' = w.drewN q := by
  go_enter Tryz.func300, Tryz.ntmps300
  go_wp2_with fail
  refine (c_idxF a n cap ss w hr hn hs).mono ?_
  rintro e w' ⟨⟨z, rfl, hz⟩, q, rfl⟩
  have HZ : Hid (decide (0 ≤ z) = ss.any longB) := hz
  clear hz hr hs
  go_wp2
  go_ret
  exact ⟨ret_bool HZ.out, _, rfl⟩

set_option maxHeartbeats 2000000 in
theorem c_implOK (h : HG) (D : DG) (w : World) (r : RdG w h D) (hf : FitG D) :
    Calls Tryz.prog 269 #[.agg #[.int .i64 h.l, .slice h.a h.n h.c]] w fun e w' => e = .returned (.bool (okG D)) ∧ Below w.heap.size w w' := by
  have k0 := r.len
  obtain ⟨f0, f1⟩ := hf
  obtain ⟨rl, r0⟩ := r
  obtain ⟨l, a, n, c⟩ := h
  simp only at *
  subst k0 rl
  have R0 : Hid (RdV w a D.S.length (D.S.map Value.string)) := r0
  have F1 : Hid (∀ s ∈ D.S, s.size ≤ 1048576) := f1
  clear r0 f1
  obtain ⟨V, hV⟩ : ∃ V, w.alloc (.cells #[.int .i64 D.L, .slice a D.S.length c] 140) = V := ⟨_, rfl⟩
  have HB : Hid (Below w.heap.size w V) := by unfold Hid; rw [← hV]; exact (Below.refl _ _).alloc (Nat.le_refl _) _
  have bx1 : Box V w.heap.size 140 #[.int .i64 D.L, .slice a D.S.length c] := by rw [← hV]; exact Box.new _ _ _
  obtain ⟨v0, v1⟩ := box2 bx1
  clear bx1
  cases h0 : inB D.L 0 1000
  · have E : Hid (okG D = false) := okG_l h0
    go_enter Tryz.func269, Tryz.ntmps269
    go_wp2_with (go_at_call 299; refine (c_isLsn _ _).mono ?_; rintro e w' ⟨rfl, rfl⟩; rw [h0])
    go_ret
    exact ⟨ret_bool E.out.symm, HB.out⟩
  · by_cases h1 : D.S.length = 4
    · have e1 : ((D.S.length : Int) == 4) = true := by rw [h1]; rfl
      have H0 : Hid (inB D.L 0 1000 = true) := h0
      have H1 : Hid (D.S.length = 4) := h1
      clear h1
      cases h2 : D.S.any longB
      · have E : Hid (okG D = true) := okG_yes H0.out H1.out h2
        go_enter Tryz.func269, Tryz.ntmps269
        go_wp2_with (first
          | (go_at_call 299; refine (c_isLsn _ _).mono ?_; rintro e w' ⟨rfl, rfl⟩; rw [h0])
          | (go_at_call 300; refine (c_contF a _ c D.S _ (R0.out.below HB.out) f0 F1.out).mono ?_; rintro e w' ⟨rfl, q, hq⟩; rw [h2]; have HB' : Hid (Below w.heap.size w w') := (by unfold Hid; rw [hq]; exact below_drewN HB.out q); clear hq))
        go_ret
        exact ⟨ret_bool E.out.symm, HB'.out⟩
      · have E : Hid (okG D = false) := okG_any h2
        go_enter Tryz.func269, Tryz.ntmps269
        go_wp2_with (first
          | (go_at_call 299; refine (c_isLsn _ _).mono ?_; rintro e w' ⟨rfl, rfl⟩; rw [h0])
          | (go_at_call 300; refine (c_contF a _ c D.S _ (R0.out.below HB.out) f0 F1.out).mono ?_; rintro e w' ⟨rfl, q, hq⟩; rw [h2]; have HB' : Hid (Below w.heap.size w w') := (by unfold Hid; rw [hq]; exact below_drewN HB.out q); clear hq))
        go_ret
        exact ⟨ret_bool E.out.symm, HB'.out⟩
    · have e1 : ((D.S.length : Int) == 4) = false := by simp; omega
      have E : Hid (okG D = false) := okG_n h1
      clear h1
      go_enter Tryz.func269, Tryz.ntmps269
      go_wp2_with (go_at_call 299; refine (c_isLsn _ _).mono ?_; rintro e w' ⟨rfl, rfl⟩; rw [h0])
      go_ret
      exact ⟨ret_bool E.out.symm, HB.out⟩

set_option maxHeartbeats 2000000 in
theorem c_specOK (h : HG) (D : DG) (w : World) (r : RdG w h D) (hf : FitG D) :
    Calls Tryz.prog 118 #[.agg #[.int .i64 h.l, .slice h.a h.n h.c]] w fun e w' => e = .returned (.bool (okG D)) ∧ Below w.heap.size w w' := by
  have k0 := r.len
  obtain ⟨f0, f1⟩ := hf
  obtain ⟨rl, r0⟩ := r
  obtain ⟨l, a, n, c⟩ := h
  simp only at *
  subst k0 rl
  have F1 : Hid (∀ s ∈ D.S, s.size ≤ 1048576) := f1
  clear f1
  obtain ⟨V, hV⟩ : ∃ V, w.alloc (.cells #[.int .i64 D.L, .slice a D.S.length c] 140) = V := ⟨_, rfl⟩
  have HB : Hid (Below w.heap.size w V) := by unfold Hid; rw [← hV]; exact (Below.refl _ _).alloc (Nat.le_refl _) _
  have bx1 : Box V w.heap.size 140 #[.int .i64 D.L, .slice a D.S.length c] := by rw [← hV]; exact Box.new _ _ _
  obtain ⟨v0, v1⟩ := box2 bx1
  clear bx1
  cases h0 : inB D.L 0 1000
  · have E : Hid (okG D = false) := okG_l h0
    clear r0
    go_enter Tryz.func118, Tryz.ntmps118
    go_wp2_with (go_at_call 53; refine (c_in _ _ _ _).mono ?_; rintro e w' ⟨rfl, hq⟩; have hq' := hq.symm; subst hq'; clear hq; rw [h0])
    go_ret
    exact ⟨ret_bool E.out.symm, HB.out⟩
  · by_cases h1 : D.S.length = 4
    · have e1 : ((D.S.length : Int) != 4) = false := by rw [h1]; rfl
      have H0 : Hid (inB D.L 0 1000 = true) := h0
      have H1 : Hid (D.S.length = 4) := h1
      obtain ⟨b, off, rfl, _, hc⟩ := (r0.below HB.out).2 (by omega)
      have HC : Hid (∀ i, i < D.S.length → V.cell? ⟨b, off + i, none⟩ = (D.S.map Value.string)[i]?) := hc
      clear r0 hc h1
      go_enter Tryz.func118, Tryz.ntmps118
      go_wp2_with (go_at_call 53; refine (c_in _ _ _ _).mono ?_; rintro e w' ⟨rfl, hq⟩; have hq' := hq.symm; subst hq'; clear hq; rw [h0])
      go_loop [3] (fun i => ∃ k : Nat, k ≤ 4 ∧ i = .int .i64 k ∧ Hid (∀ j, j < k → longB (D.S.getD j ⟨#[]⟩) = false)) (fun i => 4 - (intOf i).toNat)
      case atStart => exact ⟨0, by omega, rfl, fun j h => absurd h (by omega)⟩
      case round =>
        obtain ⟨k, hk, rfl, HJ⟩ := hrel
        by_cases hlt : k < 4
        · obtain ⟨x, hx⟩ : ∃ x, x = D.S.getD k ⟨#[]⟩ := ⟨_, rfl⟩
          have hck : V.cell? ⟨b, off + k, none⟩ = some (.string x) := by rw [hx]; exact at_get HC.out rfl k (by have := H1.out; omega)
          have hxs : x.size ≤ 1048576 := by rw [hx]; exact size_at F1.out (by have := H1.out; omega)
          have HX : Hid (x = D.S.getD k ⟨#[]⟩) := hx
          have g2 : (k : Int) < (D.S.length : Int) := by have := H1.out; omega
          clear hx
          by_cases hb : 30 < x.size
          · have E : Hid (okG D = false) := okG_any (any_at (k := k) (by have := H1.out; omega) (by rw [← HX.out]; unfold longB; exact decide_eq_true hb))
            go_wp2
            go_ret
            exact ⟨ret_bool E.out.symm, HB.out⟩
          · have HN : Hid (¬ 30 < x.size) := hb
            go_wp2
            go_round
            case rel => exact ⟨k + 1, by omega, by go_num, fun j hj => if e : j = k then by rw [e, ← HX.out]; unfold longB; exact decide_eq_false HN.out else HJ.out j (by omega)⟩
            case measure => simp [intOf]; omega
        · have e : k = 4 := by omega
          subst e
          have E : Hid (okG D = true) := okG_yes H0.out H1.out (any_no H1.out HJ.out)
          go_wp2
          go_ret
          exact ⟨ret_bool E.out.symm, HB.out⟩
    · have e1 : ((D.S.length : Int) != 4) = true := by simp; omega
      have E : Hid (okG D = false) := okG_n h1
      clear h1 r0
      go_enter Tryz.func118, Tryz.ntmps118
      go_wp2_with (go_at_call 53; refine (c_in _ _ _ _).mono ?_; rintro e w' ⟨rfl, hq⟩; have hq' := hq.symm; subst hq'; clear hq; rw [h0])
      go_ret
      exact ⟨ret_bool E.out.symm, HB.out⟩

end Go.Proofs.YtfibdpfhfgnbiaaGreatDoor.G
namespace Go.Proofs.YtfibdpfhfgnbiaaGreatDoor
open Go Go.RowKit
attribute [local go_sem ↓] Go.wp_at_zero Go.wp_at_succ


def goodC (n : Nat) (p : PP) : Bool := decide (0 ≤ p.1 ∧ p.1 < n) && decide (p.2.size ≤ 160)
/-- A right disk. -/
def okD (D : DD) : Bool := decide (1 ≤ D.S.length ∧ D.S.length ≤ 100 ∧ D.C.length ≤ 500 ∧ D.K.length ≤ 500) && ((D.S.all fun s => decide (s.size ≤ 160)) && ((D.C.all (goodC D.S.length)) && (D.A || D.K.isEmpty)))
theorem ok_no {D : DD} (h : ¬ (1 ≤ D.S.length ∧ D.S.length ≤ 100 ∧ D.C.length ≤ 500 ∧ D.K.length ≤ 500)) : okD D = false := by unfold okD; rw [decide_eq_false h]; rfl
theorem ok_no1 {D : DD} (i : Nat) (hi : i < D.S.length) (h : 160 < (D.S.getD i ⟨#[]⟩).size) : okD D = false := by
  have : (D.S.all fun s => decide (s.size ≤ 160)) = false := by
    rw [List.all_eq_false]
    refine ⟨D.S[i], List.getElem_mem hi, ?_⟩
    rw [List.getD_eq_getElem?_getD, List.getElem?_eq_getElem hi] at h
    simp at h ⊢; omega
  unfold okD; rw [this]; simp
theorem ok_no2 {D : DD} (i : Nat) (hi : i < D.C.length) (h : goodC D.S.length (D.C.getD i dP) = false) : okD D = false := by
  have : D.C.all (goodC D.S.length) = false := by
    rw [List.all_eq_false]
    refine ⟨D.C[i], List.getElem_mem hi, ?_⟩
    rw [List.getD_eq_getElem?_getD, List.getElem?_eq_getElem hi] at h
    simp at h ⊢; exact h
  unfold okD; rw [this]; simp
theorem ok_no3 {D : DD} (h : D.A = false) (h' : D.K ≠ []) : okD D = false := by
  have : (D.A || D.K.isEmpty) = false := by rw [h]; cases hk : D.K <;> simp_all
  unfold okD; rw [this]; simp
theorem ok_yes {D : DD} (h : 1 ≤ D.S.length ∧ D.S.length ≤ 100 ∧ D.C.length ≤ 500 ∧ D.K.length ≤ 500) (h1 : ∀ j, j < D.S.length → (D.S.getD j ⟨#[]⟩).size ≤ 160) (h2 : ∀ j, j < D.C.length → goodC D.S.length (D.C.getD j dP) = true) (h3 : D.A = true ∨ D.K = []) : okD D = true := by
  have e1 : (D.S.all fun s => decide (s.size ≤ 160)) = true := by
    rw [List.all_eq_true]
    intro x hx
    obtain ⟨i, hi, rfl⟩ := List.getElem_of_mem hx
    have := h1 i hi
    rw [List.getD_eq_getElem?_getD, List.getElem?_eq_getElem hi] at this
    exact decide_eq_true this
  have e2 : D.C.all (goodC D.S.length) = true := by
    rw [List.all_eq_true]
    intro x hx
    obtain ⟨i, hi, rfl⟩ := List.getElem_of_mem hx
    have := h2 i hi
    rwa [List.getD_eq_getElem?_getD, List.getElem?_eq_getElem hi] at this
  have e3 : (D.A || D.K.isEmpty) = true := by rcases h3 with h | h <;> simp [h]
  unfold okD; rw [decide_eq_true h, e1, e2, e3]; rfl
theorem ok_last {D : DD} (h : 1 ≤ D.S.length ∧ D.S.length ≤ 100 ∧ D.C.length ≤ 500 ∧ D.K.length ≤ 500) (h1 : ∀ j, j < D.S.length → (D.S.getD j ⟨#[]⟩).size ≤ 160) (h2 : ∀ j, j < D.C.length → goodC D.S.length (D.C.getD j dP) = true) : okD D = (D.A || D.K.isEmpty) := by
  by_cases h3 : D.A = true ∨ D.K = []
  · rw [ok_yes h h1 h2 h3]; rcases h3 with h | h <;> simp [h]
  · have hA : D.A = false := by cases hA : D.A; rfl; exact absurd (.inl hA) h3
    have hK : D.K ≠ [] := fun e => h3 (.inr e)
    rw [ok_no3 hA hK, hA]; cases hk : D.K <;> simp_all
set_option maxRecDepth 100000 in
set_option maxHeartbeats 4000000 in
theorem c_specOK (h : HD) (D : DD) (w : World) (r : RdD w h D) (hf : Fit D) :
    Calls Tryz.prog 117 #[.agg #[.slice h.a0 h.n0 h.c0, .slice h.a1 h.n1 h.c1, .bool h.b, .slice h.a2 h.n2 h.c2]] w fun e w' => e = .returned (.bool (okD D)) ∧ Below w.heap.size w w' := by
  have k0 := r.l0
  have k1 := r.l1
  have k2 := r.l2
  obtain ⟨f0, f1, f2, f3, f4⟩ := hf
  obtain ⟨rb, r0, r1, r2⟩ := r
  obtain ⟨a0, n0, c0, a1, n1, c1, b, a2, n2, c2⟩ := h
  simp only at *
  have HB : Hid (Below w.heap.size w (w.alloc (.cells #[.slice a0 n0 c0, .slice a1 n1 c1, .bool b, .slice a2 n2 c2] 42))) := (Below.refl _ _).alloc (Nat.le_refl _) _
  have BX : Hid (Box (w.alloc (.cells #[.slice a0 n0 c0, .slice a1 n1 c1, .bool b, .slice a2 n2 c2] 42)) w.heap.size 42 #[.slice a0 n0 c0, .slice a1 n1 c1, .bool b, .slice a2 n2 c2]) := Box.new _ _ _
  cases hin : inB (n0 : Int) 1 100
  · have E : Hid (okD D = false) := ok_no (by rw [k0, k1, k2]; unfold inB at hin; have := of_decide_eq_false hin; omega)
    clear HB BX r0 r1 r2 f3 f4
    go_enter Tryz.func117, Tryz.ntmps117
    go_wp2_with (go_at_call 53; refine (c_in _ _ _ _).mono ?_; rintro e w' ⟨rfl, rfl⟩)
    go_ret
    exact ⟨ret_bool E.out.symm, (Below.refl _ _).alloc (Nat.le_refl _) _⟩
  · have hn : 1 ≤ n0 ∧ n0 ≤ 100 := by unfold inB at hin; have := of_decide_eq_true hin; omega
    by_cases q3 : 500 < n1
    · have E : Hid (okD D = false) := ok_no (by rw [k0, k1, k2]; omega)
      clear HB BX r0 r1 r2 f3 f4
      go_enter Tryz.func117, Tryz.ntmps117
      go_wp2_with (go_at_call 53; refine (c_in _ _ _ _).mono ?_; rintro e w' ⟨rfl, rfl⟩)
      go_ret
      exact ⟨ret_bool E.out.symm, (Below.refl _ _).alloc (Nat.le_refl _) _⟩
    · by_cases q4 : 500 < n2
      · have E : Hid (okD D = false) := ok_no (by rw [k0, k1, k2]; omega)
        clear HB BX r0 r1 r2 f3 f4
        go_enter Tryz.func117, Tryz.ntmps117
        go_wp2_with (go_at_call 53; refine (c_in _ _ _ _).mono ?_; rintro e w' ⟨rfl, rfl⟩)
        go_ret
        exact ⟨ret_bool E.out.symm, (Below.refl _ _).alloc (Nat.le_refl _) _⟩
      · cases b
        · by_cases q5 : 0 < n2
          · have E : Hid (okD D = false) := ok_no3 (by rw [← rb]) (fun e => by rw [e] at k2; simp at k2; omega)
            clear HB BX r0 r1 r2 f3 f4 rb
            go_enter Tryz.func117, Tryz.ntmps117
            go_wp2_with (go_at_call 53; refine (c_in _ _ _ _).mono ?_; rintro e w' ⟨rfl, rfl⟩)
            go_ret
            exact ⟨ret_bool E.out.symm, (Below.refl _ _).alloc (Nat.le_refl _) _⟩
          · have HA : Hid (D.A = true ∨ D.K = []) := .inr (List.eq_nil_of_length_eq_zero (by omega))
            obtain ⟨b0, off, rfl, hbl, hc0⟩ := r0.2 (by omega)
            have HBL : Hid (b0 < w.heap.size) := hbl
            have HC0 : Hid (∀ i, i < n0 → w.cell? ⟨b0, off + i, none⟩ = (D.S.map Value.string)[i]?) := hc0
            have R1 : Hid (RdP w a1 n1 D.C) := r1
            have F3 : Hid (∀ s ∈ D.S, s.size ≤ 1048576) := f3
            have F4 : Hid (∀ p ∈ D.C, p.2.size ≤ 1048576) := f4
            have RB : Hid (false = D.A) := rb
            clear r0 r1 r2 f3 f4 rb hbl hc0
            go_enter Tryz.func117, Tryz.ntmps117
            go_wp2_with (go_at_call 53; refine (c_in _ _ _ _).mono ?_; rintro e w' ⟨rfl, rfl⟩)
            go_loop [4] (fun i => ∃ k : Nat, k ≤ n0 ∧ i = .int .i64 k ∧ Hid (∀ j, j < k → (D.S.getD j ⟨#[]⟩).size ≤ 160)) (fun i => n0 - (intOf i).toNat)
            case atStart => exact ⟨0, by omega, rfl, fun j h => absurd h (by omega)⟩
            case round =>
              obtain ⟨k, hk, rfl, HS⟩ := hrel
              by_cases hlt : k < n0
              · obtain ⟨x, hx⟩ : ∃ x, x = D.S.getD k ⟨#[]⟩ := ⟨_, rfl⟩
                have hck : w.cell? ⟨b0, off + k, none⟩ = some (.string x) := by rw [hx, HC0.out k hlt]; exact map_get _ _ _ _ (by omega)
                have hck2 : (w.alloc (.cells #[.slice (some ⟨b0, off, none⟩) n0 c0, .slice a1 n1 c1, .bool false, .slice a2 n2 c2] 42)).cell? ⟨b0, off + k, none⟩ = some (.string x) := (HB.out.cell (p := ⟨b0, off + k, none⟩) HBL.out).trans hck
                have hxs : x.size ≤ 1048576 := by rw [hx]; exact F3.out _ (by rw [List.getD_eq_getElem?_getD, List.getElem?_eq_getElem (by omega)]; exact List.getElem_mem (by omega))
                have HX : Hid (x = D.S.getD k ⟨#[]⟩) := hx
                clear hx hck
                by_cases hbig : 160 < x.size
                · have E : Hid (okD D = false) := ok_no1 k (by omega) (by rw [← HX.out]; exact hbig)
                  go_wp2
                  go_ret
                  exact ⟨ret_bool E.out.symm, HB.out⟩
                · have HG : Hid (¬ 160 < x.size) := hbig
                  go_wp2
                  go_round
                  case rel => exact ⟨k + 1, by omega, by go_num, fun j hj => if e : j = k then by rw [e, ← HX.out]; have := HG.out; omega else HS.out j (by omega)⟩
                  case measure => simp [intOf]; omega
              · have e : n0 = k := by omega
                subst e
                go_wp2
                go_loopw [5] (fun i wr => ∃ k2 : Nat, k2 ≤ n1 ∧ i = .int .i64 k2 ∧ Hid (∀ j, j < k2 → goodC n0 (D.C.getD j dP) = true) ∧ Box wr w.heap.size 42 #[.slice (some ⟨b0, off, none⟩) n0 c0, .slice a1 n1 c1, .bool false, .slice a2 n2 c2] ∧ Below w.heap.size w wr) (fun i _ => n1 - (intOf i).toNat)
                case atStart => exact ⟨0, by omega, rfl, fun j h => absurd h (by omega), BX.out, HB.out⟩
                case round =>
                  obtain ⟨k2, hk2, rfl, HT, bx, hb⟩ := hrel
                  have v0 := bx.cell 0
                  have v1 := bx.cell 1
                  have v2 := bx.cell 2
                  have v3 := bx.cell 3
                  simp at v0 v1 v2 v3
                  by_cases hlt2 : k2 < n1
                  · obtain ⟨bb, off1, rfl, hbl, hc⟩ := R1.out.2 (by omega)
                    obtain ⟨⟨xa, xt⟩, hx⟩ : ∃ x, x = D.C.getD k2 dP := ⟨_, rfl⟩
                    obtain ⟨d0, d1⟩ := hc k2 hlt2
                    rw [← hx] at d0 d1
                    have e0 : wr.cell? ⟨bb, off1 + k2 * 2, none⟩ = some (.int .i64 xa) := (hb.cell (p := ⟨bb, off1 + k2 * 2, none⟩) hbl).trans d0
                    have e1 : wr.cell? ⟨bb, off1 + k2 * 2 + 1, none⟩ = some (.string xt) := (hb.cell (p := ⟨bb, off1 + k2 * 2 + 1, none⟩) hbl).trans d1
                    have hxs : xt.size ≤ 1048576 := by
                      have := F4.out (D.C.getD k2 dP) (by rw [List.getD_eq_getElem?_getD, List.getElem?_eq_getElem (by omega)]; exact List.getElem_mem (by omega))
                      rw [← hx] at this
                      exact this
                    have HX : Hid ((xa, xt) = D.C.getD k2 dP) := hx
                    have HB' : Hid (Below w.heap.size w wr) := hb
                    have HBX : Hid (Box wr w.heap.size 42 _) := bx
                    have hsz : w.heap.size < wr.heap.size := bx.lt
                    clear hc hx d0 d1 hb bx
                    cases hin2 : inB xa 0 ((n0 : Int) - 1)
                    · have E : Hid (okD D = false) := ok_no2 k2 (by omega) (by rw [← HX.out, k0]; unfold goodC; unfold inB at hin2; rw [decide_eq_false (by have := of_decide_eq_false hin2; omega)]; rfl)
                      go_wp2_with (go_at_call 53; refine (c_in _ _ _ _).mono ?_; rintro e w' ⟨rfl, rfl⟩)
                      go_ret
                      exact ⟨ret_bool E.out.symm, HB'.out.alloc (by omega) _⟩
                    · by_cases hbig : 160 < xt.size
                      · have E : Hid (okD D = false) := ok_no2 k2 (by omega) (by rw [← HX.out]; unfold goodC; rw [decide_eq_false (p := xt.size ≤ 160) (by omega), Bool.and_false])
                        go_wp2_with (go_at_call 53; refine (c_in _ _ _ _).mono ?_; rintro e w' ⟨rfl, rfl⟩)
                        go_ret
                        exact ⟨ret_bool E.out.symm, HB'.out.alloc (by omega) _⟩
                      · have HG : Hid (goodC n0 (xa, xt) = true) := by unfold Hid goodC; unfold inB at hin2; rw [decide_eq_true (by have := of_decide_eq_true hin2; omega), decide_eq_true (p := xt.size ≤ 160) (by omega)]; rfl
                        go_wp2_with (go_at_call 53; refine (c_in _ _ _ _).mono ?_; rintro e w' ⟨rfl, rfl⟩)
                        go_roundw
                        case rel => exact ⟨k2 + 1, by omega, by go_num, fun j hj => if e : j = k2 then by rw [e, ← HX.out]; exact HG.out else HT.out j (by omega), HBX.out.alloc _, HB'.out.alloc (by omega) _⟩
                        case measure => simp [intOf]; omega
                  · have e : n1 = k2 := by omega
                    subst e
                    have E : Hid (okD D = true) := ok_yes ⟨by omega, by omega, by omega, by omega⟩ (by rw [k0]; exact HS.out) (by rw [k0, k1]; exact HT.out) HA.out
                    go_wp2
                    go_ret
                    exact ⟨ret_bool E.out.symm, hb⟩
        · have HA : Hid (D.A = true ∨ D.K = []) := .inl rb.symm
          obtain ⟨b0, off, rfl, hbl, hc0⟩ := r0.2 (by omega)
          have HBL : Hid (b0 < w.heap.size) := hbl
          have HC0 : Hid (∀ i, i < n0 → w.cell? ⟨b0, off + i, none⟩ = (D.S.map Value.string)[i]?) := hc0
          have R1 : Hid (RdP w a1 n1 D.C) := r1
          have F3 : Hid (∀ s ∈ D.S, s.size ≤ 1048576) := f3
          have F4 : Hid (∀ p ∈ D.C, p.2.size ≤ 1048576) := f4
          have RB : Hid (true = D.A) := rb
          clear r0 r1 r2 f3 f4 rb hbl hc0
          go_enter Tryz.func117, Tryz.ntmps117
          go_wp2_with (go_at_call 53; refine (c_in _ _ _ _).mono ?_; rintro e w' ⟨rfl, rfl⟩)
          go_loop [4] (fun i => ∃ k : Nat, k ≤ n0 ∧ i = .int .i64 k ∧ Hid (∀ j, j < k → (D.S.getD j ⟨#[]⟩).size ≤ 160)) (fun i => n0 - (intOf i).toNat)
          case atStart => exact ⟨0, by omega, rfl, fun j h => absurd h (by omega)⟩
          case round =>
            obtain ⟨k, hk, rfl, HS⟩ := hrel
            by_cases hlt : k < n0
            · obtain ⟨x, hx⟩ : ∃ x, x = D.S.getD k ⟨#[]⟩ := ⟨_, rfl⟩
              have hck : w.cell? ⟨b0, off + k, none⟩ = some (.string x) := by rw [hx, HC0.out k hlt]; exact map_get _ _ _ _ (by omega)
              have hck2 : (w.alloc (.cells #[.slice (some ⟨b0, off, none⟩) n0 c0, .slice a1 n1 c1, .bool true, .slice a2 n2 c2] 42)).cell? ⟨b0, off + k, none⟩ = some (.string x) := (HB.out.cell (p := ⟨b0, off + k, none⟩) HBL.out).trans hck
              have hxs : x.size ≤ 1048576 := by rw [hx]; exact F3.out _ (by rw [List.getD_eq_getElem?_getD, List.getElem?_eq_getElem (by omega)]; exact List.getElem_mem (by omega))
              have HX : Hid (x = D.S.getD k ⟨#[]⟩) := hx
              clear hx hck
              by_cases hbig : 160 < x.size
              · have E : Hid (okD D = false) := ok_no1 k (by omega) (by rw [← HX.out]; exact hbig)
                go_wp2
                go_ret
                exact ⟨ret_bool E.out.symm, HB.out⟩
              · have HG : Hid (¬ 160 < x.size) := hbig
                go_wp2
                go_round
                case rel => exact ⟨k + 1, by omega, by go_num, fun j hj => if e : j = k then by rw [e, ← HX.out]; have := HG.out; omega else HS.out j (by omega)⟩
                case measure => simp [intOf]; omega
            · have e : n0 = k := by omega
              subst e
              go_wp2
              go_loopw [5] (fun i wr => ∃ k2 : Nat, k2 ≤ n1 ∧ i = .int .i64 k2 ∧ Hid (∀ j, j < k2 → goodC n0 (D.C.getD j dP) = true) ∧ Box wr w.heap.size 42 #[.slice (some ⟨b0, off, none⟩) n0 c0, .slice a1 n1 c1, .bool true, .slice a2 n2 c2] ∧ Below w.heap.size w wr) (fun i _ => n1 - (intOf i).toNat)
              case atStart => exact ⟨0, by omega, rfl, fun j h => absurd h (by omega), BX.out, HB.out⟩
              case round =>
                obtain ⟨k2, hk2, rfl, HT, bx, hb⟩ := hrel
                have v0 := bx.cell 0
                have v1 := bx.cell 1
                have v2 := bx.cell 2
                have v3 := bx.cell 3
                simp at v0 v1 v2 v3
                by_cases hlt2 : k2 < n1
                · obtain ⟨bb, off1, rfl, hbl, hc⟩ := R1.out.2 (by omega)
                  obtain ⟨⟨xa, xt⟩, hx⟩ : ∃ x, x = D.C.getD k2 dP := ⟨_, rfl⟩
                  obtain ⟨d0, d1⟩ := hc k2 hlt2
                  rw [← hx] at d0 d1
                  have e0 : wr.cell? ⟨bb, off1 + k2 * 2, none⟩ = some (.int .i64 xa) := (hb.cell (p := ⟨bb, off1 + k2 * 2, none⟩) hbl).trans d0
                  have e1 : wr.cell? ⟨bb, off1 + k2 * 2 + 1, none⟩ = some (.string xt) := (hb.cell (p := ⟨bb, off1 + k2 * 2 + 1, none⟩) hbl).trans d1
                  have hxs : xt.size ≤ 1048576 := by
                    have := F4.out (D.C.getD k2 dP) (by rw [List.getD_eq_getElem?_getD, List.getElem?_eq_getElem (by omega)]; exact List.getElem_mem (by omega))
                    rw [← hx] at this
                    exact this
                  have HX : Hid ((xa, xt) = D.C.getD k2 dP) := hx
                  have HB' : Hid (Below w.heap.size w wr) := hb
                  have HBX : Hid (Box wr w.heap.size 42 _) := bx
                  have hsz : w.heap.size < wr.heap.size := bx.lt
                  clear hc hx d0 d1 hb bx
                  cases hin2 : inB xa 0 ((n0 : Int) - 1)
                  · have E : Hid (okD D = false) := ok_no2 k2 (by omega) (by rw [← HX.out, k0]; unfold goodC; unfold inB at hin2; rw [decide_eq_false (by have := of_decide_eq_false hin2; omega)]; rfl)
                    go_wp2_with (go_at_call 53; refine (c_in _ _ _ _).mono ?_; rintro e w' ⟨rfl, rfl⟩)
                    go_ret
                    exact ⟨ret_bool E.out.symm, HB'.out.alloc (by omega) _⟩
                  · by_cases hbig : 160 < xt.size
                    · have E : Hid (okD D = false) := ok_no2 k2 (by omega) (by rw [← HX.out]; unfold goodC; rw [decide_eq_false (p := xt.size ≤ 160) (by omega), Bool.and_false])
                      go_wp2_with (go_at_call 53; refine (c_in _ _ _ _).mono ?_; rintro e w' ⟨rfl, rfl⟩)
                      go_ret
                      exact ⟨ret_bool E.out.symm, HB'.out.alloc (by omega) _⟩
                    · have HG : Hid (goodC n0 (xa, xt) = true) := by unfold Hid goodC; unfold inB at hin2; rw [decide_eq_true (by have := of_decide_eq_true hin2; omega), decide_eq_true (p := xt.size ≤ 160) (by omega)]; rfl
                      go_wp2_with (go_at_call 53; refine (c_in _ _ _ _).mono ?_; rintro e w' ⟨rfl, rfl⟩)
                      go_roundw
                      case rel => exact ⟨k2 + 1, by omega, by go_num, fun j hj => if e : j = k2 then by rw [e, ← HX.out]; exact HG.out else HT.out j (by omega), HBX.out.alloc _, HB'.out.alloc (by omega) _⟩
                      case measure => simp [intOf]; omega
                · have e : n1 = k2 := by omega
                  subst e
                  have E : Hid (okD D = true) := ok_yes ⟨by omega, by omega, by omega, by omega⟩ (by rw [k0]; exact HS.out) (by rw [k0, k1]; exact HT.out) HA.out
                  go_wp2
                  go_ret
                  exact ⟨ret_bool E.out.symm, hb⟩

end Go.Proofs.YtfibdpfhfgnbiaaGreatDoor
namespace Go.Proofs.YtfibdpfhfgnbiaaGreatDoor
open Go Go.RowKit
attribute [local go_sem ↓] Go.wp_at_zero Go.wp_at_succ


set_option maxRecDepth 100000 in
theorem c_has (a0 : Option Addr) (n0 c0 : Nat) (a1 : Option Addr) (n1 c1 : Nat) (b : Bool) (a2 : Option Addr) (n2 c2 : Nat) (x : Int) (w : World) :
    Calls Tryz.prog 207 #[.agg #[.slice a0 n0 c0, .slice a1 n1 c1, .bool b, .slice a2 n2 c2], .int .i64 x] w fun e w' => e = .returned (.bool (decide (0 ≤ x ∧ x < n0))) ∧ Below w.heap.size w w' := by
  by_cases h1 : 0 ≤ x <;> by_cases h2 : x < n0
  all_goals
    go_enter Tryz.func207, Tryz.ntmps207
    go_wp2
    go_ret
    exact ⟨ret_bool (by simp [h1, h2]), (Below.refl _ _).alloc (Nat.le_refl _) _⟩
set_option maxRecDepth 100000 in
set_option maxHeartbeats 4000000 in
theorem c_implOK (h : HD) (D : DD) (w : World) (r : RdD w h D) (hf : Fit D) :
    Calls Tryz.prog 126 #[.agg #[.slice h.a0 h.n0 h.c0, .slice h.a1 h.n1 h.c1, .bool h.b, .slice h.a2 h.n2 h.c2]] w fun e w' => e = .returned (.bool (okD D)) ∧ Below w.heap.size w w' := by
  have k0 := r.l0
  have k1 := r.l1
  have k2 := r.l2
  obtain ⟨f0, f1, f2, f3, f4⟩ := hf
  obtain ⟨rb, r0, r1, r2⟩ := r
  obtain ⟨a0, n0, c0, a1, n1, c1, b, a2, n2, c2⟩ := h
  simp only at *
  have HB : Hid (Below w.heap.size w (w.alloc (.cells #[.slice a0 n0 c0, .slice a1 n1 c1, .bool b, .slice a2 n2 c2] 42))) := (Below.refl _ _).alloc (Nat.le_refl _) _
  have BX : Hid (Box (w.alloc (.cells #[.slice a0 n0 c0, .slice a1 n1 c1, .bool b, .slice a2 n2 c2] 42)) w.heap.size 42 #[.slice a0 n0 c0, .slice a1 n1 c1, .bool b, .slice a2 n2 c2]) := Box.new _ _ _
  by_cases q1 : n0 < 1
  · have E : Hid (okD D = false) := ok_no (by rw [k0, k1, k2]; omega)
    clear HB BX r0 r1 r2 f3 f4
    go_enter Tryz.func126, Tryz.ntmps126
    go_wp2
    go_ret
    exact ⟨ret_bool E.out.symm, (Below.refl _ _).alloc (Nat.le_refl _) _⟩
  · by_cases q2 : 100 < n0
    · have E : Hid (okD D = false) := ok_no (by rw [k0, k1, k2]; omega)
      clear HB BX r0 r1 r2 f3 f4
      go_enter Tryz.func126, Tryz.ntmps126
      go_wp2
      go_ret
      exact ⟨ret_bool E.out.symm, (Below.refl _ _).alloc (Nat.le_refl _) _⟩
    · by_cases q3 : 500 < n1
      · have E : Hid (okD D = false) := ok_no (by rw [k0, k1, k2]; omega)
        clear HB BX r0 r1 r2 f3 f4
        go_enter Tryz.func126, Tryz.ntmps126
        go_wp2
        go_ret
        exact ⟨ret_bool E.out.symm, (Below.refl _ _).alloc (Nat.le_refl _) _⟩
      · by_cases q4 : 500 < n2
        · have E : Hid (okD D = false) := ok_no (by rw [k0, k1, k2]; omega)
          clear HB BX r0 r1 r2 f3 f4
          go_enter Tryz.func126, Tryz.ntmps126
          go_wp2
          go_ret
          exact ⟨ret_bool E.out.symm, (Below.refl _ _).alloc (Nat.le_refl _) _⟩
        · have hn : 1 ≤ n0 ∧ n0 ≤ 100 := by omega
          obtain ⟨b0, off, rfl, hbl, hc0⟩ := r0.2 (by omega)
          have HBL : Hid (b0 < w.heap.size) := hbl
          have HC0 : Hid (∀ i, i < n0 → w.cell? ⟨b0, off + i, none⟩ = (D.S.map Value.string)[i]?) := hc0
          have R1 : Hid (RdP w a1 n1 D.C) := r1
          have F3 : Hid (∀ s ∈ D.S, s.size ≤ 1048576) := f3
          have F4 : Hid (∀ p ∈ D.C, p.2.size ≤ 1048576) := f4
          have RB : Hid (b = D.A) := rb
          clear r0 r1 r2 f3 f4 rb hbl hc0
          go_enter Tryz.func126, Tryz.ntmps126
          go_wp2
          go_loop [32] (fun i => ∃ k : Nat, k ≤ n0 ∧ i = .int .i64 k ∧ Hid (∀ j, j < k → (D.S.getD j ⟨#[]⟩).size ≤ 160)) (fun i => n0 - (intOf i).toNat)
          case atStart => exact ⟨0, by omega, rfl, fun j h => absurd h (by omega)⟩
          case round =>
            obtain ⟨k, hk, rfl, HS⟩ := hrel
            by_cases hlt : k < n0
            · obtain ⟨x, hx⟩ : ∃ x, x = D.S.getD k ⟨#[]⟩ := ⟨_, rfl⟩
              have hck : w.cell? ⟨b0, off + k, none⟩ = some (.string x) := by rw [hx, HC0.out k hlt]; exact map_get _ _ _ _ (by omega)
              have hck2 : (w.alloc (.cells #[.slice (some ⟨b0, off, none⟩) n0 c0, .slice a1 n1 c1, .bool b, .slice a2 n2 c2] 42)).cell? ⟨b0, off + k, none⟩ = some (.string x) := (HB.out.cell (p := ⟨b0, off + k, none⟩) HBL.out).trans hck
              have hxs : x.size ≤ 1048576 := by rw [hx]; exact F3.out _ (by rw [List.getD_eq_getElem?_getD, List.getElem?_eq_getElem (by omega)]; exact List.getElem_mem (by omega))
              have HX : Hid (x = D.S.getD k ⟨#[]⟩) := hx
              clear hx hck
              by_cases hbig : 160 < x.size
              · have E : Hid (okD D = false) := ok_no1 k (by omega) (by rw [← HX.out]; exact hbig)
                go_wp2
                go_ret
                exact ⟨ret_bool E.out.symm, HB.out⟩
              · have HG : Hid (¬ 160 < x.size) := hbig
                go_wp2
                go_round
                case rel => exact ⟨k + 1, by omega, by go_num, fun j hj => if e : j = k then by rw [e, ← HX.out]; have := HG.out; omega else HS.out j (by omega)⟩
                case measure => simp [intOf]; omega
            · have e : n0 = k := by omega
              subst e
              go_wp2
              go_loopw [43] (fun i wr => ∃ k2 : Nat, k2 ≤ n1 ∧ i = .int .i64 k2 ∧ Hid (∀ j, j < k2 → goodC n0 (D.C.getD j dP) = true) ∧ Box wr w.heap.size 42 #[.slice (some ⟨b0, off, none⟩) n0 c0, .slice a1 n1 c1, .bool b, .slice a2 n2 c2] ∧ Below w.heap.size w wr) (fun i _ => n1 - (intOf i).toNat)
              case atStart => exact ⟨0, by omega, rfl, fun j h => absurd h (by omega), BX.out, HB.out⟩
              case round =>
                obtain ⟨k2, hk2, rfl, HT, bx, hb⟩ := hrel
                have v0 := bx.cell 0
                have v1 := bx.cell 1
                have v2 := bx.cell 2
                have v3 := bx.cell 3
                simp at v0 v1 v2 v3
                by_cases hlt2 : k2 < n1
                · obtain ⟨bb, off1, rfl, hbl, hc⟩ := R1.out.2 (by omega)
                  obtain ⟨⟨xa, xt⟩, hx⟩ : ∃ x, x = D.C.getD k2 dP := ⟨_, rfl⟩
                  obtain ⟨d0, d1⟩ := hc k2 hlt2
                  rw [← hx] at d0 d1
                  have e0 : wr.cell? ⟨bb, off1 + k2 * 2, none⟩ = some (.int .i64 xa) := (hb.cell (p := ⟨bb, off1 + k2 * 2, none⟩) hbl).trans d0
                  have e1 : wr.cell? ⟨bb, off1 + k2 * 2 + 1, none⟩ = some (.string xt) := (hb.cell (p := ⟨bb, off1 + k2 * 2 + 1, none⟩) hbl).trans d1
                  have hxs : xt.size ≤ 1048576 := by
                    have := F4.out (D.C.getD k2 dP) (by rw [List.getD_eq_getElem?_getD, List.getElem?_eq_getElem (by omega)]; exact List.getElem_mem (by omega))
                    rw [← hx] at this
                    exact this
                  have HX : Hid ((xa, xt) = D.C.getD k2 dP) := hx
                  have HB' : Hid (Below w.heap.size w wr) := hb
                  have HBX : Hid (Box wr w.heap.size 42 _) := bx
                  have hsz : w.heap.size < wr.heap.size := bx.lt
                  clear hc hx d0 d1 hb bx
                  have HE : Hid (Below w.heap.size w (wr.alloc (.cells #[.int .i64 xa, .string xt] 197))) := HB'.out.alloc (by omega) _
                  have HBY : Hid (Box (wr.alloc (.cells #[.int .i64 xa, .string xt] 197)) wr.heap.size 197 #[.int .i64 xa, .string xt]) := Box.new _ _ _
                  have HBZ : Hid (Box (wr.alloc (.cells #[.int .i64 xa, .string xt] 197)) w.heap.size 42 _) := HBX.out.alloc _
                  obtain ⟨t, ht⟩ : ∃ t, t = decide (0 ≤ xa ∧ xa < (n0 : Int)) := ⟨_, rfl⟩
                  have HT2 : Hid (t = decide (0 ≤ xa ∧ xa < (n0 : Int))) := ht
                  clear ht
                  go_wp2_with fail
                  refine (c_has _ n0 _ _ _ _ _ _ _ _ xa _).mono ?_
                  rintro e w3 ⟨rfl, hb3⟩
                  rw [← HT2.out]
                  have HE3 : Hid (Below w.heap.size w w3) := HE.out.trans (hb3.mono HE.out.size)
                  have y3 := HBY.out.belowS hb3
                  have z3 := HBZ.out.belowS hb3
                  have HZ3 : Hid (Box w3 w.heap.size 42 _) := z3
                  have u0 := y3.cell 0
                  have u1 := y3.cell 1
                  simp at u0 u1
                  clear hb3 y3 z3 HE HBY HBZ HB' HBX v0 v1 v2 v3 e0 e1
                  cases t
                  · have E : Hid (okD D = false) := ok_no2 k2 (by omega) (by rw [← HX.out, k0]; unfold goodC; rw [← HT2.out]; rfl)
                    go_wp2
                    go_ret
                    exact ⟨ret_bool E.out.symm, HE3.out⟩
                  · by_cases hbig : 160 < xt.size
                    · have E : Hid (okD D = false) := ok_no2 k2 (by omega) (by rw [← HX.out]; unfold goodC; rw [decide_eq_false (p := xt.size ≤ 160) (by omega), Bool.and_false])
                      go_wp2
                      go_ret
                      exact ⟨ret_bool E.out.symm, HE3.out⟩
                    · have HG : Hid (goodC n0 (xa, xt) = true) := by unfold Hid goodC; rw [← HT2.out, decide_eq_true (p := xt.size ≤ 160) (by omega)]; rfl
                      go_wp2
                      go_roundw
                      case rel => exact ⟨k2 + 1, by omega, by go_num, fun j hj => if e : j = k2 then by rw [e, ← HX.out]; exact HG.out else HT.out j (by omega), HZ3.out, HE3.out⟩
                      case measure => simp [intOf]; omega
                · have e : n1 = k2 := by omega
                  subst e
                  have E : Hid (∀ t : Bool, t = (D.A || D.K.isEmpty) → okD D = t) := fun t ht => by
                    rw [ht]; exact ok_last ⟨by omega, by omega, by omega, by omega⟩ (by rw [k0]; exact HS.out) (by rw [k0, k1]; exact HT.out)
                  have HK : Hid (D.K.isEmpty = decide (n2 = 0)) := by unfold Hid; rw [← k2]; cases D.K <;> simp
                  cases b
                  · by_cases hz : n2 = 0
                    · subst hz
                      have EE : Hid (okD D = true) := E.out true (by rw [← RB.out, HK.out]; rfl)
                      go_wp2
                      go_ret
                      exact ⟨ret_bool EE.out.symm, hb⟩
                    · have EE : Hid (okD D = false) := E.out false (by rw [← RB.out, HK.out, decide_eq_false hz]; rfl)
                      have hz' : ((n2 : Int) == 0) = false := by simp; omega
                      go_wp2
                      go_ret
                      exact ⟨ret_bool EE.out.symm, hb⟩
                  · have EE : Hid (okD D = true) := E.out true (by rw [← RB.out]; rfl)
                    go_wp2
                    go_ret
                    exact ⟨ret_bool EE.out.symm, hb⟩

end Go.Proofs.YtfibdpfhfgnbiaaGreatDoor
