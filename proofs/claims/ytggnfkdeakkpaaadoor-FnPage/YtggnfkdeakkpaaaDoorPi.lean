/-
  Free slots of a page, and what PageInsert answers.
-/
import Derived.Test.YtggnfkdeakkpaaaDoorPx
namespace Go.Proofs.YtggnfkdeakkpaaaDoor
open Go Go.RowKit
attribute [local go_sem ↓] Go.wp_at_zero Go.wp_at_succ


def freeI (ss : List ByteArray) : Int := match ss.findIdx? emB with
  | some k => (k : Int)
  | none => -1
theorem free_at {ss : List ByteArray} {k : Nat} (hk : k < ss.length) (h : emB (ss.getD k ⟨#[]⟩) = true) (hj : ∀ j, j < k → emB (ss.getD j ⟨#[]⟩) = false) : freeI ss = (k : Int) := by
  have : ss.findIdx? emB = some k := by
    rw [List.findIdx?_eq_some_iff_getElem]
    refine ⟨hk, ?_, fun j hjk => ?_⟩
    · rwa [List.getD_eq_getElem?_getD, List.getElem?_eq_getElem hk] at h
    · have := hj j hjk
      rw [List.getD_eq_getElem?_getD, List.getElem?_eq_getElem (by omega)] at this
      simpa using this
  unfold freeI; rw [this]
theorem free_no {ss : List ByteArray} {n : Nat} (hn : ss.length = n) (hj : ∀ j, j < n → emB (ss.getD j ⟨#[]⟩) = false) : freeI ss = -1 := by
  have : ss.findIdx? emB = none := by
    rw [List.findIdx?_eq_none_iff]
    intro s hs
    obtain ⟨i, hi, rfl⟩ := List.mem_iff_getElem.1 hs
    have := hj i (by omega)
    rwa [List.getD_eq_getElem?_getD, List.getElem?_eq_getElem hi] at this
  unfold freeI; rw [this]
theorem free_cases (ss : List ByteArray) : freeI ss = -1 ∨ ∃ k : Nat, freeI ss = (k : Int) ∧ k < ss.length ∧ emB (ss.getD k ⟨#[]⟩) = true := by
  unfold freeI
  cases h : ss.findIdx? emB with
  | none => exact .inl rfl
  | some k =>
    rw [List.findIdx?_eq_some_iff_getElem] at h
    obtain ⟨hk, h1, _⟩ := h
    exact .inr ⟨k, rfl, hk, by rw [List.getD_eq_getElem?_getD, List.getElem?_eq_getElem hk]; exact h1⟩
def insC (D : DG) (d : ByteArray) : Int := if 65536 < d.size then 2 else if okG D then (if inB d.size 1 30 then (if freeI D.S < 0 then 7 else 0) else 4) else 1
def insK (D : DG) (d : ByteArray) : Int := if insC D d = 0 then freeI D.S else 0
def insR (D : DG) (d : ByteArray) : DG := if insC D d = 0 then ⟨D.L, D.S.set (freeI D.S).toNat d⟩ else if insC D d = 7 then D else ⟨0, []⟩
theorem ins_of {D : DG} {d : ByteArray} {c : Int} (h : insC D d = c) (h0 : c ≠ 0) (h7 : c ≠ 7) : insC D d = c ∧ insK D d = 0 ∧ insR D d = ⟨0, []⟩ := by
  refine ⟨h, ?_, ?_⟩
  · unfold insK; rw [h, if_neg h0]
  · unfold insR; rw [h, if_neg h0, if_neg h7]
theorem ins2 {D : DG} {d : ByteArray} (h : 65536 < d.size) : insC D d = 2 ∧ insK D d = 0 ∧ insR D d = ⟨0, []⟩ := ins_of (by unfold insC; rw [if_pos h]) (by decide) (by decide)
theorem ins1 {D : DG} {d : ByteArray} (h : ¬ 65536 < d.size) (h1 : okG D = false) : insC D d = 1 ∧ insK D d = 0 ∧ insR D d = ⟨0, []⟩ := ins_of (by unfold insC; rw [if_neg h, h1]; rfl) (by decide) (by decide)
theorem ins4 {D : DG} {d : ByteArray} (h : ¬ 65536 < d.size) (h1 : okG D = true) (h2 : inB d.size 1 30 = false) : insC D d = 4 ∧ insK D d = 0 ∧ insR D d = ⟨0, []⟩ := ins_of (by unfold insC; rw [if_neg h, h1, h2]; rfl) (by decide) (by decide)
theorem ins7 {D : DG} {d : ByteArray} (h : ¬ 65536 < d.size) (h1 : okG D = true) (h2 : inB d.size 1 30 = true) (h3 : freeI D.S = -1) : insC D d = 7 ∧ insK D d = 0 ∧ insR D d = D := by
  have e : insC D d = 7 := by unfold insC; rw [if_neg h, h1, h2, h3]; rfl
  refine ⟨e, ?_, ?_⟩
  · unfold insK; rw [e]; rfl
  · unfold insR; rw [e]; rfl
theorem ins0 {D : DG} {d : ByteArray} {k : Nat} (h : ¬ 65536 < d.size) (h1 : okG D = true) (h2 : inB d.size 1 30 = true) (h3 : freeI D.S = (k : Int)) : insC D d = 0 ∧ insK D d = (k : Int) ∧ insR D d = ⟨D.L, D.S.set k d⟩ := by
  have e : insC D d = 0 := by unfold insC; rw [if_neg h, h1, h2, h3]; simp
  refine ⟨e, ?_, ?_⟩
  · unfold insK; rw [e, h3]; rfl
  · unfold insR; rw [e, h3]; rfl
theorem ins_fit {D : DG} {d : ByteArray} (hf : FitG D) (hd : d.size ≤ 1048576) : FitG (insR D d) := by
  unfold insR
  repeat' split
  all_goals first | exact fit_zero | exact hf | exact fit_set hf hd _ _

set_option maxHeartbeats 1000000 in
theorem c_index (a : Option Addr) (n cap : Nat) (ss : List ByteArray) (w : World) (hr : RdV w a n (ss.map Value.string)) (hn : n ≤ 1048576) :
    Calls Tryd.prog 33 #[.slice a n cap, .string ⟨#[]⟩] w fun e w' => e = .returned (.int .i64 (freeI ss)) ∧ w' = w := by
  obtain ⟨hl, hcs⟩ := hr
  simp only [List.length_map] at hl
  go_enter Tryd.func33, Tryd.ntmps33
  go_wp2
  go_loop [8] (fun i => ∃ k : Nat, k ≤ n ∧ i = .int .i64 k ∧ Hid (∀ j, j < k → emB (ss.getD j ⟨#[]⟩) = false)) (fun i => n - (intOf i).toNat)
  case atStart => exact ⟨0, by omega, rfl, fun j h => absurd h (by omega)⟩
  case round =>
    obtain ⟨k, hk, rfl, HJ⟩ := hrel
    by_cases hlt : k < n
    · obtain ⟨b, off, rfl, _, hc⟩ := hcs (by omega)
      obtain ⟨x, hx⟩ : ∃ x, x = ss.getD k ⟨#[]⟩ := ⟨_, rfl⟩
      have hck : w.cell? ⟨b, off + k, none⟩ = some (.string x) := by rw [hx]; exact at_get hc hl k hlt
      have HX : Hid (x = ss.getD k ⟨#[]⟩) := hx
      have g1 : (0 : Int) ≤ (k : Int) := by omega
      have g2 : (k : Int) < (n : Int) := by omega
      clear hc hcs hx
      cases he : x.toList.isEmpty
      · have he2 : ((⟨#[]⟩ : ByteArray).toList == x.toList) = false := by
          rw [beq_eq_false_iff_ne]; intro e; rw [← e] at he; simp at he
        go_wp2
        go_round
        case rel => exact ⟨k + 1, by omega, by go_num, fun j hj => if e : j = k then by rw [e, ← HX.out]; exact he else HJ.out j (by omega)⟩
        case measure => simp [intOf]; omega
      · have he2 : ((⟨#[]⟩ : ByteArray).toList == x.toList) = true := by
          rw [List.isEmpty_iff] at he; rw [he]; simp
        have E : Hid (freeI ss = (k : Int)) := free_at (by omega) (by rw [← HX.out]; exact he) HJ.out
        go_wp2
        go_ret
        exact ⟨ret_int E.out.symm, rfl⟩
    · have e : n = k := by omega
      subst e
      have E : Hid (freeI ss = -1) := free_no hl HJ.out
      go_wp2
      go_ret
      exact ⟨ret_int E.out.symm, rfl⟩

set_option maxHeartbeats 1000000 in
theorem c_free (h : HG) (D : DG) (w : World) (r : RdG w h D) (h4 : D.S.length = 4) :
    Calls Tryd.prog 36 #[.agg #[.int .i64 h.l, .slice h.a h.n h.c]] w fun e w' => e = .returned (.int .i64 (freeI D.S)) ∧ Below w.heap.size w w' := by
  have H4 : Hid (D.S.length = 4) := h4
  clear h4
  have k0 := r.len
  obtain ⟨rl, r0⟩ := r
  obtain ⟨l, a, n, c⟩ := h
  simp only at *
  subst k0 rl
  obtain ⟨V, hV⟩ : ∃ V, w.alloc (.cells #[.int .i64 D.L, .slice a D.S.length c] 25) = V := ⟨_, rfl⟩
  have HB : Hid (Below w.heap.size w V) := by unfold Hid; rw [← hV]; exact (Below.refl _ _).alloc (Nat.le_refl _) _
  have BX : Box V w.heap.size 25 #[.int .i64 D.L, .slice a D.S.length c] := by rw [← hV]; exact Box.new _ _ _
  obtain ⟨v0, v1⟩ := box2 BX
  obtain ⟨b, off, rfl, _, hc⟩ := (r0.below HB.out).2 (by have := H4.out; omega)
  have HC : Hid (∀ i, i < D.S.length → V.cell? ⟨b, off + i, none⟩ = (D.S.map Value.string)[i]?) := hc
  clear r0 hc BX
  go_enter Tryd.func36, Tryd.ntmps36
  go_wp2
  go_loop [3] (fun i => ∃ k : Nat, k ≤ 4 ∧ i = .int .i64 k ∧ Hid (∀ j, j < k → emB (D.S.getD j ⟨#[]⟩) = false)) (fun i => 4 - (intOf i).toNat)
  case atStart => exact ⟨0, by omega, rfl, fun j h => absurd h (by omega)⟩
  case round =>
    obtain ⟨k, hk, rfl, HJ⟩ := hrel
    by_cases hlt : k < 4
    · obtain ⟨x, hx⟩ : ∃ x, x = D.S.getD k ⟨#[]⟩ := ⟨_, rfl⟩
      have HL : Hid (k < D.S.length) := by have := H4.out; unfold Hid; omega
      have hck : V.cell? ⟨b, off + k, none⟩ = some (.string x) := by rw [hx]; exact at_get HC.out rfl k HL.out
      have HX : Hid (x = D.S.getD k ⟨#[]⟩) := hx
      have g2 : (k : Int) < (D.S.length : Int) := by have := HL.out; omega
      clear hx
      cases he : x.toList.isEmpty
      · go_wp2
        go_round
        case rel => exact ⟨k + 1, by omega, by go_num, fun j hj => if e : j = k then by rw [e, ← HX.out]; exact he else HJ.out j (by omega)⟩
        case measure => simp [intOf]; omega
      · have E : Hid (freeI D.S = (k : Int)) := free_at HL.out (by rw [← HX.out]; exact he) HJ.out
        go_wp2
        go_ret
        exact ⟨ret_int E.out.symm, HB.out⟩
    · have e : k = 4 := by omega
      subst e
      have E : Hid (freeI D.S = -1) := free_no H4.out HJ.out
      go_wp2
      go_ret
      exact ⟨ret_int E.out.symm, HB.out⟩

end Go.Proofs.YtggnfkdeakkpaaaDoor
