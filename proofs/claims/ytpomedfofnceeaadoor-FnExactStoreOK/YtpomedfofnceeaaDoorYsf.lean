/-
  Right stores: lists of frames, and the walk of the program's areFrames.
-/
import Derived.Test.YtpomedfofnceeaaDoorYsb
namespace Go.Proofs.YtpomedfofnceeaaDoor
open Go Go.RowKit
attribute [local go_sem ↓] Go.wp_at_zero Go.wp_at_succ

/-- A frame: where its page lies, and what it says. -/
structure FF where
  no : Int
  h : G.HG
  D : G.DG
  d : Bool
  fi : Int
def zeroF : FF := ⟨0, ⟨0, none, 0, 0⟩, ⟨0, []⟩, false, 0⟩
/-- The slice at a reads as the frames fs. -/
def RdF (w : World) (a : Option Addr) (n : Nat) (fs : List FF) : Prop :=
  fs.length = n ∧ (0 < n → ∃ b off, a = some ⟨b, off, none⟩ ∧ b < w.heap.size ∧ ∀ i, i < n → w.cell? ⟨b, off + i * 5, none⟩ = some (.int .i64 (fs.getD i zeroF).no) ∧ w.cell? ⟨b, off + i * 5 + 1, none⟩ = some (.int .i64 (fs.getD i zeroF).h.l) ∧ w.cell? ⟨b, off + i * 5 + 2, none⟩ = some (.slice (fs.getD i zeroF).h.a (fs.getD i zeroF).h.n (fs.getD i zeroF).h.c) ∧ w.cell? ⟨b, off + i * 5 + 3, none⟩ = some (.bool (fs.getD i zeroF).d) ∧ w.cell? ⟨b, off + i * 5 + 4, none⟩ = some (.int .i64 (fs.getD i zeroF).fi)) ∧
  ∀ i, i < n → G.RdG w (fs.getD i zeroF).h (fs.getD i zeroF).D
theorem RdF.below {w w' : World} {a : Option Addr} {n : Nat} {fs : List FF} (h : RdF w a n fs) (hb : Below w.heap.size w w') : RdF w' a n fs := by
  obtain ⟨h1, h2, h3⟩ := h
  refine ⟨h1, fun hn => ?_, fun i hi => (h3 i hi).below hb⟩
  obtain ⟨b, off, e, hlt, hc⟩ := h2 hn
  refine ⟨b, off, e, Nat.lt_of_lt_of_le hlt hb.size, fun i hi => ?_⟩
  rw [hb.cell (p := ⟨b, off + i * 5, none⟩) hlt, hb.cell (p := ⟨b, off + i * 5 + 1, none⟩) hlt, hb.cell (p := ⟨b, off + i * 5 + 2, none⟩) hlt, hb.cell (p := ⟨b, off + i * 5 + 3, none⟩) hlt, hb.cell (p := ⟨b, off + i * 5 + 4, none⟩) hlt]
  exact hc i hi
/-- Frames that are right, and of which no two have one page. -/
def arF (last : Int) : List Nat → List FF → Bool
  | _, [] => true
  | tk, f :: fs => okFr f.no f.D f.d f.fi last && (!(tk.contains f.no.toNat) && arF last (f.no.toNat :: tk) fs)
theorem arF_at {last : Int} {tk : List Nat} {fs : List FF} {k : Nat} (h : k < fs.length) : arF last tk (fs.drop k) = (okFr (fs.getD k zeroF).no (fs.getD k zeroF).D (fs.getD k zeroF).d (fs.getD k zeroF).fi last && (!(tk.contains (fs.getD k zeroF).no.toNat) && arF last ((fs.getD k zeroF).no.toNat :: tk) (fs.drop (k + 1)))) := by
  rw [List.drop_eq_getElem_cons h, List.getD_eq_getElem?_getD, List.getElem?_eq_getElem h]
  rfl
theorem okFr_no {no : Int} {D : G.DG} {d : Bool} {fi last : Int} (h : okFr no D d fi last = true) : 0 ≤ no ∧ no < 8 := by
  unfold okFr at h
  simp only [Bool.and_eq_true, decide_eq_true_eq] at h
  exact h.1
/-- The array of the pages that were met. -/
def TkB (w : World) (B : Nat) (tk : List Nat) : Prop := Box w B 159 (Array.ofFn fun i : Fin 8 => Value.bool (tk.contains i.val))
theorem TkB.cell {w : World} {B : Nat} {tk : List Nat} (h : TkB w B tk) {m : Nat} (hm : m < 8) : w.cell? ⟨B, m, none⟩ = some (.bool (tk.contains m)) := by
  have := Box.cell h m
  rw [this]
  simp [hm]
theorem TkB.set {w : World} {B : Nat} {tk : List Nat} (h : TkB w B tk) {m : Nat} (_ : m < 8) : TkB (w.setCell ⟨B, m, none⟩ (.bool true)) B (m :: tk) := by
  have := Box.set h m (.bool true)
  unfold TkB
  rw [show (Array.ofFn fun i : Fin 8 => Value.bool ((m :: tk).contains i.val)) = (Array.ofFn fun i : Fin 8 => Value.bool (tk.contains i.val)).setIfInBounds m (.bool true) from ?_]
  · exact this
  · apply Array.ext
    · simp
    · intro i h1 h2
      simp at h1 ⊢
      rw [Array.getElem_setIfInBounds (by simpa using h1)]
      by_cases e : m = i
      · subst e; simp
      · simp [e, Ne.symm e]
theorem tk0 (w : World) : TkB (w.alloc (.cells #[.bool false, .bool false, .bool false, .bool false, .bool false, .bool false, .bool false, .bool false] 159)) w.heap.size [] := Box.new w #[.bool false, .bool false, .bool false, .bool false, .bool false, .bool false, .bool false, .bool false] 159
set_option maxRecDepth 100000 in
set_option maxHeartbeats 4000000 in
theorem c_areFrames (a : Option Addr) (n cap : Nat) (fs : List FF) (last : Int) (w : World) (r : RdF w a n fs) (hn : n ≤ 1048576) (hf : ∀ i, i < n → G.FitG (fs.getD i zeroF).D) :
    Calls Tryd.prog 82 #[.slice a n cap, .int .i64 last] w fun e w' => e = .returned (.bool (decide (n ≤ 3) && arF last [] fs)) ∧ Below w.heap.size w w' := by
  obtain ⟨hl, hcs, hpg⟩ := r
  by_cases h3 : 3 < n
  · have E : Hid ((decide (n ≤ 3) && arF last [] fs) = false) := by unfold Hid; rw [decide_eq_false (by omega)]; rfl
    clear hcs hpg hf
    go_enter Tryd.func82, Tryd.ntmps82
    go_wp2
    go_ret
    exact ⟨ret_bool E.out.symm, Below.refl _ _⟩
  have E0 : Hid ((decide (n ≤ 3) && arF last [] fs) = arF last [] fs) := by unfold Hid; rw [decide_eq_true (by omega)]; rfl
  have HPG : Hid (∀ i, i < n → G.RdG w (fs.getD i zeroF).h (fs.getD i zeroF).D) := hpg
  have HF : Hid (∀ i, i < n → G.FitG (fs.getD i zeroF).D) := hf
  clear hpg hf
  go_enter Tryd.func82, Tryd.ntmps82
  go_wp2
  go_loopw [13] (fun i wr => ∃ (k : Nat) (tk : List Nat), k ≤ n ∧ i = .int .i64 k ∧ Hid (arF last tk (fs.drop k) = arF last [] fs) ∧ Hid (TkB wr w.heap.size tk) ∧ Hid (Below w.heap.size w wr)) (fun i _ => n - (intOf i).toNat)
  case atStart => exact ⟨0, [], by omega, rfl, rfl, tk0 w, (Below.refl _ _).alloc (Nat.le_refl _) _⟩
  case round =>
    obtain ⟨k, tk, hk, rfl, HA, HT, BW⟩ := hrel
    by_cases hlt : k < n
    · obtain ⟨b, off, rfl, hbl, hc⟩ := hcs (by omega)
      obtain ⟨d0, d1, d2, d3, d4⟩ := hc k hlt
      have HAT := arF_at (last := last) (tk := tk) (fs := fs) (k := k) (by omega)
      have RG := (HPG.out k hlt).below BW.out
      have FG := HF.out k hlt
      obtain ⟨⟨no, h, D, d, fi⟩, hv⟩ : ∃ v, v = fs.getD k zeroF := ⟨_, rfl⟩
      rw [← hv] at d0 d1 d2 d3 d4 HAT RG FG
      dsimp only at d0 d1 d2 d3 d4 HAT RG FG
      have e0 := (BW.out.cell (p := ⟨b, off + k * 5, none⟩) hbl).trans d0
      have e1 := (BW.out.cell (p := ⟨b, off + k * 5 + 1, none⟩) hbl).trans d1
      have e2 := (BW.out.cell (p := ⟨b, off + k * 5 + 2, none⟩) hbl).trans d2
      have e3 := (BW.out.cell (p := ⟨b, off + k * 5 + 3, none⟩) hbl).trans d3
      have e4 := (BW.out.cell (p := ⟨b, off + k * 5 + 4, none⟩) hbl).trans d4
      have HAT' : Hid (_ = _) := HAT
      have g1 : (0 : Int) ≤ (k : Int) := by omega
      have g2 : (k : Int) < (n : Int) := by omega
      obtain ⟨W, hW⟩ : ∃ W, wr.alloc (.cells #[.int .i64 no, .int .i64 h.l, .slice h.a h.n h.c, .bool d, .int .i64 fi] 109) = W := ⟨_, rfl⟩
      have hbA : Below wr.heap.size wr W := by rw [← hW]; exact (Below.refl _ _).alloc (Nat.le_refl _) _
      have BX : Hid (Below w.heap.size w W) := BW.out.trans (hbA.mono BW.out.size)
      have TW : Hid (TkB W w.heap.size tk) := Box.belowS HT.out hbA
      have NW : Hid (Box W wr.heap.size 109 #[.int .i64 no, .int .i64 h.l, .slice h.a h.n h.c, .bool d, .int .i64 fi]) := by unfold Hid; rw [← hW]; exact Box.new _ _ _
      have CF := c_isFrame no fi last d h D W (RG.below hbA) FG
      have nb : Hid (w.heap.size < wr.heap.size) := HT.out.lt
      clear hc hv HAT RG FG d0 d1 d2 d3 d4 hbA HT BW
      obtain ⟨y0, y1, y2, y3, y4⟩ := box5 NW.out
      go_wp2_with fail
      refine CF.mono ?_
      rintro e w3 ⟨rfl, hb3⟩
      have B3 : Hid (Below w.heap.size w w3) := BX.out.trans (hb3.mono BX.out.size)
      have T3 : Hid (TkB w3 w.heap.size tk) := Box.belowS TW.out hb3
      have z0 : w3.cell? ⟨wr.heap.size, 0, none⟩ = some (.int .i64 no) := far6 hb3 y0
      clear hb3 CF BX TW NW hW y0 y1 y2 y3 y4 e0 e1 e2 e3 e4
      cases hok : okFr no D d fi last
      · have E : Hid ((decide (n ≤ 3) && arF last [] fs) = false) := by unfold Hid; rw [E0.out, ← HA.out, HAT'.out, hok]; rfl
        clear hok
        go_wp2
        go_ret
        exact ⟨ret_bool E.out.symm, B3.out⟩
      obtain ⟨m, hm⟩ : ∃ m : Nat, no = (m : Int) := ⟨no.toNat, by have := okFr_no hok; omega⟩
      have hm8 : m < 8 := by have := okFr_no hok; omega
      subst hm
      have q1 : (0 : Int) ≤ (m : Int) := by omega
      have q2 : (m : Int) < 8 := by omega
      have cT := T3.out.cell hm8
      have tT := Box.thaw T3.out m
      cases hct : tk.contains m
      · have E : Hid (arF last (m :: tk) (fs.drop (k + 1)) = arF last [] fs) := by unfold Hid; rw [← HA.out, HAT'.out, hok, Int.toNat_natCast, hct]; rfl
        rw [hct] at cT
        have T4 : Hid (TkB (w3.setCell ⟨w.heap.size, m, none⟩ (.bool true)) w.heap.size (m :: tk)) := T3.out.set hm8
        have B4 : Hid (Below w.heap.size w (w3.setCell ⟨w.heap.size, m, none⟩ (.bool true))) := B3.out.setCell (Nat.le_refl _) _
        clear hok hct T3 B3
        go_wp2
        go_roundw
        case rel => exact ⟨k + 1, m :: tk, by omega, by go_num, E, T4, B4⟩
        case measure => simp [intOf]; omega
      · have E : Hid ((decide (n ≤ 3) && arF last [] fs) = false) := by unfold Hid; rw [E0.out, ← HA.out, HAT'.out, hok, Int.toNat_natCast, hct]; rfl
        rw [hct] at cT
        clear hok hct
        go_wp2
        go_ret
        exact ⟨ret_bool E.out.symm, B3.out⟩
    · have e : k = n := by omega
      subst e
      have E : Hid ((decide (k ≤ 3) && arF last [] fs) = true) := by unfold Hid; rw [E0.out, ← HA.out, List.drop_eq_nil_of_le (by omega)]; rfl
      go_wp2
      go_ret
      exact ⟨ret_bool E.out.symm, BW.out⟩

end Go.Proofs.YtpomedfofnceeaaDoor
