/-
  Right stores: the walk of the program's StoreOK.
-/
import Derived.Test.YtfibdpfhfgnbiaaGreatDoorZzam
import Derived.Test.YtfibdpfhfgnbiaaGreatDoorZzal
import Derived.Test.YtfibdpfhfgnbiaaGreatDoorDkq
import Derived.Deep.RegionHeld3
import Derived.Test.YtfibdpfhfgnbiaaGreatDoorZzag
namespace Go.Proofs.YtfibdpfhfgnbiaaGreatDoor
open Go Go.RowKit
attribute [local go_sem ↓] Go.wp_at_zero Go.wp_at_succ

/-- A frame: where its page lies, and what it says. -/
structure FF where
  no : Int
  h : G.HG
  D : G.DG
  d : Bool
  fi : Int
def zeroF : FF := ⟨0, ⟨0, none, 0, 0⟩, ⟨0, []⟩, false, 0⟩
/-- The slice at a reads as the frames fs. -/
def RdF (w : World) (a : Option Addr) (n : Nat) (fs : List FF) : Prop :=
  fs.length = n ∧ (0 < n → ∃ b off, a = some ⟨b, off, none⟩ ∧ b < w.heap.size ∧ ∀ i, i < n → w.cell? ⟨b, off + i * 5, none⟩ = some (.int .i64 (fs.getD i zeroF).no) ∧ w.cell? ⟨b, off + i * 5 + 1, none⟩ = some (.int .i64 (fs.getD i zeroF).h.l) ∧ w.cell? ⟨b, off + i * 5 + 2, none⟩ = some (.slice (fs.getD i zeroF).h.a (fs.getD i zeroF).h.n (fs.getD i zeroF).h.c) ∧ w.cell? ⟨b, off + i * 5 + 3, none⟩ = some (.bool (fs.getD i zeroF).d) ∧ w.cell? ⟨b, off + i * 5 + 4, none⟩ = some (.int .i64 (fs.getD i zeroF).fi)) ∧
  ∀ i, i < n → G.RdG w (fs.getD i zeroF).h (fs.getD i zeroF).D
theorem RdF.below {w w' : World} {a : Option Addr} {n : Nat} {fs : List FF} (h : RdF w a n fs) (hb : Below w.heap.size w w') : RdF w' a n fs := by
  obtain ⟨h1, h2, h3⟩ := h
  refine ⟨h1, fun hn => ?_, fun i hi => (h3 i hi).below hb⟩
  obtain ⟨b, off, e, hlt, hc⟩ := h2 hn
  refine ⟨b, off, e, Nat.lt_of_lt_of_le hlt hb.size, fun i hi => ?_⟩
  rw [hb.cell (p := ⟨b, off + i * 5, none⟩) hlt, hb.cell (p := ⟨b, off + i * 5 + 1, none⟩) hlt, hb.cell (p := ⟨b, off + i * 5 + 2, none⟩) hlt, hb.cell (p := ⟨b, off + i * 5 + 3, none⟩) hlt, hb.cell (p := ⟨b, off + i * 5 + 4, none⟩) hlt]
  exact hc i hi
/-- Frames that are right, and of which no two have one page. -/
def arF (last : Int) : List Nat → List FF → Bool
  | _, [] => true
  | tk, f :: fs => okFr f.no f.D f.d f.fi last && (!(tk.contains f.no.toNat) && arF last (f.no.toNat :: tk) fs)
theorem arF_at {last : Int} {tk : List Nat} {fs : List FF} {k : Nat} (h : k < fs.length) : arF last tk (fs.drop k) = (okFr (fs.getD k zeroF).no (fs.getD k zeroF).D (fs.getD k zeroF).d (fs.getD k zeroF).fi last && (!(tk.contains (fs.getD k zeroF).no.toNat) && arF last ((fs.getD k zeroF).no.toNat :: tk) (fs.drop (k + 1)))) := by
  rw [List.drop_eq_getElem_cons h, List.getD_eq_getElem?_getD, List.getElem?_eq_getElem h]
  rfl
theorem okFr_no {no : Int} {D : G.DG} {d : Bool} {fi last : Int} (h : okFr no D d fi last = true) : 0 ≤ no ∧ no < 8 := by
  unfold okFr at h
  simp only [Bool.and_eq_true, decide_eq_true_eq] at h
  exact h.1
/-- The array of the pages that were met. -/
def TkB (w : World) (B : Nat) (tk : List Nat) : Prop := Box w B 248 (Array.ofFn fun i : Fin 8 => Value.bool (tk.contains i.val))
theorem TkB.cell {w : World} {B : Nat} {tk : List Nat} (h : TkB w B tk) {m : Nat} (hm : m < 8) : w.cell? ⟨B, m, none⟩ = some (.bool (tk.contains m)) := by
  have := Box.cell h m
  rw [this]
  simp [hm]
theorem TkB.set {w : World} {B : Nat} {tk : List Nat} (h : TkB w B tk) {m : Nat} (_ : m < 8) : TkB (w.setCell ⟨B, m, none⟩ (.bool true)) B (m :: tk) := by
  have := Box.set h m (.bool true)
  unfold TkB
  rw [show (Array.ofFn fun i : Fin 8 => Value.bool ((m :: tk).contains i.val)) = (Array.ofFn fun i : Fin 8 => Value.bool (tk.contains i.val)).setIfInBounds m (.bool true) from ?_]
  · exact this
  · apply Array.ext
    · simp
    · intro i h1 h2
      simp at h1 ⊢
      rw [Array.getElem_setIfInBounds (by simpa using h1)]
      by_cases e : m = i
      · subst e; simp
      · simp [e, Ne.symm e]
theorem tk0 (w : World) : TkB (w.alloc (.cells #[.bool false, .bool false, .bool false, .bool false, .bool false, .bool false, .bool false, .bool false] 248)) w.heap.size [] := Box.new w #[.bool false, .bool false, .bool false, .bool false, .bool false, .bool false, .bool false, .bool false] 248
set_option maxRecDepth 100000 in
set_option maxHeartbeats 4000000 in
theorem c_areFrames (a : Option Addr) (n cap : Nat) (fs : List FF) (last : Int) (w : World) (r : RdF w a n fs) (hn : n ≤ 1048576) (hf : ∀ i, i < n → G.FitG (fs.getD i zeroF).D) :
    Calls Tryz.prog 129 #[.slice a n cap, .int .i64 last] w fun e w' => e = .returned (.bool (decide (n ≤ 3) && arF last [] fs)) ∧ Below w.heap.size w w' := by
  obtain ⟨hl, hcs, hpg⟩ := r
  by_cases h3 : 3 < n
  · have E : Hid ((decide (n ≤ 3) && arF last [] fs) = false) := by unfold Hid; rw [decide_eq_false (by omega)]; rfl
    clear hcs hpg hf
    go_enter Tryz.func129, Tryz.ntmps129
    go_wp2
    go_ret
    exact ⟨ret_bool E.out.symm, Below.refl _ _⟩
  have E0 : Hid ((decide (n ≤ 3) && arF last [] fs) = arF last [] fs) := by unfold Hid; rw [decide_eq_true (by omega)]; rfl
  have HPG : Hid (∀ i, i < n → G.RdG w (fs.getD i zeroF).h (fs.getD i zeroF).D) := hpg
  have HF : Hid (∀ i, i < n → G.FitG (fs.getD i zeroF).D) := hf
  clear hpg hf
  go_enter Tryz.func129, Tryz.ntmps129
  go_wp2
  go_loopw [13] (fun i wr => ∃ (k : Nat) (tk : List Nat), k ≤ n ∧ i = .int .i64 k ∧ Hid (arF last tk (fs.drop k) = arF last [] fs) ∧ Hid (TkB wr w.heap.size tk) ∧ Hid (Below w.heap.size w wr)) (fun i _ => n - (intOf i).toNat)
  case atStart => exact ⟨0, [], by omega, rfl, rfl, tk0 w, (Below.refl _ _).alloc (Nat.le_refl _) _⟩
  case round =>
    obtain ⟨k, tk, hk, rfl, HA, HT, BW⟩ := hrel
    by_cases hlt : k < n
    · obtain ⟨b, off, rfl, hbl, hc⟩ := hcs (by omega)
      obtain ⟨d0, d1, d2, d3, d4⟩ := hc k hlt
      have HAT := arF_at (last := last) (tk := tk) (fs := fs) (k := k) (by omega)
      have RG := (HPG.out k hlt).below BW.out
      have FG := HF.out k hlt
      obtain ⟨⟨no, h, D, d, fi⟩, hv⟩ : ∃ v, v = fs.getD k zeroF := ⟨_, rfl⟩
      rw [← hv] at d0 d1 d2 d3 d4 HAT RG FG
      dsimp only at d0 d1 d2 d3 d4 HAT RG FG
      have e0 := (BW.out.cell (p := ⟨b, off + k * 5, none⟩) hbl).trans d0
      have e1 := (BW.out.cell (p := ⟨b, off + k * 5 + 1, none⟩) hbl).trans d1
      have e2 := (BW.out.cell (p := ⟨b, off + k * 5 + 2, none⟩) hbl).trans d2
      have e3 := (BW.out.cell (p := ⟨b, off + k * 5 + 3, none⟩) hbl).trans d3
      have e4 := (BW.out.cell (p := ⟨b, off + k * 5 + 4, none⟩) hbl).trans d4
      have HAT' : Hid (_ = _) := HAT
      have g1 : (0 : Int) ≤ (k : Int) := by omega
      have g2 : (k : Int) < (n : Int) := by omega
      obtain ⟨W, hW⟩ : ∃ W, wr.alloc (.cells #[.int .i64 no, .int .i64 h.l, .slice h.a h.n h.c, .bool d, .int .i64 fi] 142) = W := ⟨_, rfl⟩
      have hbA : Below wr.heap.size wr W := by rw [← hW]; exact (Below.refl _ _).alloc (Nat.le_refl _) _
      have BX : Hid (Below w.heap.size w W) := BW.out.trans (hbA.mono BW.out.size)
      have TW : Hid (TkB W w.heap.size tk) := Box.belowS HT.out hbA
      have NW : Hid (Box W wr.heap.size 142 #[.int .i64 no, .int .i64 h.l, .slice h.a h.n h.c, .bool d, .int .i64 fi]) := by unfold Hid; rw [← hW]; exact Box.new _ _ _
      have CF := c_isFrame no fi last d h D W (RG.below hbA) FG
      have nb : Hid (w.heap.size < wr.heap.size) := HT.out.lt
      clear hc hv HAT RG FG d0 d1 d2 d3 d4 hbA HT BW
      obtain ⟨y0, y1, y2, y3, y4⟩ := box5 NW.out
      go_wp2_with fail
      refine CF.mono ?_
      rintro e w3 ⟨rfl, hb3⟩
      have B3 : Hid (Below w.heap.size w w3) := BX.out.trans (hb3.mono BX.out.size)
      have T3 : Hid (TkB w3 w.heap.size tk) := Box.belowS TW.out hb3
      have z0 : w3.cell? ⟨wr.heap.size, 0, none⟩ = some (.int .i64 no) := far6 hb3 y0
      clear hb3 CF BX TW NW hW y0 y1 y2 y3 y4 e0 e1 e2 e3 e4
      cases hok : okFr no D d fi last
      · have E : Hid ((decide (n ≤ 3) && arF last [] fs) = false) := by unfold Hid; rw [E0.out, ← HA.out, HAT'.out, hok]; rfl
        clear hok
        go_wp2
        go_ret
        exact ⟨ret_bool E.out.symm, B3.out⟩
      obtain ⟨m, hm⟩ : ∃ m : Nat, no = (m : Int) := ⟨no.toNat, by have := okFr_no hok; omega⟩
      have hm8 : m < 8 := by have := okFr_no hok; omega
      subst hm
      have q1 : (0 : Int) ≤ (m : Int) := by omega
      have q2 : (m : Int) < 8 := by omega
      have cT := T3.out.cell hm8
      have tT := Box.thaw T3.out m
      cases hct : tk.contains m
      · have E : Hid (arF last (m :: tk) (fs.drop (k + 1)) = arF last [] fs) := by unfold Hid; rw [← HA.out, HAT'.out, hok, Int.toNat_natCast, hct]; rfl
        rw [hct] at cT
        have T4 : Hid (TkB (w3.setCell ⟨w.heap.size, m, none⟩ (.bool true)) w.heap.size (m :: tk)) := T3.out.set hm8
        have B4 : Hid (Below w.heap.size w (w3.setCell ⟨w.heap.size, m, none⟩ (.bool true))) := B3.out.setCell (Nat.le_refl _) _
        clear hok hct T3 B3
        go_wp2
        go_roundw
        case rel => exact ⟨k + 1, m :: tk, by omega, by go_num, E, T4, B4⟩
        case measure => simp [intOf]; omega
      · have E : Hid ((decide (n ≤ 3) && arF last [] fs) = false) := by unfold Hid; rw [E0.out, ← HA.out, HAT'.out, hok, Int.toNat_natCast, hct]; rfl
        rw [hct] at cT
        clear hok hct
        go_wp2
        go_ret
        exact ⟨ret_bool E.out.symm, B3.out⟩
    · have e : k = n := by omega
      subst e
      have E : Hid ((decide (k ≤ 3) && arF last [] fs) = true) := by unfold Hid; rw [E0.out, ← HA.out, List.drop_eq_nil_of_le (by omega)]; rfl
      go_wp2
      go_ret
      exact ⟨ret_bool E.out.symm, BW.out⟩

end Go.Proofs.YtfibdpfhfgnbiaaGreatDoor
namespace Go.Proofs.YtfibdpfhfgnbiaaGreatDoor
open Go Go.RowKit
attribute [local go_sem ↓] Go.wp_at_zero Go.wp_at_succ

theorem getD_of1 {α : Type} {Q : α → Prop} {vs : List α} {d : α} {k : Nat} (h : ∀ v ∈ vs, Q v) (hk : k < vs.length) : Q (vs.getD k d) := by
  rw [List.getD_eq_getElem?_getD, List.getElem?_eq_getElem hk]
  exact h _ (List.getElem_mem hk)
set_option maxRecDepth 100000 in
set_option maxHeartbeats 8000000 in
theorem c_szDisk2 (h : HD) (D : DD) (left : Int) (w : World) (r : RdD w h D) (m0 : h.n0 ≤ maxLen) (m1 : h.n1 ≤ maxLen) (m2 : h.n2 ≤ maxLen) (s0 : ∀ s ∈ D.S, s.size ≤ maxLen) (s1 : ∀ p ∈ D.C, p.2.size ≤ maxLen) (hl0 : 0 ≤ left) (hl1 : left ≤ 1048576) :
    Calls Tryz.prog 91 #[.agg #[.slice h.a0 h.n0 h.c0, .slice h.a1 h.n1 h.c1, .bool h.b, .slice h.a2 h.n2 h.c2], .int .i64 left] w fun e w' => (∃ z : Int, e = .returned (.int .i64 z) ∧ z ≤ left ∧ (0 ≤ z → Fit D)) ∧ Below w.heap.size w w' := by
  have k0 := r.l0
  have k1 := r.l1
  have k2 := r.l2
  obtain ⟨rb, r0, r1, r2⟩ := r
  obtain ⟨a0, n0, c0, a1, n1, c1, b, a2, n2, c2⟩ := h
  simp only at *
  subst k0 k1 k2 rb
  have R0 : Hid (RdV w a0 D.S.length (D.S.map Value.string)) := r0
  have R1 : Hid (RdP w a1 D.C.length D.C) := r1
  have S0 : Hid (∀ s ∈ D.S, s.size ≤ maxLen) := s0
  have S1 : Hid (∀ p ∈ D.C, p.2.size ≤ maxLen) := s1
  have HB : Hid (Below w.heap.size w (w.alloc (.cells #[.slice a0 D.S.length c0, .slice a1 D.C.length c1, .bool D.A, .slice a2 D.K.length c2] 26))) := (Below.refl _ _).alloc (Nat.le_refl _) _
  have bx : Hid (Box (w.alloc (.cells #[.slice a0 D.S.length c0, .slice a1 D.C.length c1, .bool D.A, .slice a2 D.K.length c2] 26)) w.heap.size 26 #[.slice a0 D.S.length c0, .slice a1 D.C.length c1, .bool D.A, .slice a2 D.K.length c2]) := Box.new _ _ _
  clear r0 r1 r2 s0 s1
  go_enter Tryz.func91, Tryz.ntmps91
  go_wp2_with fail
  refine (c_szS a0 _ c0 D.S left _ (R0.out.below HB.out) m0 S0.out hl0 hl1).mono ?_
  rintro e w1 ⟨rfl, hq⟩
  have hb1 := HB.out
  have by1 := bx.out
  rw [← hq] at hb1 by1
  clear hq HB bx
  obtain ⟨z1, hz1⟩ : ∃ z, z = sizeS left D.S.length D.S := ⟨_, rfl⟩
  rw [← hz1]
  by_cases hn1 : z1 < 0
  · clear hz1
    go_wp2
    go_ret
    exact ⟨⟨_, rfl, by omega, fun h => absurd h (by omega)⟩, hb1⟩
  · have q1 : z1 ≤ left ∧ (D.S.length : Int) ≤ left ∧ ∀ s ∈ D.S, s.size ≤ 1048576 := by
      unfold sizeS at hz1
      by_cases h1 : left - D.S.length < 0
      · rw [if_pos h1] at hz1; omega
      · rw [if_neg h1] at hz1
        have := szL_ok D.S (left - D.S.length) (by omega) (by omega)
        exact ⟨by omega, by omega, fun s h => by have := this.2 s h; omega⟩
    have Q1 : Hid (∀ s ∈ D.S, s.size ≤ 1048576) := q1.2.2
    have q11 := q1.1
    have q12 := q1.2.1
    clear q1 hz1
    have d1 := by1.cell 1
    simp at d1
    go_wp2_with fail
    refine (c_szP a1 _ c1 D.C z1 w1 (R1.out.below hb1) m1 S1.out (by omega) (by omega)).mono ?_
    rintro e w2 ⟨rfl, hb2⟩
    have bz1 := by1.belowS hb2
    have hbb : Below w.heap.size w w2 := hb1.trans (hb2.mono hb1.size)
    clear hb1 hb2 by1 d1
    obtain ⟨z2, hz2⟩ : ∃ z, z = sizeS z1 D.C.length (txtP D.C) := ⟨_, rfl⟩
    rw [← hz2]
    by_cases hn2 : z2 < 0
    · clear hz2
      go_wp2
      go_ret
      exact ⟨⟨_, rfl, by omega, fun h => absurd h (by omega)⟩, hbb⟩
    · have q2 : z2 ≤ z1 ∧ (D.C.length : Int) ≤ z1 ∧ ∀ s ∈ D.C, s.2.size ≤ 1048576 := by
        unfold sizeS at hz2
        by_cases h1 : z1 - D.C.length < 0
        · rw [if_pos h1] at hz2; omega
        · rw [if_neg h1] at hz2
          have := szL_ok (txtP D.C) (z1 - D.C.length) (by omega) (by omega)
          exact ⟨by omega, by omega, fun s h => by have := this.2 s.2 (List.mem_map.2 ⟨s, h, rfl⟩); omega⟩
      have Q2 : Hid (∀ s ∈ D.C, s.2.size ≤ 1048576) := q2.2.2
      have q21 := q2.1
      have q22 := q2.2.1
      clear q2 hz2
      have d1 := bz1.cell 3
      simp at d1
      go_wp2_with fail
      refine (c_szI a2 _ c2 z2 w2 m2 (by omega) (by omega)).mono ?_
      rintro e w3 ⟨rfl, hq⟩
      have hb3 := hbb
      rw [← hq] at hb3
      clear hq bz1 d1 hbb
      by_cases hn3 : z2 - D.K.length < 0
      · rw [if_pos hn3]
        go_wp2
        go_ret
        exact ⟨⟨_, rfl, by omega, fun h => absurd h (by omega)⟩, hb3⟩
      · rw [if_neg hn3]
        have HN : Hid (¬ z2 - D.K.length < 0) := hn3
        go_wp2
        go_ret
        exact ⟨⟨_, rfl, by omega, fun h => ⟨by omega, by omega, by have := HN.out; omega, Q1.out, Q2.out⟩⟩, hb3⟩

set_option maxRecDepth 100000 in
set_option maxHeartbeats 8000000 in
theorem c_szR2 (e l t k p n g s : Int) (b a : ByteArray) (left : Int) (w : World) (hb : b.size ≤ maxLen) (ha : a.size ≤ maxLen) (h0 : 0 ≤ left) (h1 : left ≤ 1048576) :
    Calls Tryz.prog 36 #[.agg #[.int .i64 e, .int .i64 l, .int .i64 t, .int .i64 k, .int .i64 p, .int .i64 n, .int .i64 g, .int .i64 s, .string b, .string a], .int .i64 left] w fun e w' => (∃ z : Int, e = .returned (.int .i64 z) ∧ z ≤ left ∧ (0 ≤ z → b.size ≤ 1048576 ∧ a.size ≤ 1048576)) ∧ Below w.heap.size w w' := by
  unfold maxLen at hb ha
  by_cases h : left - b.size < 0
  · go_enter Tryz.func36, Tryz.ntmps36
    go_wp2
    go_ret
    exact ⟨⟨_, rfl, by omega, fun h => absurd h (by omega)⟩, (Below.refl _ _).alloc (Nat.le_refl _) _⟩
  · by_cases h2 : left - b.size - a.size < 0
    · go_enter Tryz.func36, Tryz.ntmps36
      go_wp2
      go_ret
      exact ⟨⟨_, rfl, by omega, fun h => absurd h (by omega)⟩, (Below.refl _ _).alloc (Nat.le_refl _) _⟩
    · go_enter Tryz.func36, Tryz.ntmps36
      go_wp2
      go_ret
      exact ⟨⟨_, rfl, by omega, fun _ => ⟨by omega, by omega⟩⟩, (Below.refl _ _).alloc (Nat.le_refl _) _⟩

set_option maxRecDepth 100000 in
set_option maxHeartbeats 8000000 in
theorem c_szQ (a : Option Addr) (n cap : Nat) (vs : List DR) (left : Int) (w : World) (hr : RdQ w a n vs) (hm : n ≤ maxLen) (hs : ∀ v ∈ vs, v.b.size ≤ maxLen ∧ v.a.size ≤ maxLen) (h0 : 0 ≤ left) (h1 : left ≤ 1048576) :
    Calls Tryz.prog 92 #[.slice a n cap, .int .i64 left] w fun e w' => (∃ z : Int, e = .returned (.int .i64 z) ∧ z ≤ left ∧ (0 ≤ z → n ≤ 1048576 ∧ ∀ v ∈ vs, v.b.size ≤ 1048576 ∧ v.a.size ≤ 1048576)) ∧ Below w.heap.size w w' := by
  unfold maxLen at hm
  obtain ⟨hl, hcs⟩ := hr
  by_cases hn : left - n < 0
  · go_enter Tryz.func92, Tryz.ntmps92
    go_wp2
    go_ret
    exact ⟨⟨_, rfl, by omega, fun h => absurd h (by omega)⟩, Below.refl _ _⟩
  · have HS : Hid (∀ v ∈ vs, v.b.size ≤ maxLen ∧ v.a.size ≤ maxLen) := hs
    clear hs
    go_enter Tryz.func92, Tryz.ntmps92
    go_wp2
    go_loopw [1, 5] (fun m i wr => ∃ (k : Nat) (l : Int), k ≤ n ∧ 0 ≤ l ∧ l ≤ left ∧ i = .int .i64 k ∧ m = .int .i64 l ∧ Hid (∀ j, j < k → (vs.getD j zeroR).b.size ≤ 1048576 ∧ (vs.getD j zeroR).a.size ≤ 1048576) ∧ Below w.heap.size w wr) (fun _ i _ => n - (intOf i).toNat)
    case atStart => exact ⟨0, left - n, by omega, by omega, by omega, rfl, rfl, fun j hj => absurd hj (by omega), Below.refl _ _⟩
    case round =>
      obtain ⟨k, l, hk, hl0, hl1, rfl, rfl, HL, hb⟩ := hrel
      by_cases hlt : k < n
      · obtain ⟨b, off, rfl, hbl, hc⟩ := hcs (by omega)
        obtain ⟨⟨ve, vl, vt, vk, vp, vn, vg, vz, vb, va⟩, hv⟩ : ∃ v, v = vs.getD k zeroR := ⟨_, rfl⟩
        obtain ⟨d0, d1, d2, d3, d4, d5, d6, d7, d8, d9⟩ := RdQ.at hc hlt hv
        dsimp only at d0 d1 d2 d3 d4 d5 d6 d7 d8 d9
        have e0 : wr.cell? ⟨b, off + k * 10, none⟩ = some (.int .i64 ve) := by rw [hb.cell (p := ⟨b, off + k * 10, none⟩) hbl, d0]
        have e1 : wr.cell? ⟨b, off + k * 10 + 1, none⟩ = some (.int .i64 vl) := by rw [hb.cell (p := ⟨b, off + k * 10 + 1, none⟩) hbl, d1]
        have e2 : wr.cell? ⟨b, off + k * 10 + 2, none⟩ = some (.int .i64 vt) := by rw [hb.cell (p := ⟨b, off + k * 10 + 2, none⟩) hbl, d2]
        have e3 : wr.cell? ⟨b, off + k * 10 + 3, none⟩ = some (.int .i64 vk) := by rw [hb.cell (p := ⟨b, off + k * 10 + 3, none⟩) hbl, d3]
        have e4 : wr.cell? ⟨b, off + k * 10 + 4, none⟩ = some (.int .i64 vp) := by rw [hb.cell (p := ⟨b, off + k * 10 + 4, none⟩) hbl, d4]
        have e5 : wr.cell? ⟨b, off + k * 10 + 5, none⟩ = some (.int .i64 vn) := by rw [hb.cell (p := ⟨b, off + k * 10 + 5, none⟩) hbl, d5]
        have e6 : wr.cell? ⟨b, off + k * 10 + 6, none⟩ = some (.int .i64 vg) := by rw [hb.cell (p := ⟨b, off + k * 10 + 6, none⟩) hbl, d6]
        have e7 : wr.cell? ⟨b, off + k * 10 + 7, none⟩ = some (.int .i64 vz) := by rw [hb.cell (p := ⟨b, off + k * 10 + 7, none⟩) hbl, d7]
        have e8 : wr.cell? ⟨b, off + k * 10 + 8, none⟩ = some (.string vb) := by rw [hb.cell (p := ⟨b, off + k * 10 + 8, none⟩) hbl, d8]
        have e9 : wr.cell? ⟨b, off + k * 10 + 9, none⟩ = some (.string va) := by rw [hb.cell (p := ⟨b, off + k * 10 + 9, none⟩) hbl, d9]
        have hvs : vb.size ≤ maxLen ∧ va.size ≤ maxLen := by
          have := getD_of1 (d := zeroR) HS.out (show k < vs.length by omega)
          rw [← hv] at this
          exact this
        have HV : Hid ((⟨ve, vl, vt, vk, vp, vn, vg, vz, vb, va⟩ : DR) = vs.getD k zeroR) := hv
        clear hc hcs hv HS d0 d1 d2 d3 d4 d5 d6 d7 d8 d9
        go_wp2_with fail
        refine (c_szR2 _ _ _ _ _ _ _ _ _ _ _ _ hvs.1 hvs.2 hl0 (by omega)).mono ?_
        rintro e w1 ⟨⟨z, rfl, hzl, hz⟩, hb1⟩
        have hb' : Below w.heap.size w w1 := hb.trans (hb1.mono hb.size)
        have HZ : Hid (0 ≤ z → vb.size ≤ 1048576 ∧ va.size ≤ 1048576) := hz
        clear hb1 hz hb e0 e1 e2 e3 e4 e5 e6 e7 e8 e9
        by_cases hneg : z < 0
        · go_wp2
          go_ret
          exact ⟨⟨_, rfl, by omega, fun h => absurd h (by omega)⟩, hb'⟩
        · go_wp2
          go_roundw
          case rel => exact ⟨k + 1, z, by omega, by omega, by omega, by go_num, rfl, fun j hj => by
                        by_cases e : j = k
                        · subst e; rw [← HV.out]; exact HZ.out (by omega)
                        · exact HL.out j (by omega), hb'⟩
          case measure => simp [intOf]; omega
      · have e : k = n := by omega
        subst e
        have HK : Hid (∀ v ∈ vs, v.b.size ≤ 1048576 ∧ v.a.size ≤ 1048576) := fun v hv => by
          obtain ⟨j, hj, rfl⟩ := List.getElem_of_mem hv
          have := HL.out j (by omega)
          rw [List.getD_eq_getElem?_getD, List.getElem?_eq_getElem hj] at this
          exact this
        go_wp2
        go_ret
        exact ⟨⟨_, rfl, by omega, fun _ => ⟨by omega, HK.out⟩⟩, hb⟩

/-! ### Copies -/
theorem made_zeroQ (n : Nat) : (madeCells #[.int .i64 0, .int .i64 0, .int .i64 0, .int .i64 0, .int .i64 0, .int .i64 0, .int .i64 0, .int .i64 0, .string ⟨#[]⟩, .string ⟨#[]⟩] (n * 10)).toList = cellsQ (List.replicate n zeroR) := by
  apply List.ext_getElem?
  intro j
  by_cases hj : j < n * 10
  · have h1 : (madeCells #[.int .i64 0, .int .i64 0, .int .i64 0, .int .i64 0, .int .i64 0, .int .i64 0, .int .i64 0, .int .i64 0, .string ⟨#[]⟩, .string ⟨#[]⟩] (n * 10)).toList[j]? = some ((#[.int .i64 0, .int .i64 0, .int .i64 0, .int .i64 0, .int .i64 0, .int .i64 0, .int .i64 0, .int .i64 0, .string ⟨#[]⟩, .string ⟨#[]⟩] : Array Value)[j % 10]!) := by
      simp [madeCells, hj]
    rw [h1]
    have hi : j / 10 < (List.replicate n zeroR).length := by simp; omega
    have hd : (List.replicate n zeroR).getD (j / 10) zeroR = zeroR := by rw [List.getD_eq_getElem?_getD, List.getElem?_eq_getElem hi]; simp
    have c := cellsQ_get (List.replicate n zeroR) (j / 10) hi (j % 10) (by omega)
    rw [hd, show j / 10 * 10 + j % 10 = j by omega] at c
    rw [c]
    have hm : j % 10 < 10 := by omega
    generalize j % 10 = m at hm
    match m, hm with
    | 0, _ => rfl
    | 1, _ => rfl
    | 2, _ => rfl
    | 3, _ => rfl
    | 4, _ => rfl
    | 5, _ => rfl
    | 6, _ => rfl
    | 7, _ => rfl
    | 8, _ => rfl
    | 9, _ => rfl
  · rw [List.getElem?_eq_none (by simp [size_madeCells]; omega), List.getElem?_eq_none (by rw [cellsQ_len]; simp; omega)]
theorem infoQ : (Tryz.prog.info? 78).map (fun i => (i.zero, i.size, i.bytes)) = some (some (.agg #[.int .i64 0, .int .i64 0, .int .i64 0, .int .i64 0, .int .i64 0, .int .i64 0, .int .i64 0, .int .i64 0, .string ⟨#[]⟩, .string ⟨#[]⟩]), 10, 96) := by kernel_rfl
theorem own_putQ {w : World} {base e g n cap : Nat} {vs : List DR} (h : w.ownsRow base e 10 (.slice (some ⟨g, 0, none⟩) n cap) n (cellsQ vs)) (i : Nat) (v : DR) (hi : i < vs.length) :
    ((((((((((w.setCell ⟨g, i * 10, none⟩ (.int .i64 v.e)).setCell ⟨g, i * 10 + 1, none⟩ (.int .i64 v.l)).setCell ⟨g, i * 10 + 2, none⟩ (.int .i64 v.t)).setCell ⟨g, i * 10 + 3, none⟩ (.int .i64 v.k)).setCell ⟨g, i * 10 + 4, none⟩ (.int .i64 v.p)).setCell ⟨g, i * 10 + 5, none⟩ (.int .i64 v.n)).setCell ⟨g, i * 10 + 6, none⟩ (.int .i64 v.g)).setCell ⟨g, i * 10 + 7, none⟩ (.int .i64 v.s)).setCell ⟨g, i * 10 + 8, none⟩ (.string v.b)).setCell ⟨g, i * 10 + 9, none⟩ (.string v.a)).ownsRow base e 10 (.slice (some ⟨g, 0, none⟩) n cap) n (cellsQ (vs.set i v)) := by
  have h0 := (h.stored (i * 10) (.int .i64 v.e)).1
  have h1 := (h0.stored (i * 10 + 1) (.int .i64 v.l)).1
  have h2 := (h1.stored (i * 10 + 2) (.int .i64 v.t)).1
  have h3 := (h2.stored (i * 10 + 3) (.int .i64 v.k)).1
  have h4 := (h3.stored (i * 10 + 4) (.int .i64 v.p)).1
  have h5 := (h4.stored (i * 10 + 5) (.int .i64 v.n)).1
  have h6 := (h5.stored (i * 10 + 6) (.int .i64 v.g)).1
  have h7 := (h6.stored (i * 10 + 7) (.int .i64 v.s)).1
  have h8 := (h7.stored (i * 10 + 8) (.string v.b)).1
  have h9 := (h8.stored (i * 10 + 9) (.string v.a)).1
  have := cellsQ_set vs i v hi
  unfold setQ at this
  rw [this] at h9
  exact h9
set_option maxRecDepth 100000 in
set_option maxHeartbeats 8000000 in
theorem c_toQ (a : Option Addr) (n cap : Nat) (vs : List DR) (w : World) (hr : RdQ w a n vs) (hn : n ≤ 1048576) :
    Calls Tryz.prog 97 #[.slice a n cap] w fun e w' => e = .returned (.slice (some ⟨w.heap.size, 0, none⟩) n n) ∧ w'.ownsRow w.heap.size 78 10 (.slice (some ⟨w.heap.size, 0, none⟩) n n) n (cellsQ vs) ∧ Below w.heap.size w w' := by
  obtain ⟨hl, hcs⟩ := hr
  obtain ⟨i0, hi, hz0, hz1, hz2⟩ := info_parts infoQ
  go_enter Tryz.func97, Tryz.ntmps97
  go_wp2_with (at_make; refine wpList_make_full _ rfl (.tmp 6) (.tmp 6) 43 rfl w.heap.size 78 i0 (.agg #[.int .i64 0, .int .i64 0, .int .i64 0, .int .i64 0, .int .i64 0, .int .i64 0, .int .i64 0, .int .i64 0, .string ⟨#[]⟩, .string ⟨#[]⟩]) 10 Tryz.underlying43 hi hz0 hz1 .i64 .i64 _ _ n rfl rfl rfl rfl (by rw [hz2]; omega) (by unfold maxLen; omega) (Nat.le_refl _) ?_; intro w1 hown hgrow)
  go_loopw [4] (fun i wr => ∃ k : Nat, k ≤ n ∧ i = .int .i64 k ∧ wr.ownsRow w.heap.size 78 10 (.slice (some ⟨w.heap.size, 0, none⟩) n n) n (cellsQ (partA zeroR vs n k)) ∧ Below w.heap.size w wr) (fun i _ => n - (intOf i).toNat)
  case atStart => exact ⟨0, by omega, rfl, by have e := made_zeroQ n; simp only [Value.cells] at hown; rw [e] at hown; simpa [partA] using hown, (Below.refl _ _).grown hgrow (Nat.le_refl _) (fun k h => by cases h)⟩
  case round =>
    obtain ⟨k, hk, rfl, hown, hb⟩ := hrel
    by_cases hlt : k < n
    · obtain ⟨b, off, rfl, hbl, hc⟩ := hcs (by omega)
      obtain ⟨⟨ve, vl, vt, vk, vp, vn, vg, vz, vb, va⟩, hv⟩ : ∃ v, v = vs.getD k zeroR := ⟨_, rfl⟩
      obtain ⟨d0, d1, d2, d3, d4, d5, d6, d7, d8, d9⟩ := RdQ.at hc hlt hv
      dsimp only at d0 d1 d2 d3 d4 d5 d6 d7 d8 d9
      have e0 : wr.cell? ⟨b, off + k * 10, none⟩ = some (.int .i64 ve) := by rw [hb.cell (p := ⟨b, off + k * 10, none⟩) hbl, d0]
      have e1 : wr.cell? ⟨b, off + k * 10 + 1, none⟩ = some (.int .i64 vl) := by rw [hb.cell (p := ⟨b, off + k * 10 + 1, none⟩) hbl, d1]
      have e2 : wr.cell? ⟨b, off + k * 10 + 2, none⟩ = some (.int .i64 vt) := by rw [hb.cell (p := ⟨b, off + k * 10 + 2, none⟩) hbl, d2]
      have e3 : wr.cell? ⟨b, off + k * 10 + 3, none⟩ = some (.int .i64 vk) := by rw [hb.cell (p := ⟨b, off + k * 10 + 3, none⟩) hbl, d3]
      have e4 : wr.cell? ⟨b, off + k * 10 + 4, none⟩ = some (.int .i64 vp) := by rw [hb.cell (p := ⟨b, off + k * 10 + 4, none⟩) hbl, d4]
      have e5 : wr.cell? ⟨b, off + k * 10 + 5, none⟩ = some (.int .i64 vn) := by rw [hb.cell (p := ⟨b, off + k * 10 + 5, none⟩) hbl, d5]
      have e6 : wr.cell? ⟨b, off + k * 10 + 6, none⟩ = some (.int .i64 vg) := by rw [hb.cell (p := ⟨b, off + k * 10 + 6, none⟩) hbl, d6]
      have e7 : wr.cell? ⟨b, off + k * 10 + 7, none⟩ = some (.int .i64 vz) := by rw [hb.cell (p := ⟨b, off + k * 10 + 7, none⟩) hbl, d7]
      have e8 : wr.cell? ⟨b, off + k * 10 + 8, none⟩ = some (.string vb) := by rw [hb.cell (p := ⟨b, off + k * 10 + 8, none⟩) hbl, d8]
      have e9 : wr.cell? ⟨b, off + k * 10 + 9, none⟩ = some (.string va) := by rw [hb.cell (p := ⟨b, off + k * 10 + 9, none⟩) hbl, d9]
      have HV : Hid ((⟨ve, vl, vt, vk, vp, vn, vg, vz, vb, va⟩ : DR) = vs.getD k zeroR) := hv
      clear hc hcs hgrow hv d0 d1 d2 d3 d4 d5 d6 d7 d8 d9
      have HO : Hid (wr.ownsRow w.heap.size 78 10 (.slice (some ⟨w.heap.size, 0, none⟩) n n) n (cellsQ (partA zeroR vs n k))) := hown
      have HB : Hid (Below w.heap.size w wr) := hb
      clear hown hb
      go_wp2_with fail
      refine (c_toR _ _ _ _ _ _ _ _ _ _ _).mono ?_
      rintro e w1 ⟨rfl, hb1⟩
      have hown1 := own_below HO.out hb1
      have hbb : Below w.heap.size w w1 := HB.out.trans (hb1.mono HB.out.size)
      have hpl := partA_len zeroR vs n k hl hk
      obtain ⟨u0, f0⟩ : ∃ u, w1.cell? ⟨w.heap.size, k * 10, none⟩ = some u := ⟨_, (hown1.cellAt (k * 10) (by omega)).trans (List.getElem?_eq_getElem (by rw [cellsQ_len]; omega))⟩
      have z0 := hown1.frozenAt (k * 10)
      obtain ⟨u1, f1⟩ : ∃ u, w1.cell? ⟨w.heap.size, k * 10 + 1, none⟩ = some u := ⟨_, (hown1.cellAt (k * 10 + 1) (by omega)).trans (List.getElem?_eq_getElem (by rw [cellsQ_len]; omega))⟩
      have z1 := hown1.frozenAt (k * 10 + 1)
      obtain ⟨u2, f2⟩ : ∃ u, w1.cell? ⟨w.heap.size, k * 10 + 2, none⟩ = some u := ⟨_, (hown1.cellAt (k * 10 + 2) (by omega)).trans (List.getElem?_eq_getElem (by rw [cellsQ_len]; omega))⟩
      have z2 := hown1.frozenAt (k * 10 + 2)
      obtain ⟨u3, f3⟩ : ∃ u, w1.cell? ⟨w.heap.size, k * 10 + 3, none⟩ = some u := ⟨_, (hown1.cellAt (k * 10 + 3) (by omega)).trans (List.getElem?_eq_getElem (by rw [cellsQ_len]; omega))⟩
      have z3 := hown1.frozenAt (k * 10 + 3)
      obtain ⟨u4, f4⟩ : ∃ u, w1.cell? ⟨w.heap.size, k * 10 + 4, none⟩ = some u := ⟨_, (hown1.cellAt (k * 10 + 4) (by omega)).trans (List.getElem?_eq_getElem (by rw [cellsQ_len]; omega))⟩
      have z4 := hown1.frozenAt (k * 10 + 4)
      obtain ⟨u5, f5⟩ : ∃ u, w1.cell? ⟨w.heap.size, k * 10 + 5, none⟩ = some u := ⟨_, (hown1.cellAt (k * 10 + 5) (by omega)).trans (List.getElem?_eq_getElem (by rw [cellsQ_len]; omega))⟩
      have z5 := hown1.frozenAt (k * 10 + 5)
      obtain ⟨u6, f6⟩ : ∃ u, w1.cell? ⟨w.heap.size, k * 10 + 6, none⟩ = some u := ⟨_, (hown1.cellAt (k * 10 + 6) (by omega)).trans (List.getElem?_eq_getElem (by rw [cellsQ_len]; omega))⟩
      have z6 := hown1.frozenAt (k * 10 + 6)
      obtain ⟨u7, f7⟩ : ∃ u, w1.cell? ⟨w.heap.size, k * 10 + 7, none⟩ = some u := ⟨_, (hown1.cellAt (k * 10 + 7) (by omega)).trans (List.getElem?_eq_getElem (by rw [cellsQ_len]; omega))⟩
      have z7 := hown1.frozenAt (k * 10 + 7)
      obtain ⟨u8, f8⟩ : ∃ u, w1.cell? ⟨w.heap.size, k * 10 + 8, none⟩ = some u := ⟨_, (hown1.cellAt (k * 10 + 8) (by omega)).trans (List.getElem?_eq_getElem (by rw [cellsQ_len]; omega))⟩
      have z8 := hown1.frozenAt (k * 10 + 8)
      obtain ⟨u9, f9⟩ : ∃ u, w1.cell? ⟨w.heap.size, k * 10 + 9, none⟩ = some u := ⟨_, (hown1.cellAt (k * 10 + 9) (by omega)).trans (List.getElem?_eq_getElem (by rw [cellsQ_len]; omega))⟩
      have z9 := hown1.frozenAt (k * 10 + 9)
      have hput := own_putQ hown1 k ⟨ve, vl, vt, vk, vp, vn, vg, vz, vb, va⟩ (by omega)
      rw [show (partA zeroR vs n k).set k (⟨ve, vl, vt, vk, vp, vn, vg, vz, vb, va⟩ : DR) = partA zeroR vs n (k + 1) by rw [HV.out]; exact partA_step zeroR vs n k hl hlt] at hput
      dsimp only at hput
      have HP : Hid (_) := hput
      have BB : Hid (Below w.heap.size w ((((((((((w1.setCell ⟨w.heap.size, k * 10, none⟩ (.int .i64 ve)).setCell ⟨w.heap.size, k * 10 + 1, none⟩ (.int .i64 vl)).setCell ⟨w.heap.size, k * 10 + 2, none⟩ (.int .i64 vt)).setCell ⟨w.heap.size, k * 10 + 3, none⟩ (.int .i64 vk)).setCell ⟨w.heap.size, k * 10 + 4, none⟩ (.int .i64 vp)).setCell ⟨w.heap.size, k * 10 + 5, none⟩ (.int .i64 vn)).setCell ⟨w.heap.size, k * 10 + 6, none⟩ (.int .i64 vg)).setCell ⟨w.heap.size, k * 10 + 7, none⟩ (.int .i64 vz)).setCell ⟨w.heap.size, k * 10 + 8, none⟩ (.string vb)).setCell ⟨w.heap.size, k * 10 + 9, none⟩ (.string va))) := ((((((((((hbb.setCell (Nat.le_refl _) _).setCell (Nat.le_refl _) _).setCell (Nat.le_refl _) _).setCell (Nat.le_refl _) _).setCell (Nat.le_refl _) _).setCell (Nat.le_refl _) _).setCell (Nat.le_refl _) _).setCell (Nat.le_refl _) _).setCell (Nat.le_refl _) _).setCell (Nat.le_refl _) _)
      clear hput hown1 hb1 HO HB hbb e0 e1 e2 e3 e4 e5 e6 e7 e8 e9
      go_wp2
      go_roundw
      case rel => exact ⟨k + 1, by omega, by go_num, HP.out, BB.out⟩
      case measure => simp [intOf]; omega
    · have e : k = n := by omega
      subst e
      rw [partA_full _ _ k hl] at hown
      go_wp2
      go_ret
      exact ⟨rfl, hown, hb⟩

end Go.Proofs.YtfibdpfhfgnbiaaGreatDoor
namespace Go.Proofs.YtfibdpfhfgnbiaaGreatDoor
open Go Go.RowKit
attribute [local go_sem ↓] Go.wp_at_zero Go.wp_at_succ

/-- A right store. -/
def okST (D : DD) (n0 : Nat) (ep : Int) (ln : Nat) (L : List DR) (su : Int) (fn : Nat) (F : List FF) (ha : Int) : Bool := okD D && (decide (n0 = 69) && (decide (1 ≤ ep) && (decide (ep ≤ 60) && (decide (ln ≤ 60) && (inPl 0 L && (ofEp ep 0 L && (decide (0 ≤ su) && (decide (su ≤ (ln : Int)) && ((decide (fn ≤ 3) && arF (ln : Int) [] F) && (decide (0 ≤ ha) && (decide (ha < 3) && (hasPg (rdS D.S D.C) su))))))))))))
theorem box9 {w : World} {g : Nat} {t : TypeId} {v0 v1 v2 v3 v4 v5 v6 v7 v8 : Value} (h : Box w g t #[v0, v1, v2, v3, v4, v5, v6, v7, v8]) : w.cell? ⟨g, 0, none⟩ = some v0 ∧ w.cell? ⟨g, 1, none⟩ = some v1 ∧ w.cell? ⟨g, 2, none⟩ = some v2 ∧ w.cell? ⟨g, 3, none⟩ = some v3 ∧ w.cell? ⟨g, 4, none⟩ = some v4 ∧ w.cell? ⟨g, 5, none⟩ = some v5 ∧ w.cell? ⟨g, 6, none⟩ = some v6 ∧ w.cell? ⟨g, 7, none⟩ = some v7 ∧ w.cell? ⟨g, 8, none⟩ = some v8 :=
  ⟨h.cell 0, h.cell 1, h.cell 2, h.cell 3, h.cell 4, h.cell 5, h.cell 6, h.cell 7, h.cell 8⟩
set_option maxRecDepth 100000 in
set_option maxHeartbeats 4000000 in
theorem c_implST (h : HD) (D : DD) (ep : Int) (la : Option Addr) (ln lc : Nat) (L : List DR) (su : Int) (fa : Option Addr) (fn fc : Nat) (F : List FF) (ha : Int) (w : World) (r : RdD w h D) (hf : Fit D) (rl : RdQ w la ln L) (hln : ln ≤ 1048576) (hls : ∀ v ∈ L, v.b.size ≤ maxLen ∧ v.a.size ≤ maxLen) (rf : RdF w fa fn F) (hfn : fn ≤ 1048576) (hfs : ∀ i, i < fn → G.FitG (F.getD i zeroF).D) (ht : TabH w) :
    Calls Tryz.prog 59 #[.agg #[.slice h.a0 h.n0 h.c0, .slice h.a1 h.n1 h.c1, .bool h.b, .slice h.a2 h.n2 h.c2, .int .i64 ep, .slice la ln lc, .int .i64 su, .slice fa fn fc, .int .i64 ha]] w fun e w' => e = .returned (.bool (okST D h.n0 ep ln L su fn F ha)) ∧ Below w.heap.size w w' := by
  obtain ⟨V, hV⟩ : ∃ V, w.alloc (.cells #[.slice h.a0 h.n0 h.c0, .slice h.a1 h.n1 h.c1, .bool h.b, .slice h.a2 h.n2 h.c2, .int .i64 ep, .slice la ln lc, .int .i64 su, .slice fa fn fc, .int .i64 ha] 46) = V := ⟨_, rfl⟩
  have B0 : Hid (Below w.heap.size w V) := by unfold Hid; rw [← hV]; exact (Below.refl _ _).alloc (Nat.le_refl _) _
  have X0 : Hid (Box V w.heap.size 46 #[.slice h.a0 h.n0 h.c0, .slice h.a1 h.n1 h.c1, .bool h.b, .slice h.a2 h.n2 h.c2, .int .i64 ep, .slice la ln lc, .int .i64 su, .slice fa fn fc, .int .i64 ha]) := by unfold Hid; rw [← hV]; exact Box.new _ _ _
  have C1 : Hid (∀ W, Below w.heap.size w W → Calls Tryz.prog 126 #[.agg #[.slice h.a0 h.n0 h.c0, .slice h.a1 h.n1 h.c1, .bool h.b, .slice h.a2 h.n2 h.c2]] W fun e w' => e = .returned (.bool (okD D)) ∧ Below W.heap.size W w') := fun W hW => c_implOK h D W (r.below hW) hf
  have C2 : Hid (ln ≤ 60 → ∀ W, Below w.heap.size w W → Calls Tryz.prog 127 #[.slice la ln lc] W fun e w' => e = .returned (.bool (inPl 0 L)) ∧ Below W.heap.size W w') := fun h60 W hW => c_inPlace la ln lc L W (rl.below hW) (by omega) hls
  have C3 : Hid (ln ≤ 60 → ∀ W, Below w.heap.size w W → Calls Tryz.prog 128 #[.slice la ln lc, .int .i64 ep] W fun e w' => e = .returned (.bool (ofEp ep 0 L)) ∧ Below W.heap.size W w') := fun h60 W hW => c_ofEpochs la ln lc L ep W (rl.below hW) (by omega)
  have C4 : Hid (∀ W, Below w.heap.size w W → Calls Tryz.prog 129 #[.slice fa fn fc, .int .i64 (ln : Int)] W fun e w' => e = .returned (.bool (decide (fn ≤ 3) && arF (ln : Int) [] F)) ∧ Below W.heap.size W w') := fun W hW => c_areFrames fa fn fc F ln W (rf.below hW) hfn hfs
  have C5 : Hid (okD D = true → h.n0 = 69 → ∀ W, Below w.heap.size w W → Calls Tryz.prog 130 #[.agg #[.slice h.a0 h.n0 h.c0, .slice h.a1 h.n1 h.c1, .bool h.b, .slice h.a2 h.n2 h.c2], .int .i64 su] W fun e w' => e = .returned (.bool (hasPg (rdS D.S D.C) su)) ∧ Below W.heap.size W w') := fun hok h69 W hW => c_hasPages h D su W (r.below hW) hok (by omega) (ht.below hW)
  clear r hf rl hls rf hfs ht
  obtain ⟨x0, x1, x2, x3, x4, x5, x6, x7, x8⟩ := box9 X0.out
  go_enter Tryz.func59, Tryz.ntmps59
  go_wp2_with fail
  refine (C1.out V B0.out).mono ?_
  rintro e w1 ⟨rfl, hb⟩
  have B1 : Hid (Below w.heap.size w w1) := B0.out.trans (hb.mono B0.out.size)
  have X1 : Hid (Box w1 w.heap.size 46 #[.slice h.a0 h.n0 h.c0, .slice h.a1 h.n1 h.c1, .bool h.b, .slice h.a2 h.n2 h.c2, .int .i64 ep, .slice la ln lc, .int .i64 su, .slice fa fn fc, .int .i64 ha]) := X0.out.belowS hb
  clear hb X0 B0 x0 x1 x2 x3 x4 x5 x6 x7 x8
  obtain ⟨x0, x1, x2, x3, x4, x5, x6, x7, x8⟩ := box9 X1.out
  clear hV
  cases hok : okD D
  · have E : Hid (okST D h.n0 ep ln L su fn F ha = false) := by unfold Hid okST; rw [hok]; rfl
    clear hok
    go_wp2
    go_ret
    exact ⟨ret_bool E.out.symm, B1.out⟩
  have Khok : Hid (okD D = true) := hok
  clear hok
  by_cases h69 : h.n0 = 69
  case neg =>
    have E : Hid (okST D h.n0 ep ln L su fn F ha = false) := by unfold Hid okST; rw [Khok.out, decide_eq_false h69]; rfl
    have c1 : ((h.n0 : Int) != 69) = true := by simp; omega
    go_wp2
    go_ret
    exact ⟨ret_bool E.out.symm, B1.out⟩
  have Kh69 : Hid (decide (h.n0 = 69) = true) := decide_eq_true h69
  have c1 : ((h.n0 : Int) != 69) = false := by simp; omega
  have H69 : Hid (h.n0 = 69) := h69
  clear h69
  by_cases he1 : 1 ≤ ep
  case neg =>
    have E : Hid (okST D h.n0 ep ln L su fn F ha = false) := by unfold Hid okST; rw [Khok.out, Kh69.out, decide_eq_false he1]; rfl
    go_wp2
    go_ret
    exact ⟨ret_bool E.out.symm, B1.out⟩
  have Khe1 : Hid (decide (1 ≤ ep) = true) := decide_eq_true he1
  by_cases he2 : ep ≤ 60
  case neg =>
    have E : Hid (okST D h.n0 ep ln L su fn F ha = false) := by unfold Hid okST; rw [Khok.out, Kh69.out, Khe1.out, decide_eq_false he2]; rfl
    go_wp2
    go_ret
    exact ⟨ret_bool E.out.symm, B1.out⟩
  have Khe2 : Hid (decide (ep ≤ 60) = true) := decide_eq_true he2
  by_cases hl : ln ≤ 60
  case neg =>
    have E : Hid (okST D h.n0 ep ln L su fn F ha = false) := by unfold Hid okST; rw [Khok.out, Kh69.out, Khe1.out, Khe2.out, decide_eq_false hl]; rfl
    go_wp2
    go_ret
    exact ⟨ret_bool E.out.symm, B1.out⟩
  have Khl : Hid (decide (ln ≤ 60) = true) := decide_eq_true hl
  go_wp2_with fail
  refine (C2.out hl w1 B1.out).mono ?_
  rintro e w2 ⟨rfl, hb⟩
  have B2 : Hid (Below w.heap.size w w2) := B1.out.trans (hb.mono B1.out.size)
  have X2 : Hid (Box w2 w.heap.size 46 #[.slice h.a0 h.n0 h.c0, .slice h.a1 h.n1 h.c1, .bool h.b, .slice h.a2 h.n2 h.c2, .int .i64 ep, .slice la ln lc, .int .i64 su, .slice fa fn fc, .int .i64 ha]) := X1.out.belowS hb
  clear hb X1 B1 x0 x1 x2 x3 x4 x5 x6 x7 x8
  obtain ⟨x0, x1, x2, x3, x4, x5, x6, x7, x8⟩ := box9 X2.out
  cases hin : inPl 0 L
  · have E : Hid (okST D h.n0 ep ln L su fn F ha = false) := by unfold Hid okST; rw [Khok.out, Kh69.out, Khe1.out, Khe2.out, Khl.out, hin]; rfl
    clear hin
    go_wp2
    go_ret
    exact ⟨ret_bool E.out.symm, B2.out⟩
  have Khin : Hid (inPl 0 L = true) := hin
  clear hin
  go_wp2_with fail
  refine (C3.out hl w2 B2.out).mono ?_
  rintro e w3 ⟨rfl, hb⟩
  have B3 : Hid (Below w.heap.size w w3) := B2.out.trans (hb.mono B2.out.size)
  have X3 : Hid (Box w3 w.heap.size 46 #[.slice h.a0 h.n0 h.c0, .slice h.a1 h.n1 h.c1, .bool h.b, .slice h.a2 h.n2 h.c2, .int .i64 ep, .slice la ln lc, .int .i64 su, .slice fa fn fc, .int .i64 ha]) := X2.out.belowS hb
  clear hb X2 B2 x0 x1 x2 x3 x4 x5 x6 x7 x8
  obtain ⟨x0, x1, x2, x3, x4, x5, x6, x7, x8⟩ := box9 X3.out
  cases hof : ofEp ep 0 L
  · have E : Hid (okST D h.n0 ep ln L su fn F ha = false) := by unfold Hid okST; rw [Khok.out, Kh69.out, Khe1.out, Khe2.out, Khl.out, Khin.out, hof]; rfl
    clear hof
    go_wp2
    go_ret
    exact ⟨ret_bool E.out.symm, B3.out⟩
  have Khof : Hid (ofEp ep 0 L = true) := hof
  clear hof
  by_cases hs1 : 0 ≤ su
  case neg =>
    have E : Hid (okST D h.n0 ep ln L su fn F ha = false) := by unfold Hid okST; rw [Khok.out, Kh69.out, Khe1.out, Khe2.out, Khl.out, Khin.out, Khof.out, decide_eq_false hs1]; rfl
    go_wp2
    go_ret
    exact ⟨ret_bool E.out.symm, B3.out⟩
  have Khs1 : Hid (decide (0 ≤ su) = true) := decide_eq_true hs1
  by_cases hs2 : su ≤ (ln : Int)
  case neg =>
    have E : Hid (okST D h.n0 ep ln L su fn F ha = false) := by unfold Hid okST; rw [Khok.out, Kh69.out, Khe1.out, Khe2.out, Khl.out, Khin.out, Khof.out, Khs1.out, decide_eq_false hs2]; rfl
    go_wp2
    go_ret
    exact ⟨ret_bool E.out.symm, B3.out⟩
  have Khs2 : Hid (decide (su ≤ (ln : Int)) = true) := decide_eq_true hs2
  go_wp2_with fail
  refine (C4.out w3 B3.out).mono ?_
  rintro e w4 ⟨rfl, hb⟩
  have B4 : Hid (Below w.heap.size w w4) := B3.out.trans (hb.mono B3.out.size)
  have X4 : Hid (Box w4 w.heap.size 46 #[.slice h.a0 h.n0 h.c0, .slice h.a1 h.n1 h.c1, .bool h.b, .slice h.a2 h.n2 h.c2, .int .i64 ep, .slice la ln lc, .int .i64 su, .slice fa fn fc, .int .i64 ha]) := X3.out.belowS hb
  clear hb X3 B3 x0 x1 x2 x3 x4 x5 x6 x7 x8
  obtain ⟨x0, x1, x2, x3, x4, x5, x6, x7, x8⟩ := box9 X4.out
  cases hfr : (decide (fn ≤ 3) && arF (ln : Int) [] F)
  · have E : Hid (okST D h.n0 ep ln L su fn F ha = false) := by unfold Hid okST; rw [Khok.out, Kh69.out, Khe1.out, Khe2.out, Khl.out, Khin.out, Khof.out, Khs1.out, Khs2.out, hfr]; rfl
    clear hfr
    go_wp2
    go_ret
    exact ⟨ret_bool E.out.symm, B4.out⟩
  have Khfr : Hid ((decide (fn ≤ 3) && arF (ln : Int) [] F) = true) := hfr
  clear hfr
  by_cases ha1 : 0 ≤ ha
  case neg =>
    have E : Hid (okST D h.n0 ep ln L su fn F ha = false) := by unfold Hid okST; rw [Khok.out, Kh69.out, Khe1.out, Khe2.out, Khl.out, Khin.out, Khof.out, Khs1.out, Khs2.out, Khfr.out, decide_eq_false ha1]; rfl
    go_wp2
    go_ret
    exact ⟨ret_bool E.out.symm, B4.out⟩
  have Kha1 : Hid (decide (0 ≤ ha) = true) := decide_eq_true ha1
  by_cases ha2 : ha < 3
  case neg =>
    have E : Hid (okST D h.n0 ep ln L su fn F ha = false) := by unfold Hid okST; rw [Khok.out, Kh69.out, Khe1.out, Khe2.out, Khl.out, Khin.out, Khof.out, Khs1.out, Khs2.out, Khfr.out, Kha1.out, decide_eq_false ha2]; rfl
    go_wp2
    go_ret
    exact ⟨ret_bool E.out.symm, B4.out⟩
  have Kha2 : Hid (decide (ha < 3) = true) := decide_eq_true ha2
  go_wp2_with fail
  refine (C5.out Khok.out H69.out w4 B4.out).mono ?_
  rintro e w5 ⟨rfl, hb⟩
  have B5 : Hid (Below w.heap.size w w5) := B4.out.trans (hb.mono B4.out.size)
  have X5 : Hid (Box w5 w.heap.size 46 #[.slice h.a0 h.n0 h.c0, .slice h.a1 h.n1 h.c1, .bool h.b, .slice h.a2 h.n2 h.c2, .int .i64 ep, .slice la ln lc, .int .i64 su, .slice fa fn fc, .int .i64 ha]) := X4.out.belowS hb
  clear hb X4 B4 x0 x1 x2 x3 x4 x5 x6 x7 x8
  obtain ⟨x0, x1, x2, x3, x4, x5, x6, x7, x8⟩ := box9 X5.out
  have E : Hid (okST D h.n0 ep ln L su fn F ha = hasPg (rdS D.S D.C) su) := by unfold Hid okST; rw [Khok.out, Kh69.out, Khe1.out, Khe2.out, Khl.out, Khin.out, Khof.out, Khs1.out, Khs2.out, Khfr.out, Kha1.out, Kha2.out]; rfl
  go_wp2
  go_ret
  exact ⟨ret_bool E.out.symm, B5.out⟩

end Go.Proofs.YtfibdpfhfgnbiaaGreatDoor
