/-
  Right stores: the records of a log stand in their places, and their epochs do not fall.
-/
import Derived.Test.YtkpopingbbaomaaGreatDoorZzal
import Derived.Test.YtkpopingbbaomaaGreatDoorZzak
import Derived.Test.YtkpopingbbaomaaGreatDoorZzao
namespace Go.Proofs.YtkpopingbbaomaaGreatDoor
open Go Go.RowKit
attribute [local go_sem ↓] Go.wp_at_zero Go.wp_at_succ

/-- A frame: where its page lies, and what it says. -/
structure FF where
  no : Int
  h : G.HG
  D : G.DG
  d : Bool
  fi : Int
def zeroF : FF := ⟨0, ⟨0, none, 0, 0⟩, ⟨0, []⟩, false, 0⟩
/-- The slice at a reads as the frames fs. -/
def RdF (w : World) (a : Option Addr) (n : Nat) (fs : List FF) : Prop :=
  fs.length = n ∧ (0 < n → ∃ b off, a = some ⟨b, off, none⟩ ∧ b < w.heap.size ∧ ∀ i, i < n → w.cell? ⟨b, off + i * 5, none⟩ = some (.int .i64 (fs.getD i zeroF).no) ∧ w.cell? ⟨b, off + i * 5 + 1, none⟩ = some (.int .i64 (fs.getD i zeroF).h.l) ∧ w.cell? ⟨b, off + i * 5 + 2, none⟩ = some (.slice (fs.getD i zeroF).h.a (fs.getD i zeroF).h.n (fs.getD i zeroF).h.c) ∧ w.cell? ⟨b, off + i * 5 + 3, none⟩ = some (.bool (fs.getD i zeroF).d) ∧ w.cell? ⟨b, off + i * 5 + 4, none⟩ = some (.int .i64 (fs.getD i zeroF).fi)) ∧
  ∀ i, i < n → G.RdG w (fs.getD i zeroF).h (fs.getD i zeroF).D
theorem RdF.below {w w' : World} {a : Option Addr} {n : Nat} {fs : List FF} (h : RdF w a n fs) (hb : Below w.heap.size w w') : RdF w' a n fs := by
  obtain ⟨h1, h2, h3⟩ := h
  refine ⟨h1, fun hn => ?_, fun i hi => (h3 i hi).below hb⟩
  obtain ⟨b, off, e, hlt, hc⟩ := h2 hn
  refine ⟨b, off, e, Nat.lt_of_lt_of_le hlt hb.size, fun i hi => ?_⟩
  rw [hb.cell (p := ⟨b, off + i * 5, none⟩) hlt, hb.cell (p := ⟨b, off + i * 5 + 1, none⟩) hlt, hb.cell (p := ⟨b, off + i * 5 + 2, none⟩) hlt, hb.cell (p := ⟨b, off + i * 5 + 3, none⟩) hlt, hb.cell (p := ⟨b, off + i * 5 + 4, none⟩) hlt]
  exact hc i hi
/-- Frames that are right, and of which no two have one page. -/
def arF (last : Int) : List Nat → List FF → Bool
  | _, [] => true
  | tk, f :: fs => okFr f.no f.D f.d f.fi last && (!(tk.contains f.no.toNat) && arF last (f.no.toNat :: tk) fs)
theorem arF_at {last : Int} {tk : List Nat} {fs : List FF} {k : Nat} (h : k < fs.length) : arF last tk (fs.drop k) = (okFr (fs.getD k zeroF).no (fs.getD k zeroF).D (fs.getD k zeroF).d (fs.getD k zeroF).fi last && (!(tk.contains (fs.getD k zeroF).no.toNat) && arF last ((fs.getD k zeroF).no.toNat :: tk) (fs.drop (k + 1)))) := by
  rw [List.drop_eq_getElem_cons h, List.getD_eq_getElem?_getD, List.getElem?_eq_getElem h]
  rfl
theorem okFr_no {no : Int} {D : G.DG} {d : Bool} {fi last : Int} (h : okFr no D d fi last = true) : 0 ≤ no ∧ no < 8 := by
  unfold okFr at h
  simp only [Bool.and_eq_true, decide_eq_true_eq] at h
  exact h.1
/-- The array of the pages that were met. -/
def TkB (w : World) (B : Nat) (tk : List Nat) : Prop := Box w B 248 (Array.ofFn fun i : Fin 8 => Value.bool (tk.contains i.val))
theorem TkB.cell {w : World} {B : Nat} {tk : List Nat} (h : TkB w B tk) {m : Nat} (hm : m < 8) : w.cell? ⟨B, m, none⟩ = some (.bool (tk.contains m)) := by
  have := Box.cell h m
  rw [this]
  simp [hm]
theorem TkB.set {w : World} {B : Nat} {tk : List Nat} (h : TkB w B tk) {m : Nat} (_ : m < 8) : TkB (w.setCell ⟨B, m, none⟩ (.bool true)) B (m :: tk) := by
  have := Box.set h m (.bool true)
  unfold TkB
  rw [show (Array.ofFn fun i : Fin 8 => Value.bool ((m :: tk).contains i.val)) = (Array.ofFn fun i : Fin 8 => Value.bool (tk.contains i.val)).setIfInBounds m (.bool true) from ?_]
  · exact this
  · apply Array.ext
    · simp
    · intro i h1 h2
      simp at h1 ⊢
      rw [Array.getElem_setIfInBounds (by simpa using h1)]
      by_cases e : m = i
      · subst e; simp
      · simp [e, Ne.symm e]
theorem tk0 (w : World) : TkB (w.alloc (.cells #[.bool false, .bool false, .bool false, .bool false, .bool false, .bool false, .bool false, .bool false] 248)) w.heap.size [] := Box.new w #[.bool false, .bool false, .bool false, .bool false, .bool false, .bool false, .bool false, .bool false] 248
set_option maxRecDepth 100000 in
set_option maxHeartbeats 4000000 in
theorem c_areFrames (a : Option Addr) (n cap : Nat) (fs : List FF) (last : Int) (w : World) (r : RdF w a n fs) (hn : n ≤ 1048576) (hf : ∀ i, i < n → G.FitG (fs.getD i zeroF).D) :
    Calls Tryz.prog 129 #[.slice a n cap, .int .i64 last] w fun e w' => e = .returned (.bool (decide (n ≤ 3) && arF last [] fs)) ∧ Below w.heap.size w w' := by
  obtain ⟨hl, hcs, hpg⟩ := r
  by_cases h3 : 3 < n
  · have E : Hid ((decide (n ≤ 3) && arF last [] fs) = false) := by unfold Hid; rw [decide_eq_false (by omega)]; rfl
    clear hcs hpg hf
    go_enter Tryz.func129, Tryz.ntmps129
    go_wp2
    go_ret
    exact ⟨ret_bool E.out.symm, Below.refl _ _⟩
  have E0 : Hid ((decide (n ≤ 3) && arF last [] fs) = arF last [] fs) := by unfold Hid; rw [decide_eq_true (by omega)]; rfl
  have HPG : Hid (∀ i, i < n → G.RdG w (fs.getD i zeroF).h (fs.getD i zeroF).D) := hpg
  have HF : Hid (∀ i, i < n → G.FitG (fs.getD i zeroF).D) := hf
  clear hpg hf
  go_enter Tryz.func129, Tryz.ntmps129
  go_wp2
  go_loopw [13] (fun i wr => ∃ (k : Nat) (tk : List Nat), k ≤ n ∧ i = .int .i64 k ∧ Hid (arF last tk (fs.drop k) = arF last [] fs) ∧ Hid (TkB wr w.heap.size tk) ∧ Hid (Below w.heap.size w wr)) (fun i _ => n - (intOf i).toNat)
  case atStart => exact ⟨0, [], by omega, rfl, rfl, tk0 w, (Below.refl _ _).alloc (Nat.le_refl _) _⟩
  case round =>
    obtain ⟨k, tk, hk, rfl, HA, HT, BW⟩ := hrel
    by_cases hlt : k < n
    · obtain ⟨b, off, rfl, hbl, hc⟩ := hcs (by omega)
      obtain ⟨d0, d1, d2, d3, d4⟩ := hc k hlt
      have HAT := arF_at (last := last) (tk := tk) (fs := fs) (k := k) (by omega)
      have RG := (HPG.out k hlt).below BW.out
      have FG := HF.out k hlt
      obtain ⟨⟨no, h, D, d, fi⟩, hv⟩ : ∃ v, v = fs.getD k zeroF := ⟨_, rfl⟩
      rw [← hv] at d0 d1 d2 d3 d4 HAT RG FG
      dsimp only at d0 d1 d2 d3 d4 HAT RG FG
      have e0 := (BW.out.cell (p := ⟨b, off + k * 5, none⟩) hbl).trans d0
      have e1 := (BW.out.cell (p := ⟨b, off + k * 5 + 1, none⟩) hbl).trans d1
      have e2 := (BW.out.cell (p := ⟨b, off + k * 5 + 2, none⟩) hbl).trans d2
      have e3 := (BW.out.cell (p := ⟨b, off + k * 5 + 3, none⟩) hbl).trans d3
      have e4 := (BW.out.cell (p := ⟨b, off + k * 5 + 4, none⟩) hbl).trans d4
      have HAT' : Hid (_ = _) := HAT
      have g1 : (0 : Int) ≤ (k : Int) := by omega
      have g2 : (k : Int) < (n : Int) := by omega
      obtain ⟨W, hW⟩ : ∃ W, wr.alloc (.cells #[.int .i64 no, .int .i64 h.l, .slice h.a h.n h.c, .bool d, .int .i64 fi] 142) = W := ⟨_, rfl⟩
      have hbA : Below wr.heap.size wr W := by rw [← hW]; exact (Below.refl _ _).alloc (Nat.le_refl _) _
      have BX : Hid (Below w.heap.size w W) := BW.out.trans (hbA.mono BW.out.size)
      have TW : Hid (TkB W w.heap.size tk) := Box.belowS HT.out hbA
      have NW : Hid (Box W wr.heap.size 142 #[.int .i64 no, .int .i64 h.l, .slice h.a h.n h.c, .bool d, .int .i64 fi]) := by unfold Hid; rw [← hW]; exact Box.new _ _ _
      have CF := c_isFrame no fi last d h D W (RG.below hbA) FG
      have nb : Hid (w.heap.size < wr.heap.size) := HT.out.lt
      clear hc hv HAT RG FG d0 d1 d2 d3 d4 hbA HT BW
      obtain ⟨y0, y1, y2, y3, y4⟩ := box5 NW.out
      go_wp2_with fail
      refine CF.mono ?_
      rintro e w3 ⟨rfl, hb3⟩
      have B3 : Hid (Below w.heap.size w w3) := BX.out.trans (hb3.mono BX.out.size)
      have T3 : Hid (TkB w3 w.heap.size tk) := Box.belowS TW.out hb3
      have z0 : w3.cell? ⟨wr.heap.size, 0, none⟩ = some (.int .i64 no) := far6 hb3 y0
      clear hb3 CF BX TW NW hW y0 y1 y2 y3 y4 e0 e1 e2 e3 e4
      cases hok : okFr no D d fi last
      · have E : Hid ((decide (n ≤ 3) && arF last [] fs) = false) := by unfold Hid; rw [E0.out, ← HA.out, HAT'.out, hok]; rfl
        clear hok
        go_wp2
        go_ret
        exact ⟨ret_bool E.out.symm, B3.out⟩
      obtain ⟨m, hm⟩ : ∃ m : Nat, no = (m : Int) := ⟨no.toNat, by have := okFr_no hok; omega⟩
      have hm8 : m < 8 := by have := okFr_no hok; omega
      subst hm
      have q1 : (0 : Int) ≤ (m : Int) := by omega
      have q2 : (m : Int) < 8 := by omega
      have cT := T3.out.cell hm8
      have tT := Box.thaw T3.out m
      cases hct : tk.contains m
      · have E : Hid (arF last (m :: tk) (fs.drop (k + 1)) = arF last [] fs) := by unfold Hid; rw [← HA.out, HAT'.out, hok, Int.toNat_natCast, hct]; rfl
        rw [hct] at cT
        have T4 : Hid (TkB (w3.setCell ⟨w.heap.size, m, none⟩ (.bool true)) w.heap.size (m :: tk)) := T3.out.set hm8
        have B4 : Hid (Below w.heap.size w (w3.setCell ⟨w.heap.size, m, none⟩ (.bool true))) := B3.out.setCell (Nat.le_refl _) _
        clear hok hct T3 B3
        go_wp2
        go_roundw
        case rel => exact ⟨k + 1, m :: tk, by omega, by go_num, E, T4, B4⟩
        case measure => simp [intOf]; omega
      · have E : Hid ((decide (n ≤ 3) && arF last [] fs) = false) := by unfold Hid; rw [E0.out, ← HA.out, HAT'.out, hok, Int.toNat_natCast, hct]; rfl
        rw [hct] at cT
        clear hok hct
        go_wp2
        go_ret
        exact ⟨ret_bool E.out.symm, B3.out⟩
    · have e : k = n := by omega
      subst e
      have E : Hid ((decide (k ≤ 3) && arF last [] fs) = true) := by unfold Hid; rw [E0.out, ← HA.out, List.drop_eq_nil_of_le (by omega)]; rfl
      go_wp2
      go_ret
      exact ⟨ret_bool E.out.symm, BW.out⟩

end Go.Proofs.YtkpopingbbaomaaGreatDoor
namespace Go.Proofs.YtkpopingbbaomaaGreatDoor
open Go Go.RowKit
attribute [local go_sem ↓] Go.wp_at_zero Go.wp_at_succ

def inPl : Nat → List DR → Bool
  | _, [] => true
  | i, v :: vs => okLR v && (decide (v.l = (i : Int) + 1) && inPl (i + 1) vs)
def ofEp (most : Int) : Int → List DR → Bool
  | _, [] => true
  | q, v :: vs => decide (q ≤ v.e) && (decide (v.e ≤ most) && ofEp most v.e vs)
theorem inPl_at {vs : List DR} {k : Nat} (h : k < vs.length) : inPl k (vs.drop k) = (okLR (vs.getD k zeroR) && (decide ((vs.getD k zeroR).l = (k : Int) + 1) && inPl (k + 1) (vs.drop (k + 1)))) := by
  rw [List.drop_eq_getElem_cons h, List.getD_eq_getElem?_getD, List.getElem?_eq_getElem h]
  rfl
theorem ofEp_at {vs : List DR} {k : Nat} {most q : Int} (h : k < vs.length) : ofEp most q (vs.drop k) = (decide (q ≤ (vs.getD k zeroR).e) && (decide ((vs.getD k zeroR).e ≤ most) && ofEp most (vs.getD k zeroR).e (vs.drop (k + 1)))) := by
  rw [List.drop_eq_getElem_cons h, List.getD_eq_getElem?_getD, List.getElem?_eq_getElem h]
  rfl
theorem getD_of {α : Type} {Q : α → Prop} {vs : List α} {d : α} {k : Nat} (h : ∀ v ∈ vs, Q v) (hk : k < vs.length) : Q (vs.getD k d) := by
  rw [List.getD_eq_getElem?_getD, List.getElem?_eq_getElem hk]
  exact h _ (List.getElem_mem hk)
set_option maxRecDepth 100000 in
set_option maxHeartbeats 4000000 in
theorem c_inPlace (a : Option Addr) (n cap : Nat) (vs : List DR) (w : World) (hr : RdQ w a n vs) (hn : n ≤ 100000) (hs : ∀ v ∈ vs, v.b.size ≤ maxLen ∧ v.a.size ≤ maxLen) :
    Calls Tryz.prog 127 #[.slice a n cap] w fun e w' => e = .returned (.bool (inPl 0 vs)) ∧ Below w.heap.size w w' := by
  obtain ⟨hl, hcs⟩ := hr
  go_enter Tryz.func127, Tryz.ntmps127
  go_wp2
  go_loopw [7] (fun i wr => ∃ k : Nat, k ≤ n ∧ i = .int .i64 k ∧ Hid (inPl k (vs.drop k) = inPl 0 vs) ∧ Below w.heap.size w wr) (fun i _ => n - (intOf i).toNat)
  case atStart => exact ⟨0, by omega, rfl, rfl, Below.refl _ _⟩
  case round =>
    obtain ⟨k, hk, rfl, HI, hb⟩ := hrel
    by_cases hlt : k < n
    · obtain ⟨b, off, rfl, hbl, hc⟩ := hcs (by omega)
      obtain ⟨⟨ve, vl, vt, vk, vp, vn, vg, vz, vb, va⟩, hv⟩ : ∃ v, v = vs.getD k zeroR := ⟨_, rfl⟩
      obtain ⟨d0, d1, d2, d3, d4, d5, d6, d7, d8, d9⟩ := RdQ.at hc hlt hv
      dsimp only at d0 d1 d2 d3 d4 d5 d6 d7 d8 d9
      have e0 : wr.cell? ⟨b, off + k * 10, none⟩ = some (.int .i64 ve) := by rw [hb.cell (p := ⟨b, off + k * 10, none⟩) hbl, d0]
      have e1 : wr.cell? ⟨b, off + k * 10 + 1, none⟩ = some (.int .i64 vl) := by rw [hb.cell (p := ⟨b, off + k * 10 + 1, none⟩) hbl, d1]
      have e2 : wr.cell? ⟨b, off + k * 10 + 2, none⟩ = some (.int .i64 vt) := by rw [hb.cell (p := ⟨b, off + k * 10 + 2, none⟩) hbl, d2]
      have e3 : wr.cell? ⟨b, off + k * 10 + 3, none⟩ = some (.int .i64 vk) := by rw [hb.cell (p := ⟨b, off + k * 10 + 3, none⟩) hbl, d3]
      have e4 : wr.cell? ⟨b, off + k * 10 + 4, none⟩ = some (.int .i64 vp) := by rw [hb.cell (p := ⟨b, off + k * 10 + 4, none⟩) hbl, d4]
      have e5 : wr.cell? ⟨b, off + k * 10 + 5, none⟩ = some (.int .i64 vn) := by rw [hb.cell (p := ⟨b, off + k * 10 + 5, none⟩) hbl, d5]
      have e6 : wr.cell? ⟨b, off + k * 10 + 6, none⟩ = some (.int .i64 vg) := by rw [hb.cell (p := ⟨b, off + k * 10 + 6, none⟩) hbl, d6]
      have e7 : wr.cell? ⟨b, off + k * 10 + 7, none⟩ = some (.int .i64 vz) := by rw [hb.cell (p := ⟨b, off + k * 10 + 7, none⟩) hbl, d7]
      have e8 : wr.cell? ⟨b, off + k * 10 + 8, none⟩ = some (.string vb) := by rw [hb.cell (p := ⟨b, off + k * 10 + 8, none⟩) hbl, d8]
      have e9 : wr.cell? ⟨b, off + k * 10 + 9, none⟩ = some (.string va) := by rw [hb.cell (p := ⟨b, off + k * 10 + 9, none⟩) hbl, d9]
      have hss := getD_of (d := zeroR) hs (show k < vs.length by omega)
      have HA := inPl_at (vs := vs) (k := k) (by omega)
      rw [← hv] at HA hss
      have HA' : Hid (_ = _) := HA
      have C : Hid (∀ wx, Calls Tryz.prog 186 #[.agg #[.int .i64 ve, .int .i64 vl, .int .i64 vt, .int .i64 vk, .int .i64 vp, .int .i64 vn, .int .i64 vg, .int .i64 vz, .string vb, .string va]] wx fun e w' => e = .returned (.bool (okLR ⟨ve, vl, vt, vk, vp, vn, vg, vz, vb, va⟩)) ∧ Below wx.heap.size wx w') := fun wx => c_implLR ve vl vt vk vp vn vg vz vb va wx hss.1 hss.2
      have g1 : (0 : Int) ≤ (k : Int) := by omega
      have g2 : (k : Int) < (n : Int) := by omega
      clear hc hcs hv HA hss d0 d1 d2 d3 d4 d5 d6 d7 d8 d9 hs
      obtain ⟨W, hW⟩ : ∃ W, wr.alloc (.cells #[.int .i64 ve, .int .i64 vl, .int .i64 vt, .int .i64 vk, .int .i64 vp, .int .i64 vn, .int .i64 vg, .int .i64 vz, .string vb, .string va] 78) = W := ⟨_, rfl⟩
      have HN : Hid (Box W wr.heap.size 78 #[.int .i64 ve, .int .i64 vl, .int .i64 vt, .int .i64 vk, .int .i64 vp, .int .i64 vn, .int .i64 vg, .int .i64 vz, .string vb, .string va]) := by unfold Hid; rw [← hW]; exact Box.new _ _ _
      have HB : Hid (Below w.heap.size w W) := by unfold Hid; rw [← hW]; exact hb.alloc hb.size _
      obtain ⟨y0, y1, y2, y3, y4, y5, y6, y7, y8, y9⟩ := box10 HN.out
      clear hb
      go_wp2_with fail
      refine (C.out W).mono ?_
      rintro e w3 ⟨rfl, hb3⟩
      have HB3 : Hid (Below w.heap.size w w3) := HB.out.trans (hb3.mono HB.out.size)
      have z1 : w3.cell? ⟨wr.heap.size, 1, none⟩ = some (.int .i64 vl) := far6 hb3 y1
      clear hb3 C HB HN hW y0 y1 y2 y3 y4 y5 y6 y7 y8 y9 e0 e1 e2 e3 e4 e5 e6 e7 e8 e9
      cases hok : okLR ⟨ve, vl, vt, vk, vp, vn, vg, vz, vb, va⟩
      · have E : Hid (inPl 0 vs = false) := by unfold Hid; rw [← HI.out, HA'.out, hok]; rfl
        clear hok
        go_wp2
        go_ret
        exact ⟨ret_bool E.out.symm, HB3.out⟩
      by_cases hq : vl = (k : Int) + 1
      · have c1 : (vl != (k : Int) + 1) = false := by simpa using hq
        have E : Hid (inPl (k + 1) (vs.drop (k + 1)) = inPl 0 vs) := by unfold Hid; rw [← HI.out, HA'.out, hok, decide_eq_true hq]; rfl
        clear hok hq
        go_wp2
        go_roundw
        case rel => exact ⟨k + 1, by omega, by go_num, E, HB3.out⟩
        case measure => simp [intOf]; omega
      · have c1 : (vl != (k : Int) + 1) = true := by simpa using hq
        have E : Hid (inPl 0 vs = false) := by unfold Hid; rw [← HI.out, HA'.out, hok, decide_eq_false hq]; rfl
        clear hok hq
        go_wp2
        go_ret
        exact ⟨ret_bool E.out.symm, HB3.out⟩
    · have e : k = n := by omega
      subst e
      have E : Hid (inPl 0 vs = true) := by unfold Hid; rw [← HI.out, List.drop_eq_nil_of_le (by omega)]; rfl
      go_wp2
      go_ret
      exact ⟨ret_bool E.out.symm, hb⟩
set_option maxRecDepth 100000 in
set_option maxHeartbeats 4000000 in
theorem c_ofEpochs (a : Option Addr) (n cap : Nat) (vs : List DR) (most : Int) (w : World) (hr : RdQ w a n vs) (hn : n ≤ 100000) :
    Calls Tryz.prog 128 #[.slice a n cap, .int .i64 most] w fun e w' => e = .returned (.bool (ofEp most 0 vs)) ∧ Below w.heap.size w w' := by
  obtain ⟨hl, hcs⟩ := hr
  go_enter Tryz.func128, Tryz.ntmps128
  go_wp2
  go_loopw [5, 10] (fun le i wr => ∃ (k : Nat) (q : Int), k ≤ n ∧ i = .int .i64 k ∧ le = .int .i64 q ∧ Hid (ofEp most q (vs.drop k) = ofEp most 0 vs) ∧ Below w.heap.size w wr) (fun _ i _ => n - (intOf i).toNat)
  case atStart => exact ⟨0, 0, by omega, rfl, rfl, rfl, Below.refl _ _⟩
  case round =>
    obtain ⟨k, q, hk, rfl, rfl, HI, hb⟩ := hrel
    by_cases hlt : k < n
    · obtain ⟨b, off, rfl, hbl, hc⟩ := hcs (by omega)
      obtain ⟨⟨ve, vl, vt, vk, vp, vn, vg, vz, vb, va⟩, hv⟩ : ∃ v, v = vs.getD k zeroR := ⟨_, rfl⟩
      obtain ⟨d0, d1, d2, d3, d4, d5, d6, d7, d8, d9⟩ := RdQ.at hc hlt hv
      dsimp only at d0 d1 d2 d3 d4 d5 d6 d7 d8 d9
      have e0 : wr.cell? ⟨b, off + k * 10, none⟩ = some (.int .i64 ve) := by rw [hb.cell (p := ⟨b, off + k * 10, none⟩) hbl, d0]
      have e1 : wr.cell? ⟨b, off + k * 10 + 1, none⟩ = some (.int .i64 vl) := by rw [hb.cell (p := ⟨b, off + k * 10 + 1, none⟩) hbl, d1]
      have e2 : wr.cell? ⟨b, off + k * 10 + 2, none⟩ = some (.int .i64 vt) := by rw [hb.cell (p := ⟨b, off + k * 10 + 2, none⟩) hbl, d2]
      have e3 : wr.cell? ⟨b, off + k * 10 + 3, none⟩ = some (.int .i64 vk) := by rw [hb.cell (p := ⟨b, off + k * 10 + 3, none⟩) hbl, d3]
      have e4 : wr.cell? ⟨b, off + k * 10 + 4, none⟩ = some (.int .i64 vp) := by rw [hb.cell (p := ⟨b, off + k * 10 + 4, none⟩) hbl, d4]
      have e5 : wr.cell? ⟨b, off + k * 10 + 5, none⟩ = some (.int .i64 vn) := by rw [hb.cell (p := ⟨b, off + k * 10 + 5, none⟩) hbl, d5]
      have e6 : wr.cell? ⟨b, off + k * 10 + 6, none⟩ = some (.int .i64 vg) := by rw [hb.cell (p := ⟨b, off + k * 10 + 6, none⟩) hbl, d6]
      have e7 : wr.cell? ⟨b, off + k * 10 + 7, none⟩ = some (.int .i64 vz) := by rw [hb.cell (p := ⟨b, off + k * 10 + 7, none⟩) hbl, d7]
      have e8 : wr.cell? ⟨b, off + k * 10 + 8, none⟩ = some (.string vb) := by rw [hb.cell (p := ⟨b, off + k * 10 + 8, none⟩) hbl, d8]
      have e9 : wr.cell? ⟨b, off + k * 10 + 9, none⟩ = some (.string va) := by rw [hb.cell (p := ⟨b, off + k * 10 + 9, none⟩) hbl, d9]
      have HA := ofEp_at (vs := vs) (k := k) (most := most) (q := q) (by omega)
      rw [← hv] at HA
      have HA' : Hid (_ = _) := HA
      have g1 : (0 : Int) ≤ (k : Int) := by omega
      have g2 : (k : Int) < (n : Int) := by omega
      clear hc hcs hv HA d0 d1 d2 d3 d4 d5 d6 d7 d8 d9
      obtain ⟨W, hW⟩ : ∃ W, wr.alloc (.cells #[.int .i64 ve, .int .i64 vl, .int .i64 vt, .int .i64 vk, .int .i64 vp, .int .i64 vn, .int .i64 vg, .int .i64 vz, .string vb, .string va] 78) = W := ⟨_, rfl⟩
      have HN : Hid (Box W wr.heap.size 78 #[.int .i64 ve, .int .i64 vl, .int .i64 vt, .int .i64 vk, .int .i64 vp, .int .i64 vn, .int .i64 vg, .int .i64 vz, .string vb, .string va]) := by unfold Hid; rw [← hW]; exact Box.new _ _ _
      have HB : Hid (Below w.heap.size w W) := by unfold Hid; rw [← hW]; exact hb.alloc hb.size _
      obtain ⟨y0, y1, y2, y3, y4, y5, y6, y7, y8, y9⟩ := box10 HN.out
      clear hb
      by_cases h1 : ve < q
      · have E : Hid (ofEp most 0 vs = false) := by unfold Hid; rw [← HI.out, HA'.out, decide_eq_false (show ¬ q ≤ ve by omega)]; rfl
        go_wp2
        go_ret
        exact ⟨ret_bool E.out.symm, HB.out⟩
      by_cases h2 : most < ve
      · have E : Hid (ofEp most 0 vs = false) := by unfold Hid; rw [← HI.out, HA'.out, decide_eq_true (show q ≤ ve by omega), decide_eq_false (show ¬ ve ≤ most by omega)]; rfl
        go_wp2
        go_ret
        exact ⟨ret_bool E.out.symm, HB.out⟩
      have E : Hid (ofEp most ve (vs.drop (k + 1)) = ofEp most 0 vs) := by unfold Hid; rw [← HI.out, HA'.out, decide_eq_true (show q ≤ ve by omega), decide_eq_true (show ve ≤ most by omega)]; rfl
      go_wp2
      go_roundw
      case rel => exact ⟨k + 1, ve, by omega, by go_num, rfl, E, HB.out⟩
      case measure => simp [intOf]; omega
    · have e : k = n := by omega
      subst e
      have E : Hid (ofEp most 0 vs = true) := by unfold Hid; rw [← HI.out, List.drop_eq_nil_of_le (by omega)]; rfl
      go_wp2
      go_ret
      exact ⟨ret_bool E.out.symm, hb⟩

end Go.Proofs.YtkpopingbbaomaaGreatDoor
