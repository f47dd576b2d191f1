/-
  Right stores: a page of the disk: the walks of the specification's l03Read, at any text, and l05Page.
-/
import Derived.Test.YtcokbogicbdoaaaDoorZzak
import Derived.Test.YtcokbogicbdoaaaDoorZzaj
import Derived.Test.YtcokbogicbdoaaaDoorGxq
import Derived.Test.YtcokbogicbdoaaaDoorZzac
namespace Go.Proofs.YtcokbogicbdoaaaDoor
open Go Go.RowKit
attribute [local go_sem ↓] Go.wp_at_zero Go.wp_at_succ

/-- A frame: where its page lies, and what it says. -/
structure FF where
  no : Int
  h : G.HG
  D : G.DG
  d : Bool
  fi : Int
def zeroF : FF := ⟨0, ⟨0, none, 0, 0⟩, ⟨0, []⟩, false, 0⟩
/-- The slice at a reads as the frames fs. -/
def RdF (w : World) (a : Option Addr) (n : Nat) (fs : List FF) : Prop :=
  fs.length = n ∧ (0 < n → ∃ b off, a = some ⟨b, off, none⟩ ∧ b < w.heap.size ∧ ∀ i, i < n → w.cell? ⟨b, off + i * 5, none⟩ = some (.int .i64 (fs.getD i zeroF).no) ∧ w.cell? ⟨b, off + i * 5 + 1, none⟩ = some (.int .i64 (fs.getD i zeroF).h.l) ∧ w.cell? ⟨b, off + i * 5 + 2, none⟩ = some (.slice (fs.getD i zeroF).h.a (fs.getD i zeroF).h.n (fs.getD i zeroF).h.c) ∧ w.cell? ⟨b, off + i * 5 + 3, none⟩ = some (.bool (fs.getD i zeroF).d) ∧ w.cell? ⟨b, off + i * 5 + 4, none⟩ = some (.int .i64 (fs.getD i zeroF).fi)) ∧
  ∀ i, i < n → G.RdG w (fs.getD i zeroF).h (fs.getD i zeroF).D
theorem RdF.below {w w' : World} {a : Option Addr} {n : Nat} {fs : List FF} (h : RdF w a n fs) (hb : Below w.heap.size w w') : RdF w' a n fs := by
  obtain ⟨h1, h2, h3⟩ := h
  refine ⟨h1, fun hn => ?_, fun i hi => (h3 i hi).below hb⟩
  obtain ⟨b, off, e, hlt, hc⟩ := h2 hn
  refine ⟨b, off, e, Nat.lt_of_lt_of_le hlt hb.size, fun i hi => ?_⟩
  rw [hb.cell (p := ⟨b, off + i * 5, none⟩) hlt, hb.cell (p := ⟨b, off + i * 5 + 1, none⟩) hlt, hb.cell (p := ⟨b, off + i * 5 + 2, none⟩) hlt, hb.cell (p := ⟨b, off + i * 5 + 3, none⟩) hlt, hb.cell (p := ⟨b, off + i * 5 + 4, none⟩) hlt]
  exact hc i hi
/-- Frames that are right, and of which no two have one page. -/
def arF (last : Int) : List Nat → List FF → Bool
  | _, [] => true
  | tk, f :: fs => okFr f.no f.D f.d f.fi last && (!(tk.contains f.no.toNat) && arF last (f.no.toNat :: tk) fs)
theorem arF_at {last : Int} {tk : List Nat} {fs : List FF} {k : Nat} (h : k < fs.length) : arF last tk (fs.drop k) = (okFr (fs.getD k zeroF).no (fs.getD k zeroF).D (fs.getD k zeroF).d (fs.getD k zeroF).fi last && (!(tk.contains (fs.getD k zeroF).no.toNat) && arF last ((fs.getD k zeroF).no.toNat :: tk) (fs.drop (k + 1)))) := by
  rw [List.drop_eq_getElem_cons h, List.getD_eq_getElem?_getD, List.getElem?_eq_getElem h]
  rfl
theorem okFr_no {no : Int} {D : G.DG} {d : Bool} {fi last : Int} (h : okFr no D d fi last = true) : 0 ≤ no ∧ no < 8 := by
  unfold okFr at h
  simp only [Bool.and_eq_true, decide_eq_true_eq] at h
  exact h.1
/-- The array of the pages that were met. -/
def TkB (w : World) (B : Nat) (tk : List Nat) : Prop := Box w B 104 (Array.ofFn fun i : Fin 8 => Value.bool (tk.contains i.val))
theorem TkB.cell {w : World} {B : Nat} {tk : List Nat} (h : TkB w B tk) {m : Nat} (hm : m < 8) : w.cell? ⟨B, m, none⟩ = some (.bool (tk.contains m)) := by
  have := Box.cell h m
  rw [this]
  simp [hm]
theorem TkB.set {w : World} {B : Nat} {tk : List Nat} (h : TkB w B tk) {m : Nat} (_ : m < 8) : TkB (w.setCell ⟨B, m, none⟩ (.bool true)) B (m :: tk) := by
  have := Box.set h m (.bool true)
  unfold TkB
  rw [show (Array.ofFn fun i : Fin 8 => Value.bool ((m :: tk).contains i.val)) = (Array.ofFn fun i : Fin 8 => Value.bool (tk.contains i.val)).setIfInBounds m (.bool true) from ?_]
  · exact this
  · apply Array.ext
    · simp
    · intro i h1 h2
      simp at h1 ⊢
      rw [Array.getElem_setIfInBounds (by simpa using h1)]
      by_cases e : m = i
      · subst e; simp
      · simp [e, Ne.symm e]
theorem tk0 (w : World) : TkB (w.alloc (.cells #[.bool false, .bool false, .bool false, .bool false, .bool false, .bool false, .bool false, .bool false] 104)) w.heap.size [] := Box.new w #[.bool false, .bool false, .bool false, .bool false, .bool false, .bool false, .bool false, .bool false] 104
set_option maxRecDepth 100000 in
set_option maxHeartbeats 4000000 in
theorem c_areFrames (a : Option Addr) (n cap : Nat) (fs : List FF) (last : Int) (w : World) (r : RdF w a n fs) (hn : n ≤ 1048576) (hf : ∀ i, i < n → G.FitG (fs.getD i zeroF).D) :
    Calls Tryd.prog 33 #[.slice a n cap, .int .i64 last] w fun e w' => e = .returned (.bool (decide (n ≤ 3) && arF last [] fs)) ∧ Below w.heap.size w w' := by
  obtain ⟨hl, hcs, hpg⟩ := r
  by_cases h3 : 3 < n
  · have E : Hid ((decide (n ≤ 3) && arF last [] fs) = false) := by unfold Hid; rw [decide_eq_false (by omega)]; rfl
    clear hcs hpg hf
    go_enter Tryd.func33, Tryd.ntmps33
    go_wp2
    go_ret
    exact ⟨ret_bool E.out.symm, Below.refl _ _⟩
  have E0 : Hid ((decide (n ≤ 3) && arF last [] fs) = arF last [] fs) := by unfold Hid; rw [decide_eq_true (by omega)]; rfl
  have HPG : Hid (∀ i, i < n → G.RdG w (fs.getD i zeroF).h (fs.getD i zeroF).D) := hpg
  have HF : Hid (∀ i, i < n → G.FitG (fs.getD i zeroF).D) := hf
  clear hpg hf
  go_enter Tryd.func33, Tryd.ntmps33
  go_wp2
  go_loopw [13] (fun i wr => ∃ (k : Nat) (tk : List Nat), k ≤ n ∧ i = .int .i64 k ∧ Hid (arF last tk (fs.drop k) = arF last [] fs) ∧ Hid (TkB wr w.heap.size tk) ∧ Hid (Below w.heap.size w wr)) (fun i _ => n - (intOf i).toNat)
  case atStart => exact ⟨0, [], by omega, rfl, rfl, tk0 w, (Below.refl _ _).alloc (Nat.le_refl _) _⟩
  case round =>
    obtain ⟨k, tk, hk, rfl, HA, HT, BW⟩ := hrel
    by_cases hlt : k < n
    · obtain ⟨b, off, rfl, hbl, hc⟩ := hcs (by omega)
      obtain ⟨d0, d1, d2, d3, d4⟩ := hc k hlt
      have HAT := arF_at (last := last) (tk := tk) (fs := fs) (k := k) (by omega)
      have RG := (HPG.out k hlt).below BW.out
      have FG := HF.out k hlt
      obtain ⟨⟨no, h, D, d, fi⟩, hv⟩ : ∃ v, v = fs.getD k zeroF := ⟨_, rfl⟩
      rw [← hv] at d0 d1 d2 d3 d4 HAT RG FG
      dsimp only at d0 d1 d2 d3 d4 HAT RG FG
      have e0 := (BW.out.cell (p := ⟨b, off + k * 5, none⟩) hbl).trans d0
      have e1 := (BW.out.cell (p := ⟨b, off + k * 5 + 1, none⟩) hbl).trans d1
      have e2 := (BW.out.cell (p := ⟨b, off + k * 5 + 2, none⟩) hbl).trans d2
      have e3 := (BW.out.cell (p := ⟨b, off + k * 5 + 3, none⟩) hbl).trans d3
      have e4 := (BW.out.cell (p := ⟨b, off + k * 5 + 4, none⟩) hbl).trans d4
      have HAT' : Hid (_ = _) := HAT
      have g1 : (0 : Int) ≤ (k : Int) := by omega
      have g2 : (k : Int) < (n : Int) := by omega
      obtain ⟨W, hW⟩ : ∃ W, wr.alloc (.cells #[.int .i64 no, .int .i64 h.l, .slice h.a h.n h.c, .bool d, .int .i64 fi] 51) = W := ⟨_, rfl⟩
      have hbA : Below wr.heap.size wr W := by rw [← hW]; exact (Below.refl _ _).alloc (Nat.le_refl _) _
      have BX : Hid (Below w.heap.size w W) := BW.out.trans (hbA.mono BW.out.size)
      have TW : Hid (TkB W w.heap.size tk) := Box.belowS HT.out hbA
      have NW : Hid (Box W wr.heap.size 51 #[.int .i64 no, .int .i64 h.l, .slice h.a h.n h.c, .bool d, .int .i64 fi]) := by unfold Hid; rw [← hW]; exact Box.new _ _ _
      have CF := c_isFrame no fi last d h D W (RG.below hbA) FG
      have nb : Hid (w.heap.size < wr.heap.size) := HT.out.lt
      clear hc hv HAT RG FG d0 d1 d2 d3 d4 hbA HT BW
      obtain ⟨y0, y1, y2, y3, y4⟩ := box5 NW.out
      go_wp2_with fail
      refine CF.mono ?_
      rintro e w3 ⟨rfl, hb3⟩
      have B3 : Hid (Below w.heap.size w w3) := BX.out.trans (hb3.mono BX.out.size)
      have T3 : Hid (TkB w3 w.heap.size tk) := Box.belowS TW.out hb3
      have z0 : w3.cell? ⟨wr.heap.size, 0, none⟩ = some (.int .i64 no) := far6 hb3 y0
      clear hb3 CF BX TW NW hW y0 y1 y2 y3 y4 e0 e1 e2 e3 e4
      cases hok : okFr no D d fi last
      · have E : Hid ((decide (n ≤ 3) && arF last [] fs) = false) := by unfold Hid; rw [E0.out, ← HA.out, HAT'.out, hok]; rfl
        clear hok
        go_wp2
        go_ret
        exact ⟨ret_bool E.out.symm, B3.out⟩
      obtain ⟨m, hm⟩ : ∃ m : Nat, no = (m : Int) := ⟨no.toNat, by have := okFr_no hok; omega⟩
      have hm8 : m < 8 := by have := okFr_no hok; omega
      subst hm
      have q1 : (0 : Int) ≤ (m : Int) := by omega
      have q2 : (m : Int) < 8 := by omega
      have cT := T3.out.cell hm8
      have tT := Box.thaw T3.out m
      cases hct : tk.contains m
      · have E : Hid (arF last (m :: tk) (fs.drop (k + 1)) = arF last [] fs) := by unfold Hid; rw [← HA.out, HAT'.out, hok, Int.toNat_natCast, hct]; rfl
        rw [hct] at cT
        have T4 : Hid (TkB (w3.setCell ⟨w.heap.size, m, none⟩ (.bool true)) w.heap.size (m :: tk)) := T3.out.set hm8
        have B4 : Hid (Below w.heap.size w (w3.setCell ⟨w.heap.size, m, none⟩ (.bool true))) := B3.out.setCell (Nat.le_refl _) _
        clear hok hct T3 B3
        go_wp2
        go_roundw
        case rel => exact ⟨k + 1, m :: tk, by omega, by go_num, E, T4, B4⟩
        case measure => simp [intOf]; omega
      · have E : Hid ((decide (n ≤ 3) && arF last [] fs) = false) := by unfold Hid; rw [E0.out, ← HA.out, HAT'.out, hok, Int.toNat_natCast, hct]; rfl
        rw [hct] at cT
        clear hok hct
        go_wp2
        go_ret
        exact ⟨ret_bool E.out.symm, B3.out⟩
    · have e : k = n := by omega
      subst e
      have E : Hid ((decide (k ≤ 3) && arF last [] fs) = true) := by unfold Hid; rw [E0.out, ← HA.out, List.drop_eq_nil_of_le (by omega)]; rfl
      go_wp2
      go_ret
      exact ⟨ret_bool E.out.symm, BW.out⟩

end Go.Proofs.YtcokbogicbdoaaaDoor
namespace Go.Proofs.YtcokbogicbdoaaaDoor
open Go Go.RowKit
attribute [local go_sem ↓] Go.wp_at_zero Go.wp_at_succ

def rdO (no : Int) (s : ByteArray) : Option G.DG := if unsB (numsT s) then G.rpD no (headZ (numsT s)) else none
theorem pg_rd {no : Int} {s : ByteArray} (h : s.toList.isEmpty = false) : pgO no s = rdO no s := by unfold pgO rdO; rw [h]; rfl
set_option maxRecDepth 100000 in
set_option maxHeartbeats 4000000 in
theorem c_l03R (no : Int) (s : ByteArray) (w : World) (hs : s.size ≤ 65536) :
    Calls Tryd.prog 42 #[.int .i64 no, .string s] w fun e w' => (∃ h' : G.HG, e = .returned (.tuple #[.agg #[.int .i64 h'.l, .slice h'.a h'.n h'.c], .bool (rdO no s).isSome]) ∧ ∀ P, rdO no s = some P → h'.l = P.L) ∧ Below w.heap.size w w' := by
  have hl : (numsT s).length = s.size := nums_len s
  cases hu : unsB (numsT s)
  · have E : Hid (rdO no s = none) := by unfold Hid rdO; rw [hu]; rfl
    obtain ⟨V, hV⟩ : ∃ V, w.alloc (.cells #[.int .i64 0, .slice none 0 0] 49) = V := ⟨_, rfl⟩
    have HB : Hid (Below w.heap.size w V) := by unfold Hid; rw [← hV]; exact (Below.refl _ _).alloc (Nat.le_refl _) _
    have BR : Hid (Box V w.heap.size 49 #[.int .i64 0, .slice none 0 0]) := by unfold Hid; rw [← hV]; exact Box.new _ _ _
    obtain ⟨T, US⟩ : ∃ T, Calls Tryd.prog 66 #[.string s] V fun e w' => e = .returned (.tuple #[.string T, .bool false]) ∧ Below V.heap.size V w' := by
      by_cases h4 : s.size < 4
      · refine ⟨⟨#[]⟩, ?_⟩
        have := c_unsealS_lo (numsT s) V (by omega)
        rw [nums_get] at this
        exact this.mono fun e w' ⟨he, q, hq⟩ => ⟨he, by rw [hq]; exact below_drewN (Below.refl _ _) q⟩
      · refine ⟨unsT (numsT s) false, ?_⟩
        have := c_unsealS (numsT s) V (nums_bytes s) (by omega) (by omega)
        rw [nums_get, hu] at this
        exact this
    clear hu hl hs
    go_enter Tryd.func42, Tryd.ntmps42
    go_wp2_with fail
    refine US.mono ?_
    rintro e' w1 ⟨rfl, hb⟩
    have B1 : Hid (Below w.heap.size w w1) := HB.out.trans (hb.mono HB.out.size)
    have BR1 : Hid (Box w1 w.heap.size 49 #[.int .i64 0, .slice none 0 0]) := BR.out.belowS hb
    clear hb hV HB BR US
    obtain ⟨u0, u1⟩ := G.box2 BR1.out
    have t0 := BR1.out.thaw 0
    have t1 := BR1.out.thaw 1
    go_wp2
    refine G.retG2 Tryd.results42 rfl rfl rfl (G.put2_box BR1.out _ _) ⟨?_, G.put2_below B1.out (Nat.le_refl _) _ _⟩
    rw [E.out]
    exact ⟨⟨0, none, 0, 0⟩, rfl, fun _ h => by cases h⟩
  · have h4 : 4 ≤ s.size := by
      rcases Nat.lt_or_ge s.size 4 with h | h
      · rw [uns_lo (by rw [nums_len]; exact h)] at hu; cases hu
      · exact h
    have E : rdO no s = G.rpD no (headZ (numsT s)) := by unfold rdO; rw [hu]; rfl
    have := G.c_read no (numsT s) w (nums_bytes s) (by omega) (by omega) hu
    rw [nums_get] at this
    rw [E]
    exact this.mono fun e w' ⟨⟨h', he, D', o, hD⟩, hb⟩ => ⟨⟨h', he, fun P hP => by rw [o.1, hD P hP]⟩, hb⟩
set_option maxRecDepth 100000 in
set_option maxHeartbeats 4000000 in
theorem c_l05Page (h : HD) (D : DD) (p : Nat) (w : World) (r : RdD w h D) (hok : okD D = true) (hp : 1 + p < h.n0) :
    Calls Tryd.prog 15 #[.agg #[.slice h.a0 h.n0 h.c0, .slice h.a1 h.n1 h.c1, .bool h.b, .slice h.a2 h.n2 h.c2], .int .i64 (p : Int)] w fun e w' => (∃ h' : G.HG, e = .returned (.tuple #[.agg #[.int .i64 h'.l, .slice h'.a h'.n h'.c], .bool (pgO p (rdS D.S D.C (1 + p))).isSome]) ∧ ∀ P, pgO p (rdS D.S D.C (1 + p)) = some P → h'.l = P.L) ∧ Below w.heap.size w w' := by
  have hn0 : h.n0 ≤ 100 := by have := (ok_parts hok).1.1; have := r.l0; omega
  have hn1 : h.n1 ≤ 500 := by have := (ok_parts hok).1.2; have := r.l1; omega
  obtain ⟨V, hV⟩ : ∃ V, (w.alloc (.cells #[.slice h.a0 h.n0 h.c0, .slice h.a1 h.n1 h.c1, .bool h.b, .slice h.a2 h.n2 h.c2] 36)).alloc (.cells #[.int .i64 0, .slice none 0 0] 49) = V := ⟨_, rfl⟩
  have HB : Hid (Below w.heap.size w V) := by unfold Hid; rw [← hV]; exact ((Below.refl _ _).alloc (Nat.le_refl _) _).alloc (by simp) _
  have X : Hid (Box V w.heap.size 36 #[.slice h.a0 h.n0 h.c0, .slice h.a1 h.n1 h.c1, .bool h.b, .slice h.a2 h.n2 h.c2]) := by unfold Hid; rw [← hV]; exact (Box.new _ _ _).alloc _
  have Y : Hid (Box V (w.heap.size + 1) 49 #[.int .i64 0, .slice none 0 0]) := by
    unfold Hid; rw [← hV]
    have := Box.new (w.alloc (.cells #[.slice h.a0 h.n0 h.c0, .slice h.a1 h.n1 h.c1, .bool h.b, .slice h.a2 h.n2 h.c2] 36)) #[.int .i64 0, .slice none 0 0] 49
    rwa [World.size_alloc] at this
  obtain ⟨s, hs⟩ : ∃ s, s = rdS D.S D.C (1 + p) := ⟨_, rfl⟩
  have hsz : s.size ≤ 160 := by rw [hs]; exact rdS_size (ok_parts hok).2.1 (ok_parts hok).2.2
  have RS := c_l02Read h.a0 h.n0 h.c0 h.a1 h.n1 h.c1 h.b h.a2 h.n2 h.c2 D.S D.C (1 + p) V (r.2.1.below HB.out) (r.2.2.1.below HB.out) hp (by omega) (by omega)
  rw [← hs] at RS ⊢
  have RSx : Hid (∀ x : Int, x = 1 + (p : Int) → Calls Tryd.prog 40 #[.agg #[.slice h.a0 h.n0 h.c0, .slice h.a1 h.n1 h.c1, .bool h.b, .slice h.a2 h.n2 h.c2], .int .i64 x] V fun e W' => e = .returned (.string s) ∧ Below V.heap.size V W') := fun x hx => by
    rw [hx, show (1 + (p : Int)) = ((1 + p : Nat) : Int) by omega]; exact RS
  clear RS hs r hok
  obtain ⟨x0, x1, x2, x3⟩ := box4 X.out
  go_enter Tryd.func15, Tryd.ntmps15
  go_wp2_with fail
  refine (RSx.out _ (by omega)).mono ?_
  rintro e w1 ⟨rfl, hb1⟩
  have B1 : Hid (Below w.heap.size w w1) := HB.out.trans (hb1.mono HB.out.size)
  have Y1 : Hid (Box w1 (w.heap.size + 1) 49 #[.int .i64 0, .slice none 0 0]) := Y.out.belowS hb1
  clear hb1 HB X Y hV RSx x0 x1 x2 x3
  cases he : s.toList.isEmpty
  · have HP : Hid (pgO p s = rdO p s) := pg_rd he
    have hne : (s.toList == []) = false := by cases hh : s.toList with | nil => rw [hh] at he; cases he | cons _ _ => rfl
    go_wp2_with fail
    refine (c_l03R p s w1 (by omega)).mono ?_
    rintro e w2 ⟨⟨h2, rfl, hP2⟩, hb2⟩
    have HP2 : Hid (∀ P, rdO p s = some P → h2.l = P.L) := hP2
    have B2 : Hid (Below w.heap.size w w2) := B1.out.trans (hb2.mono B1.out.size)
    have Y2 : Hid (Box w2 (w.heap.size + 1) 49 #[.int .i64 0, .slice none 0 0]) := Y1.out.belowS hb2
    clear hb2 hP2 B1 Y1
    obtain ⟨u0, u1⟩ := G.box2 Y2.out
    have t0 := Y2.out.thaw 0
    have t1 := Y2.out.thaw 1
    go_wp2
    refine G.retG2 Tryd.results15 rfl rfl rfl (G.put2_box Y2.out _ _) ⟨⟨h2, by rw [HP.out]; rfl, fun P hP => HP2.out P (by rw [← HP.out]; exact hP)⟩, G.put2_below B2.out (by omega) _ _⟩
  · have HP : Hid (pgO p s = some G.newG) := pg_new he
    have hse : s.toList = [] := List.isEmpty_iff.1 he
    clear he
    go_wp2_with fail
    refine (G.c_specNew w1).mono ?_
    rintro e w2 ⟨⟨h2, rfl, o2⟩, hb2⟩
    have HL2 : Hid (h2.l = G.newG.L) := o2.1
    have B2 : Hid (Below w.heap.size w w2) := B1.out.trans (hb2.mono B1.out.size)
    have Y2 : Hid (Box w2 (w.heap.size + 1) 49 #[.int .i64 0, .slice none 0 0]) := Y1.out.belowS hb2
    clear hb2 o2 B1 Y1
    obtain ⟨u0, u1⟩ := G.box2 Y2.out
    have t0 := Y2.out.thaw 0
    have t1 := Y2.out.thaw 1
    go_wp2
    refine G.retG2 Tryd.results15 rfl rfl rfl (G.put2_box Y2.out _ _) ⟨⟨h2, by rw [HP.out]; rfl, fun P hP => by rw [HP.out] at hP; cases hP; exact HL2.out⟩, G.put2_below B2.out (by omega) _ _⟩

end Go.Proofs.YtcokbogicbdoaaaDoor
