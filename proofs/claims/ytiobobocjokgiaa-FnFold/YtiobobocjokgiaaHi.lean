/-
  The program of folding.
-/
import Derived.Test.YtiobobocjokgiaaHh
import Derived.Test.YtiobobocjokgiaaHg
import Derived.Test.YtiobobocjokgiaaHe
import Derived.Deep.RegionHeld3
namespace Go.Proofs.Ytiobobocjokgiaa
open Go Go.RowKit
attribute [local go_sem ↓] Go.wp_at_zero Go.wp_at_succ

set_option linter.unusedVariables false
set_option linter.unusedSimpArgs false
theorem below_grown {w W W' : World} {r : Option Nat} (h : Below w.heap.size w W) (hg : W.grownBy W' r) (hr : ∀ g, r = some g → w.heap.size ≤ g) : Below w.heap.size w W' := ⟨hg.os.trans h.os, hg.tape.trans h.tape, hg.output.trans h.output, Nat.le_trans h.size hg.size, fun j hj => (hg.block j (Nat.lt_of_lt_of_le hj h.size) (fun e => by have := hr j e.symm; omega)).trans (h.block j hj)⟩
theorem own_blk {w : World} {B t s n cap : Nat} {a : Option Addr} {xs : List Value} (h : w.ownsRow B t s (.slice a n cap) n xs) : ∀ g, ob a = some g → B ≤ g ∧ g < w.heap.size := fun g hg => by
  rcases own_form h with ⟨e, _⟩ | ⟨g', c', hv, hb, hl⟩
  · simp only [Value.slice.injEq] at e; rw [e.1] at hg; cases hg
  · simp only [Value.slice.injEq] at hv; rw [hv.1] at hg; cases hg; exact ⟨hb, hl⟩
theorem own_grown {w w' : World} {B t s n cap : Nat} {a : Option Addr} {r : Option Nat} {xs : List Value} (h : w.ownsRow B t s (.slice a n cap) n xs) (hg : w.grownBy w' r) (hne : ∀ g, ob a = some g → r ≠ some g) : w'.ownsRow B t s (.slice a n cap) n xs := by
  refine h.kept hg ?_
  rw [ob_slice]
  cases e : ob a with
  | none => exact .inl rfl
  | some g => exact .inr (fun q => hne g e q.symm)
theorem next_del {L : List RW} {c : CW} {p : Nat} (h1 : posR L c.i = p) (h2 : hitR L c.i = true) (h3 : c.g = true) : nextR L c = L.take p ++ L.drop (p + 1) := by
  unfold nextR; rw [h1, h2, h3]; rfl
theorem next_put {L : List RW} {c : CW} {p : Nat} (h1 : posR L c.i = p) (h2 : hitR L c.i = true) (h3 : c.g = false) (hp : p < L.length) : nextR L c = L.set p (rowC c) := by
  unfold nextR; rw [h1, h2, h3, List.set_eq_take_append_cons_drop, if_pos hp]; rfl
theorem next_no {L : List RW} {c : CW} {p : Nat} (h1 : posR L c.i = p) (h2 : hitR L c.i = false) (h3 : c.g = true) : nextR L c = L := by
  unfold nextR; rw [h1, h2, h3]; simp
theorem next_ins {L : List RW} {c : CW} {p : Nat} (h1 : posR L c.i = p) (h2 : hitR L c.i = false) (h3 : c.g = false) : nextR L c = L.take p ++ rowC c :: L.drop p := by
  unfold nextR; rw [h1, h2, h3]; simp
theorem hit_pos {L : List RW} {x : Int} (h : hitR L x = true) : posR L x < L.length := by
  rcases Nat.lt_or_ge (posR L x) L.length with h1 | h1
  · exact h1
  · rw [hit_out (by omega)] at h; cases h
set_option maxRecDepth 100000 in
set_option maxHeartbeats 8000000 in
theorem c_folded (a : Option Addr) (n cap : Nat) (vs : List CW) (tb : Int) (w : World) (hr : RdC w a n vs) (hn : n ≤ 1000) :
    Calls Try.prog 24 #[.slice a n cap, .int .i64 tb] w fun e w' => (∃ m a' c', e = .returned (.slice a' m c') ∧ w'.ownsRow w.heap.size 40 7 (.slice a' m c') m (cellsR (foldR tb vs))) ∧ Below w.heap.size w w' := by
  obtain ⟨hl, hcs⟩ := hr
  go_enter Try.func24, Try.ntmps24
  go_wp2
  go_loopw [5, 12] (fun rows i wr => ∃ (k m : Nat) (a' : Option Addr) (c' : Nat), k ≤ n ∧ i = .int .i64 k ∧ rows = .slice a' m c' ∧ Hid (wr.ownsRow w.heap.size 40 7 (.slice a' m c') m (cellsR (foldR tb (vs.take k)))) ∧ Hid (Below w.heap.size w wr)) (fun _ i _ => n - (intOf i).toNat)
  case atStart => exact ⟨0, 0, none, 0, by omega, rfl, rfl, World.ownsRow_nil w w.heap.size 40 7, Below.refl _ _⟩
  case round =>
    obtain ⟨k, m, a', c', hk, rfl, rfl, HO, hb⟩ := hrel
    by_cases hlt : k < n
    · obtain ⟨b, off, rfl, hbl, hc⟩ := hcs (by omega)
      obtain ⟨⟨vse, vtb, vi, va, vb, vt, vp, vq, vz, vg⟩, hv⟩ : ∃ v, v = vs.getD k zeroC := ⟨_, rfl⟩
      obtain ⟨d0, d1, d2, d3, d4, d5, d6, d7, d8, d9⟩ := RdC.at hc hlt hv
      dsimp only at d0 d1 d2 d3 d4 d5 d6 d7 d8 d9
      have e0 : wr.cell? ⟨b, off + k * 10, none⟩ = some (.int .i64 vse) := by rw [hb.out.cell (p := ⟨b, off + k * 10, none⟩) hbl, d0]
      have e1 : wr.cell? ⟨b, off + k * 10 + 1, none⟩ = some (.int .i64 vtb) := by rw [hb.out.cell (p := ⟨b, off + k * 10 + 1, none⟩) hbl, d1]
      have e2 : wr.cell? ⟨b, off + k * 10 + 2, none⟩ = some (.int .i64 vi) := by rw [hb.out.cell (p := ⟨b, off + k * 10 + 2, none⟩) hbl, d2]
      have e3 : wr.cell? ⟨b, off + k * 10 + 3, none⟩ = some (.int .i64 va) := by rw [hb.out.cell (p := ⟨b, off + k * 10 + 3, none⟩) hbl, d3]
      have e4 : wr.cell? ⟨b, off + k * 10 + 4, none⟩ = some (.int .i64 vb) := by rw [hb.out.cell (p := ⟨b, off + k * 10 + 4, none⟩) hbl, d4]
      have e5 : wr.cell? ⟨b, off + k * 10 + 5, none⟩ = some (.string vt) := by rw [hb.out.cell (p := ⟨b, off + k * 10 + 5, none⟩) hbl, d5]
      have e6 : wr.cell? ⟨b, off + k * 10 + 6, none⟩ = some (.int .i64 vp) := by rw [hb.out.cell (p := ⟨b, off + k * 10 + 6, none⟩) hbl, d6]
      have e7 : wr.cell? ⟨b, off + k * 10 + 7, none⟩ = some (.int .i64 vq) := by rw [hb.out.cell (p := ⟨b, off + k * 10 + 7, none⟩) hbl, d7]
      have e8 : wr.cell? ⟨b, off + k * 10 + 8, none⟩ = some (.string vz) := by rw [hb.out.cell (p := ⟨b, off + k * 10 + 8, none⟩) hbl, d8]
      have e9 : wr.cell? ⟨b, off + k * 10 + 9, none⟩ = some (.bool vg) := by rw [hb.out.cell (p := ⟨b, off + k * 10 + 9, none⟩) hbl, d9]
      have HST : Hid (foldR tb (vs.take (k + 1)) = stepR tb (foldR tb (vs.take k)) ⟨vse, vtb, vi, va, vb, vt, vp, vq, vz, vg⟩) := by unfold Hid; rw [hv]; exact fold_step tb vs k (by omega)
      have hso := fold_so tb vs k (by omega)
      obtain ⟨L, hL⟩ : ∃ L, foldR tb (vs.take k) = L := ⟨_, rfl⟩
      rw [hL] at HST HO hso
      obtain ⟨V, hV⟩ : ∃ V, wr.alloc (.cells #[.int .i64 vse, .int .i64 vtb, .int .i64 vi, .int .i64 va, .int .i64 vb, .string vt, .int .i64 vp, .int .i64 vq, .string vz, .bool vg] 42) = V := ⟨_, rfl⟩
      have hbV : Below wr.heap.size wr V := by rw [← hV]; exact (Below.refl _ _).alloc (Nat.le_refl _) _
      have BV : Hid (Below w.heap.size w V) := hb.out.trans (hbV.mono hb.out.size)
      have X : Hid (Box V wr.heap.size 42 #[.int .i64 vse, .int .i64 vtb, .int .i64 vi, .int .i64 va, .int .i64 vb, .string vt, .int .i64 vp, .int .i64 vq, .string vz, .bool vg]) := by unfold Hid; rw [← hV]; exact Box.new _ _ _
      have OV : Hid (V.ownsRow w.heap.size 40 7 (.slice a' m c') m (cellsR L)) := own_below HO.out hbV
      have hml : L.length = m := by have := OV.out.1; rw [cellsR_len] at this; omega
      have hm9 : m ≤ 1000 := by omega
      have SB := hb.out.size
      obtain ⟨x0, x1, x2, x3, x4, x5, x6, x7, x8, x9⟩ := box10 X.out
      clear hc hcs d0 d1 d2 d3 d4 d5 d6 d7 d8 d9 hv hL hb HO hbl hbV
      by_cases ht : vtb = tb
      · have et : (vtb != tb) = false := by simp [ht]
        have HN : Hid (foldR tb (vs.take (k + 1)) = nextR L ⟨vse, vtb, vi, va, vb, vt, vp, vq, vz, vg⟩) := by unfold Hid; rw [HST.out]; unfold stepR; rw [if_pos ht]
        obtain ⟨p, hp⟩ : ∃ p, posR L vi = p := ⟨_, rfl⟩
        obtain ⟨hh, hhe⟩ : ∃ q, hitR L vi = q := ⟨_, rfl⟩
        have hpm : p ≤ m := by have := posR_le L vi; omega
        have HP : Hid (posR L vi = p) := hp
        have HH : Hid (hitR L vi = hh) := hhe
        have CB : Hid (Calls Try.prog 36 #[.slice a' m c', .int .i64 vi, .func (Fn.func 37) #[] #[]] V fun e w' => e = .returned (.tuple #[.int .i64 p, .bool hh]) ∧ Below V.heap.size V w') := by
          unfold Hid; rw [← hp, ← hhe]; exact c_bs a' m c' L vi V (RdR.own OV.out) hso.1 (by omega)
        clear HST ht hp hhe hso
        go_wp2_with fail
        refine CB.out.mono ?_
        rintro e w1 ⟨rfl, hb1⟩
        have B1 : Hid (Below w.heap.size w w1) := BV.out.trans (hb1.mono BV.out.size)
        have X1 : Hid (Box w1 wr.heap.size 42 #[.int .i64 vse, .int .i64 vtb, .int .i64 vi, .int .i64 va, .int .i64 vb, .string vt, .int .i64 vp, .int .i64 vq, .string vz, .bool vg]) := X.out.belowS hb1
        have O1 : Hid (w1.ownsRow w.heap.size 40 7 (.slice a' m c') m (cellsR L)) := own_below OV.out hb1
        clear hb1 CB BV X OV x0 x1 x2 x3 x4 x5 x6 x7 x8 x9 e0 e1 e2 e3 e4 e5 e6 e7 e8 e9 hV et
        obtain ⟨x0, x1, x2, x3, x4, x5, x6, x7, x8, x9⟩ := box10 X1.out
        have S1 := B1.out.size
        cases hh
        · cases vg
          · -- a new row
            have EN : Hid (foldR tb (vs.take (k + 1)) = L.take p ++ ⟨vi, va, vb, vt, vp, vq, vz⟩ :: L.drop p) := by unfold Hid; rw [HN.out]; exact next_ins (c := ⟨vse, vtb, vi, va, vb, vt, vp, vq, vz, false⟩) HP.out HH.out rfl
            obtain ⟨Q, hQ⟩ : ∃ Q, w1.alloc (.cells #[.int .i64 vi, .int .i64 va, .int .i64 vb, .string vt, .int .i64 vp, .int .i64 vq, .string vz] 40) = Q := ⟨_, rfl⟩
            have hbQ : Below w1.heap.size w1 Q := by rw [← hQ]; exact (Below.refl _ _).alloc (Nat.le_refl _) _
            have OQ := own_below O1.out hbQ
            have hvQ : Q.heap[w1.heap.size]? = some (.cells (cR ((⟨vi, va, vb, vt, vp, vq, vz⟩) : RW)).toArray 40 (0, 0)) := by rw [← hQ]; show (w1.heap.push _)[w1.heap.size]? = _; simp [cR]
            have BQ : Hid (Below w.heap.size w Q) := B1.out.trans (hbQ.mono B1.out.size)
            have SQ := BQ.out.size
            have CI : Hid (Calls Try.prog 40 #[.slice a' m c', .int .i64 p, .slice (some ⟨w1.heap.size, 0, none⟩) 1 1] Q fun e w' => (∃ a2 c2, e = .returned (.slice a2 (m + 1) c2) ∧ w'.ownsRow w.heap.size 40 7 (.slice a2 (m + 1) c2) (m + 1) (cellsR (L.take p ++ ⟨vi, va, vb, vt, vp, vq, vz⟩ :: L.drop p))) ∧ Q.grownBy w' (ob a')) := by
              rcases own_form O1.out with ⟨hnil, hm0⟩ | ⟨g, cp, hsl, hg1, hg2⟩
              · simp only [Value.slice.injEq] at hnil
                obtain ⟨rfl, _, rfl⟩ := hnil
                subst hm0
                have hL0 : L = [] := List.eq_nil_of_length_eq_zero hml
                have hp0 : p = 0 := by omega
                subst hp0
                refine (c_insE w.heap.size _ 0 w1.heap.size L _ Q OQ hvQ (by omega) SQ).mono ?_
                rintro e w' ⟨⟨a2, c2, rfl, ho, _⟩, hgr⟩
                refine ⟨⟨a2, c2, rfl, ?_⟩, hgr⟩
                rw [hL0] at ho ⊢
                exact ho
              · simp only [Value.slice.injEq] at hsl
                obtain ⟨rfl, _, rfl⟩ := hsl
                refine (c_ins w.heap.size g _ m p w1.heap.size L _ Q OQ hvQ (by omega) hpm (by omega) SQ).mono ?_
                rintro e w' ⟨⟨a2, c2, rfl, ho, _⟩, hgr⟩
                exact ⟨⟨a2, c2, rfl, ho⟩, hgr⟩
            have HB : Hid (∀ g, ob a' = some g → w.heap.size ≤ g) := fun g hg => (own_blk O1.out g hg).1
            clear hbQ OQ hvQ HN O1 HP HH
            go_wp2_with fail
            refine CI.out.mono ?_
            rintro e w2 ⟨⟨a2, c2, rfl, o2⟩, hg2⟩
            have O2 : Hid (w2.ownsRow w.heap.size 40 7 (.slice a2 (m + 1) c2) (m + 1) (cellsR (foldR tb (vs.take (k + 1))))) := by unfold Hid; rw [EN.out]; exact o2
            have B2 : Hid (Below w.heap.size w w2) := BQ.out.grown hg2 SQ HB.out
            clear o2 hg2 CI x0 x1 x2 x3 x4 x5 x6 x7 x8 x9 X1 hQ
            go_wp2
            go_roundw
            case rel => exact ⟨k + 1, m + 1, a2, c2, by omega, by go_num, rfl, O2, B2⟩
            case measure => simp [intOf]; omega
          · -- none to be gone
            have EN : foldR tb (vs.take (k + 1)) = L := by rw [HN.out]; exact next_no (c := ⟨vse, vtb, vi, va, vb, vt, vp, vq, vz, true⟩) HP.out HH.out rfl
            have O2 : Hid (w1.ownsRow w.heap.size 40 7 (.slice a' m c') m (cellsR (foldR tb (vs.take (k + 1))))) := by unfold Hid; rw [EN]; exact O1.out
            clear HN EN O1 HP HH
            go_wp2
            go_roundw
            case rel => exact ⟨k + 1, m, a', c', by omega, by go_num, rfl, O2, B1⟩
            case measure => simp [intOf]; omega
        · have hpl : p < m := by have := hit_pos HH.out; rw [HP.out] at this; omega
          obtain ⟨g, hsl⟩ : ∃ g, a' = some ⟨g, 0, none⟩ := by
            rcases own_form O1.out with ⟨hnil, hm0⟩ | ⟨g, cp, hsl, _, _⟩
            · omega
            · simp only [Value.slice.injEq] at hsl
              exact ⟨g, hsl.1⟩
          subst hsl
          have hgb : w.heap.size ≤ g := (own_blk O1.out g rfl).1
          cases vg
          · -- another row in its place
            have EN : Hid (foldR tb (vs.take (k + 1)) = L.set p ⟨vi, va, vb, vt, vp, vq, vz⟩) := by unfold Hid; rw [HN.out]; exact next_put (c := ⟨vse, vtb, vi, va, vb, vt, vp, vq, vz, false⟩) HP.out HH.out rfl (by omega)
            obtain ⟨u0, f0⟩ : ∃ u, w1.cell? ⟨g, p * 7, none⟩ = some u := ⟨_, (O1.out.cellAt (p * 7) (by omega)).trans (List.getElem?_eq_getElem (by rw [cellsR_len]; omega))⟩
            have z0 := O1.out.frozenAt (p * 7)
            obtain ⟨u1, f1⟩ : ∃ u, w1.cell? ⟨g, p * 7 + 1, none⟩ = some u := ⟨_, (O1.out.cellAt (p * 7 + 1) (by omega)).trans (List.getElem?_eq_getElem (by rw [cellsR_len]; omega))⟩
            have z1 := O1.out.frozenAt (p * 7 + 1)
            obtain ⟨u2, f2⟩ : ∃ u, w1.cell? ⟨g, p * 7 + 2, none⟩ = some u := ⟨_, (O1.out.cellAt (p * 7 + 2) (by omega)).trans (List.getElem?_eq_getElem (by rw [cellsR_len]; omega))⟩
            have z2 := O1.out.frozenAt (p * 7 + 2)
            obtain ⟨u3, f3⟩ : ∃ u, w1.cell? ⟨g, p * 7 + 3, none⟩ = some u := ⟨_, (O1.out.cellAt (p * 7 + 3) (by omega)).trans (List.getElem?_eq_getElem (by rw [cellsR_len]; omega))⟩
            have z3 := O1.out.frozenAt (p * 7 + 3)
            obtain ⟨u4, f4⟩ : ∃ u, w1.cell? ⟨g, p * 7 + 4, none⟩ = some u := ⟨_, (O1.out.cellAt (p * 7 + 4) (by omega)).trans (List.getElem?_eq_getElem (by rw [cellsR_len]; omega))⟩
            have z4 := O1.out.frozenAt (p * 7 + 4)
            obtain ⟨u5, f5⟩ : ∃ u, w1.cell? ⟨g, p * 7 + 5, none⟩ = some u := ⟨_, (O1.out.cellAt (p * 7 + 5) (by omega)).trans (List.getElem?_eq_getElem (by rw [cellsR_len]; omega))⟩
            have z5 := O1.out.frozenAt (p * 7 + 5)
            obtain ⟨u6, f6⟩ : ∃ u, w1.cell? ⟨g, p * 7 + 6, none⟩ = some u := ⟨_, (O1.out.cellAt (p * 7 + 6) (by omega)).trans (List.getElem?_eq_getElem (by rw [cellsR_len]; omega))⟩
            have z6 := O1.out.frozenAt (p * 7 + 6)
            have O2 : Hid (((((((((w1).setCell ⟨g, p * 7, none⟩ (.int .i64 vi)).setCell ⟨g, p * 7 + 1, none⟩ (.int .i64 va)).setCell ⟨g, p * 7 + 2, none⟩ (.int .i64 vb)).setCell ⟨g, p * 7 + 3, none⟩ (.string vt)).setCell ⟨g, p * 7 + 4, none⟩ (.int .i64 vp)).setCell ⟨g, p * 7 + 5, none⟩ (.int .i64 vq)).setCell ⟨g, p * 7 + 6, none⟩ (.string vz)).ownsRow w.heap.size 40 7 (.slice (some ⟨g, 0, none⟩) m c') m (cellsR (foldR tb (vs.take (k + 1))))) := by unfold Hid; rw [EN.out]; exact own_putR O1.out p ⟨vi, va, vb, vt, vp, vq, vz⟩ (by omega)
            have B2 : Hid (Below w.heap.size w ((((((((w1).setCell ⟨g, p * 7, none⟩ (.int .i64 vi)).setCell ⟨g, p * 7 + 1, none⟩ (.int .i64 va)).setCell ⟨g, p * 7 + 2, none⟩ (.int .i64 vb)).setCell ⟨g, p * 7 + 3, none⟩ (.string vt)).setCell ⟨g, p * 7 + 4, none⟩ (.int .i64 vp)).setCell ⟨g, p * 7 + 5, none⟩ (.int .i64 vq)).setCell ⟨g, p * 7 + 6, none⟩ (.string vz))) := (((((((B1.out.setCell hgb _).setCell hgb _).setCell hgb _).setCell hgb _).setCell hgb _).setCell hgb _).setCell hgb _)
            have g1 : (0 : Int) ≤ (p : Int) := by omega
            have g2 : (p : Int) < (m : Int) := by omega
            clear HN EN O1 HP HH B1
            go_wp2
            go_roundw
            case rel => exact ⟨k + 1, m, some ⟨g, 0, none⟩, c', by omega, by go_num, rfl, O2, B2⟩
            case measure => simp [intOf]; omega
          · -- a row is gone
            have EN : Hid (foldR tb (vs.take (k + 1)) = L.take p ++ L.drop (p + 1)) := by unfold Hid; rw [HN.out]; exact next_del (c := ⟨vse, vtb, vi, va, vb, vt, vp, vq, vz, true⟩) HP.out HH.out rfl
            obtain ⟨q, rfl⟩ : ∃ q, m = q + 1 := ⟨m - 1, by omega⟩
            have CD := c_delR w.heap.size g c' q p L w1 O1.out (by omega) (by omega)
            clear HN O1 HP HH
            go_wp2_with fail
            refine CD.mono ?_
            rintro e w2 ⟨⟨rfl, o2⟩, hg2⟩
            have O2 : Hid (w2.ownsRow w.heap.size 40 7 (.slice (some ⟨g, 0, none⟩) q c') q (cellsR (foldR tb (vs.take (k + 1))))) := by unfold Hid; rw [EN.out]; exact o2
            have B2 : Hid (Below w.heap.size w w2) := B1.out.grown hg2 S1 (fun x hx => by cases hx; exact hgb)
            clear o2 hg2 CD x0 x1 x2 x3 x4 x5 x6 x7 x8 x9 X1 B1
            go_wp2
            go_roundw
            case rel => exact ⟨k + 1, q, some ⟨g, 0, none⟩, c', by omega, by go_num, rfl, O2, B2⟩
            case measure => simp [intOf]; omega
      · have et : (vtb != tb) = true := by simp [ht]
        have EN : foldR tb (vs.take (k + 1)) = L := by rw [HST.out]; unfold stepR; rw [if_neg ht]
        have O2 : Hid (V.ownsRow w.heap.size 40 7 (.slice a' m c') m (cellsR (foldR tb (vs.take (k + 1))))) := by unfold Hid; rw [EN]; exact OV.out
        clear HST EN OV ht hso
        go_wp2
        go_roundw
        case rel => exact ⟨k + 1, m, a', c', by omega, by go_num, rfl, O2, BV⟩
        case measure => simp [intOf]; omega
    · have e : k = n := by omega
      subst e
      have HE := HO.out
      rw [List.take_of_length_le (by omega)] at HE
      have HE' : Hid (wr.ownsRow w.heap.size 40 7 (.slice a' m c') m (cellsR (foldR tb vs))) := HE
      clear HE HO hcs
      go_wp2
      go_ret
      exact ⟨⟨m, a', c', rfl, HE'.out⟩, hb.out⟩

end Go.Proofs.Ytiobobocjokgiaa
