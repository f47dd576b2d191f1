/-
  The specification of folding.
-/
import Derived.Test.YtiobobocjokgiaaHi
import Derived.Deep.RegionHeld3
import Derived.Deep.QuietTactic
import Derived.BigQuiet
namespace Go.Proofs.Ytiobobocjokgiaa
open Go Go.RowKit
attribute [local go_sem ↓] Go.wp_at_zero Go.wp_at_succ

set_option linter.unusedVariables false
set_option linter.unusedSimpArgs false
theorem own_mono {w : World} {base base' e size n : Nat} {v : Value} {xs : List Value} (h : w.ownsRow base e size v n xs) (hb : base' ≤ base) : w.ownsRow base' e size v n xs := by
  refine ⟨h.1, ?_⟩
  rcases h.2 with h0 | ⟨g, cap, cur, h1, h2, h3⟩
  · exact .inl h0
  · exact .inr ⟨g, cap, cur, h1, by omega, h3⟩
theorem lit0 (w : World) (base : Nat) (h : base ≤ w.heap.size) : (w.alloc (.cells #[] 40)).ownsRow base 40 7 (.slice (some ⟨w.heap.size, 0, none⟩) 0 0) 0 [] := World.ownsRow_lit w #[] 0 h (Nat.zero_le _) rfl
theorem head_src {W : World} {B m c : Nat} {a : Option Addr} {L : List RW} (h : W.ownsRow B 40 7 (.slice a m c) m (cellsR L)) (p : Nat) (hp : p ≤ m) : (a = none → p = 0 ∧ c = 0) ∧ (∀ ad, a = some ad → ∀ j u, (cellsR (L.take p))[j]? = some u → W.cell? (ad.add j) = some u) := by
  have hl : L.length = m := by have := h.1; rw [cellsR_len] at this; omega
  rcases own_form h with ⟨hn, h0⟩ | ⟨g, cp, hs, _, _⟩
  · simp only [Value.slice.injEq] at hn
    obtain ⟨rfl, rfl, rfl⟩ := hn
    exact ⟨fun _ => ⟨by omega, rfl⟩, fun ad e => (by cases e)⟩
  · simp only [Value.slice.injEq] at hs
    obtain ⟨rfl, _, rfl⟩ := hs
    refine ⟨fun e => (by cases e), fun ad e j u hu => ?_⟩
    cases e
    rw [← cellsR_take L p (by omega), List.getElem?_take] at hu
    split at hu
    · have := srcOwn h 0 j u (by simpa using hu)
      simpa using this
    · cases hu
theorem rest_src {W : World} {B g m c : Nat} {L : List RW} (h : W.ownsRow B 40 7 (.slice (some ⟨g, 0, none⟩) m c) m (cellsR L)) (r : Nat) (hr : r ≤ m) : ∀ j u, (cellsR (L.drop r))[j]? = some u → W.cell? ((⟨g, r * 7, none⟩ : Addr).add j) = some u := by
  have hl : L.length = m := by have := h.1; rw [cellsR_len] at this; omega
  intro j u hu
  rw [← cellsR_drop L r (by omega)] at hu
  exact srcOwn h r j u hu
theorem rest_nil {L : List RW} {r : Nat} (h : L.length ≤ r) {Q : Prop} {j : Nat} {u : Value} (hu : (cellsR (L.drop r))[j]? = some u) : Q := by
  rw [List.drop_eq_nil_of_le h] at hu; cases hu
theorem own_cap {W : World} {B m c : Nat} {a : Option Addr} {L : List RW} (h : W.ownsRow B 40 7 (.slice a m c) m (cellsR L)) : m ≤ c := by
  rcases h.2 with ⟨hn, h0⟩ | ⟨g', cap, cur, hv, _, _, h1, _⟩
  · omega
  · simp only [Value.slice.injEq] at hv; omega
theorem id_cell {W : World} {B g m c : Nat} {L : List RW} (h : W.ownsRow B 40 7 (.slice (some ⟨g, 0, none⟩) m c) m (cellsR L)) {q : Nat} (hq : q < m) : W.cell? ⟨g, q * 7, none⟩ = some (.int .i64 (L.getD q zeroR).i) := by
  have hl : L.length = m := by have := h.1; rw [cellsR_len] at this; omega
  rw [h.cellAt (q * 7) (by omega)]
  exact cellsR_get L q (by omega) 0 (by omega)
set_option maxRecDepth 100000 in
set_option maxHeartbeats 40000000 in
theorem c_lFold (a : Option Addr) (n cap : Nat) (vs : List CW) (tb : Int) (w : World) (hr : RdC w a n vs) (hn : n ≤ 1000) :
    Calls Try.prog 20 #[.slice a n cap, .int .i64 tb] w fun e w' => (∃ m a' c', e = .returned (.slice a' m c') ∧ w'.ownsRow w.heap.size 40 7 (.slice a' m c') m (cellsR (foldR tb vs))) ∧ Below w.heap.size w w' := by
  obtain ⟨hl, hcs⟩ := hr
  obtain ⟨i0, hi, hz0, hz1, hz2⟩ := info_parts infoR
  have O00 : Hid ((w.alloc (.cells #[] 40)).ownsRow w.heap.size 40 7 (.slice (some ⟨w.heap.size, 0, none⟩) 0 0) 0 (cellsR (foldR tb (vs.take 0)))) := lit0 w _ (Nat.le_refl _)
  have B00 : Hid (Below w.heap.size w (w.alloc (.cells #[] 40))) := (Below.refl _ _).alloc (Nat.le_refl _) _
  go_enter Try.func20, Try.ntmps20
  go_wp2
  go_loopw [5, 6] (fun rows i wr => ∃ (k m : Nat) (a' : Option Addr) (c' : Nat), k ≤ n ∧ i = .int .i64 k ∧ rows = .slice a' m c' ∧ Hid (wr.ownsRow w.heap.size 40 7 (.slice a' m c') m (cellsR (foldR tb (vs.take k)))) ∧ Hid (Below w.heap.size w wr)) (fun _ i _ => n - (intOf i).toNat)
  case atStart => exact ⟨0, 0, _, 0, by omega, rfl, rfl, O00, B00⟩
  case round =>
    clear O00 B00
    obtain ⟨k, m, a', c', hk, rfl, rfl, HO, hb⟩ := hrel
    by_cases hlt : k < n
    · obtain ⟨b, off, rfl, hbl, hc⟩ := hcs (by omega)
      obtain ⟨⟨vse, vtb, vi, va, vb, vt, vp, vq, vz, vg⟩, hv⟩ : ∃ v, v = vs.getD k zeroC := ⟨_, rfl⟩
      obtain ⟨d0, d1, d2, d3, d4, d5, d6, d7, d8, d9⟩ := RdC.at hc hlt hv
      dsimp only at d0 d1 d2 d3 d4 d5 d6 d7 d8 d9
      have e0 : wr.cell? ⟨b, off + k * 10, none⟩ = some (.int .i64 vse) := by rw [hb.out.cell (p := ⟨b, off + k * 10, none⟩) hbl, d0]
      have e1 : wr.cell? ⟨b, off + k * 10 + 1, none⟩ = some (.int .i64 vtb) := by rw [hb.out.cell (p := ⟨b, off + k * 10 + 1, none⟩) hbl, d1]
      have e2 : wr.cell? ⟨b, off + k * 10 + 2, none⟩ = some (.int .i64 vi) := by rw [hb.out.cell (p := ⟨b, off + k * 10 + 2, none⟩) hbl, d2]
      have e3 : wr.cell? ⟨b, off + k * 10 + 3, none⟩ = some (.int .i64 va) := by rw [hb.out.cell (p := ⟨b, off + k * 10 + 3, none⟩) hbl, d3]
      have e4 : wr.cell? ⟨b, off + k * 10 + 4, none⟩ = some (.int .i64 vb) := by rw [hb.out.cell (p := ⟨b, off + k * 10 + 4, none⟩) hbl, d4]
      have e5 : wr.cell? ⟨b, off + k * 10 + 5, none⟩ = some (.string vt) := by rw [hb.out.cell (p := ⟨b, off + k * 10 + 5, none⟩) hbl, d5]
      have e6 : wr.cell? ⟨b, off + k * 10 + 6, none⟩ = some (.int .i64 vp) := by rw [hb.out.cell (p := ⟨b, off + k * 10 + 6, none⟩) hbl, d6]
      have e7 : wr.cell? ⟨b, off + k * 10 + 7, none⟩ = some (.int .i64 vq) := by rw [hb.out.cell (p := ⟨b, off + k * 10 + 7, none⟩) hbl, d7]
      have e8 : wr.cell? ⟨b, off + k * 10 + 8, none⟩ = some (.string vz) := by rw [hb.out.cell (p := ⟨b, off + k * 10 + 8, none⟩) hbl, d8]
      have e9 : wr.cell? ⟨b, off + k * 10 + 9, none⟩ = some (.bool vg) := by rw [hb.out.cell (p := ⟨b, off + k * 10 + 9, none⟩) hbl, d9]
      have HST : Hid (foldR tb (vs.take (k + 1)) = stepR tb (foldR tb (vs.take k)) ⟨vse, vtb, vi, va, vb, vt, vp, vq, vz, vg⟩) := by unfold Hid; rw [hv]; exact fold_step tb vs k (by omega)
      have hso := fold_so tb vs k (by omega)
      obtain ⟨L, hL⟩ : ∃ L, foldR tb (vs.take k) = L := ⟨_, rfl⟩
      rw [hL] at HST HO hso
      obtain ⟨V, hV⟩ : ∃ V, wr.alloc (.cells #[.int .i64 vse, .int .i64 vtb, .int .i64 vi, .int .i64 va, .int .i64 vb, .string vt, .int .i64 vp, .int .i64 vq, .string vz, .bool vg] 42) = V := ⟨_, rfl⟩
      have hbV : Below wr.heap.size wr V := by rw [← hV]; exact (Below.refl _ _).alloc (Nat.le_refl _) _
      have BV : Hid (Below w.heap.size w V) := hb.out.trans (hbV.mono hb.out.size)
      have X : Hid (Box V wr.heap.size 42 #[.int .i64 vse, .int .i64 vtb, .int .i64 vi, .int .i64 va, .int .i64 vb, .string vt, .int .i64 vp, .int .i64 vq, .string vz, .bool vg]) := by unfold Hid; rw [← hV]; exact Box.new _ _ _
      have OV : Hid (V.ownsRow w.heap.size 40 7 (.slice a' m c') m (cellsR L)) := own_below HO.out hbV
      have hml : L.length = m := by have := OV.out.1; rw [cellsR_len] at this; omega
      have hm9 : m ≤ 1000 := by omega
      have SB := hb.out.size
      obtain ⟨x0, x1, x2, x3, x4, x5, x6, x7, x8, x9⟩ := box10 X.out
      clear hc hcs d0 d1 d2 d3 d4 d5 d6 d7 d8 d9 hv hL hb HO hbl hbV hso
      by_cases ht : vtb = tb
      · have et : (vtb != tb) = false := by simp [ht]
        have HN : Hid (foldR tb (vs.take (k + 1)) = nextR L ⟨vse, vtb, vi, va, vb, vt, vp, vq, vz, vg⟩) := by unfold Hid; rw [HST.out]; unfold stepR; rw [if_pos ht]
        obtain ⟨p, hp⟩ : ∃ p, posR L vi = p := ⟨_, rfl⟩
        have hpm : p ≤ m := by have := posR_le L vi; omega
        have HP : Hid (posR L vi = p) := hp
        clear HST ht hp
        go_wp2
        clear x0 x1 x2 x3 x4 x5 x6 x7 x8 x9 e0 e1 e2 e3 e4 e5 e6 e7 e8 e9 hV et
        generalize wr.heap.size = B7 at X SB ⊢
        go_loopw [8] (fun x wi => ∃ q : Nat, q ≤ p ∧ x = .int .i64 q ∧ Hid (Below V.heap.size V wi)) (fun x _ => p - (intOf x).toNat)
        case atStart => exact ⟨0, by omega, rfl, Below.refl _ _⟩
        case round =>
          obtain ⟨q, hq, rfl, hbi⟩ := hrel
          have BI : Hid (Below w.heap.size w wr) := BV.out.trans (hbi.out.mono BV.out.size)
          have XI : Hid (Box wr B7 42 #[.int .i64 vse, .int .i64 vtb, .int .i64 vi, .int .i64 va, .int .i64 vb, .string vt, .int .i64 vp, .int .i64 vq, .string vz, .bool vg]) := X.out.belowS hbi.out
          have OI : Hid (wr.ownsRow w.heap.size 40 7 (.slice a' m c') m (cellsR L)) := own_below OV.out hbi.out
          obtain ⟨x0, x1, x2, x3, x4, x5, x6, x7, x8, x9⟩ := box10 XI.out
          by_cases hqp : q < p
          · obtain ⟨g, hsl⟩ : ∃ g, a' = some ⟨g, 0, none⟩ := by
              rcases own_form OI.out with ⟨hnil, hm0⟩ | ⟨g, cp, hsl, _, _⟩
              · omega
              · simp only [Value.slice.injEq] at hsl
                exact ⟨g, hsl.1⟩
            subst hsl
            have ei := id_cell OI.out (show q < m by omega)
            have hlt2 := posR_lt L vi q (by rw [HP.out]; exact hqp)
            generalize (L.getD q zeroR).i = ri at ei hlt2
            have hd : decide (ri < vi) = true := decide_eq_true hlt2
            have g1 : (0 : Int) ≤ (q : Int) := by omega
            have g2 : (q : Int) < (m : Int) := by omega
            have g3 : decide ((q : Int) < (m : Int)) = true := decide_eq_true g2
            clear HN HP OI XI BI OV BV X hlt2
            go_wp2_with fail
            go_quiet (fail)
            go_wp2
            go_roundw
            case rel => exact ⟨q + 1, by omega, by go_num, by first | exact hbi | exact below_drewN hbi.out _⟩
            case measure => simp [intOf]; omega
          · have e : p = q := by omega
            subst e
            clear hq hqp hbi OV BV X
            have hmc := own_cap OI.out
            have ga : (p : Int) ≤ (c' : Int) := by omega
            by_cases hpl : p < m
            · obtain ⟨g, hsl⟩ : ∃ g, a' = some ⟨g, 0, none⟩ := by
                rcases own_form OI.out with ⟨hnil, hm0⟩ | ⟨g, cp, hsl, _, _⟩
                · omega
                · simp only [Value.slice.injEq] at hsl
                  exact ⟨g, hsl.1⟩
              subst hsl
              have ei := id_cell OI.out hpl
              have hge := posR_at L vi (by rw [HP.out]; omega)
              have hh := hit_in (L := L) (x := vi) (by rw [HP.out]; omega)
              rw [HP.out] at hge hh
              generalize (L.getD p zeroR).i = ri at ei hge hh
              have hd : decide (ri < vi) = false := decide_eq_false hge
              have g1 : (0 : Int) ≤ (p : Int) := by omega
              have g2 : (p : Int) < (m : Int) := by omega
              have g3 : decide ((p : Int) < (m : Int)) = true := decide_eq_true g2
              have gb : (p : Int) + 1 ≤ (m : Int) := by omega
              have gc : ((p : Int) + 1).toNat = p + 1 := by omega
              by_cases hx : ri = vi
              · have HH : Hid (hitR L vi = true) := by unfold Hid; rw [hh]; exact decide_eq_true hx
                have ce : (ri == vi) = true := by simpa using hx
                clear hx hh hge
                by_cases hcf : c' = p + 1
                · have hmf : m = p + 1 := by omega
                  have hmF : Hid (m = p + 1) := hmf
                  subst hcf
                  clear hmf
                  cases vg
                  · have EN : Hid (foldR tb (vs.take (k + 1)) = L.take p ++ [⟨vi, va, vb, vt, vp, vq, vz⟩] ++ L.drop (p + 1)) := by unfold Hid; rw [HN.out]; unfold nextR; rw [show posR L vi = p from HP.out, show hitR L vi = true from HH.out]; simp [rowC]
                    clear HN HP HH
                    go_wp2_with fail
                    go_quiet (fail)
                    obtain ⟨W9, hW9⟩ : ∃ W9, wr.drewN nq = W9 := ⟨_, rfl⟩
                    rw [hW9]
                    have b9 : Below wr.heap.size wr W9 := by rw [← hW9]; exact below_drewN (Below.refl _ _) _
                    have B9 : Hid (Below w.heap.size w W9) := BI.out.trans (b9.mono BI.out.size)
                    have O9 : Hid (W9.ownsRow w.heap.size 40 7 (.slice (some ⟨g, 0, none⟩) m (p + 1)) m (cellsR L)) := own_below OI.out b9
                    have X9 : Hid (Box W9 B7 42 #[.int .i64 vse, .int .i64 vtb, .int .i64 vi, .int .i64 va, .int .i64 vb, .string vt, .int .i64 vp, .int .i64 vq, .string vz, .bool false]) := XI.out.belowS b9
                    have ej : W9.cell? ⟨g, p * 7, none⟩ = some (.int .i64 ri) := by rw [← hW9]; exact ei
                    clear b9 BI OI XI hW9 x0 x1 x2 x3 x4 x5 x6 x7 x8 x9 ei
                    obtain ⟨x0, x1, x2, x3, x4, x5, x6, x7, x8, x9⟩ := box10 X9.out
                    go_wp2_with fail
                    go_quiet (fail)
                    obtain ⟨W0, hW0⟩ : ∃ W0, W9.drewN nq = W0 := ⟨_, rfl⟩
                    rw [hW0]
                    have b0 : Below W9.heap.size W9 W0 := by rw [← hW0]; exact below_drewN (Below.refl _ _) _
                    have B0 : Hid (Below w.heap.size w W0) := B9.out.trans (b0.mono B9.out.size)
                    have O0 : Hid (W0.ownsRow w.heap.size 40 7 (.slice (some ⟨g, 0, none⟩) m (p + 1)) m (cellsR L)) := own_below O9.out b0
                    have X0 : Hid (Box W0 B7 42 #[.int .i64 vse, .int .i64 vtb, .int .i64 vi, .int .i64 va, .int .i64 vb, .string vt, .int .i64 vp, .int .i64 vq, .string vz, .bool false]) := X9.out.belowS b0
                    have SB0 := B0.out.size
                    clear hW0 b0 B9 O9 X9 x0 x1 x2 x3 x4 x5 x6 x7 x8 x9 ej
                    obtain ⟨x0, x1, x2, x3, x4, x5, x6, x7, x8, x9⟩ := box10 X0.out
                    obtain ⟨W1, hW1⟩ : ∃ W1, W0.alloc (.cells #[] 40) = W1 := ⟨_, rfl⟩
                    have b1 : Below W0.heap.size W0 W1 := by rw [← hW1]; exact (Below.refl _ _).alloc (Nat.le_refl _) _
                    have O1 : Hid (W1.ownsRow w.heap.size 40 7 (.slice (some ⟨g, 0, none⟩) m (p + 1)) m (cellsR L)) := own_below O0.out b1
                    have N1 : Hid (W1.ownsRow W0.heap.size 40 7 (.slice (some ⟨W0.heap.size, 0, none⟩) 0 0) 0 []) := by unfold Hid; rw [← hW1]; exact lit0 W0 _ (Nat.le_refl _)
                    have s1 := b1.size
                    have B1 : Hid (Below W0.heap.size W0 W1) := b1
                    have hs := head_src O1.out p (by omega)
                    clear b1
                    go_wp2_with (first
                      | (at_builtin
                         refine app_any _ rfl (.tmp 65) (.tmp 68) 24 rfl W0.heap.size 40 i0 (.agg #[.int .i64 0, .int .i64 0, .int .i64 0, .string ⟨#[]⟩, .int .i64 0, .int .i64 0, .string ⟨#[]⟩]) 7 72 Try.underlying24 hi hz0 hz1 hz2 rfl (by omega) (.slice (some ⟨W0.heap.size, 0, none⟩) 0 0) 0 [] rfl N1.out (some ⟨g, 0, none⟩) p (p + 1) (cellsR (L.take p)) rfl hs.1 (by rw [cellsR_len, List.length_take]; omega) hs.2 (fun u hu => oneR _ u hu) (by unfold maxLen; omega) (by omega) s1 ?_
                         intro a2 c2 w2 o2 g2 k2
                         rw [Nat.zero_add, List.nil_append] at o2
                         have b2 : Below W0.heap.size W0 w2 := B1.out.grown g2 s1 (fun x hx => Nat.le_of_eq (Option.some.inj hx))
                         have N2 : Hid (w2.ownsRow W0.heap.size 40 7 (.slice a2 p c2) p (cellsR (L.take p))) := o2
                         have O2 : Hid (w2.ownsRow w.heap.size 40 7 (.slice (some ⟨g, 0, none⟩) m (p + 1)) m (cellsR L)) := own_below O0.out b2
                         have B2 : Hid (Below W0.heap.size W0 w2) := b2
                         have s2 := b2.size
                         have X2 : Hid (Box w2 B7 42 #[.int .i64 vse, .int .i64 vtb, .int .i64 vi, .int .i64 va, .int .i64 vb, .string vt, .int .i64 vp, .int .i64 vq, .string vz, .bool false]) := X0.out.belowS b2
                         have HB2 : Hid (∀ g, ob a2 = some g → W0.heap.size ≤ g) := fun g hg => (own_blk N2.out g hg).1
                         clear o2 g2 k2 b2 hs N1 O1 B1 hW1 x0 x1 x2 x3 x4 x5 x6 x7 x8 x9
                         obtain ⟨x0, x1, x2, x3, x4, x5, x6, x7, x8, x9⟩ := box10 X2.out
                         obtain ⟨W3, hW3⟩ : ∃ Q, w2.alloc (.cells #[.int .i64 vi, .int .i64 va, .int .i64 vb, .string vt, .int .i64 vp, .int .i64 vq, .string vz] 40) = Q := ⟨_, rfl⟩
                         have hb3 : Below w2.heap.size w2 W3 := by rw [← hW3]; exact (Below.refl _ _).alloc (Nat.le_refl _) _
                         have N3 : Hid (W3.ownsRow W0.heap.size 40 7 (.slice a2 p c2) p (cellsR (L.take p))) := own_below N2.out hb3
                         have hv3 : W3.heap[w2.heap.size]? = some (.cells (cR ((⟨vi, va, vb, vt, vp, vq, vz⟩) : RW)).toArray 40 (0, 0)) := by rw [← hW3]; show (w2.heap.push _)[w2.heap.size]? = _; simp [cR]
                         have B3 : Hid (Below W0.heap.size W0 W3) := B2.out.trans (hb3.mono s2)
                         have s3 := B3.out.size
                         have hV3 : Hid (_) := boxSrc hv3
                         clear hb3 N2 O2 B2 hv3)
                      | (at_builtin
                         refine app_any _ rfl (.tmp 73) (.tmp 76) 24 rfl W0.heap.size 40 i0 (.agg #[.int .i64 0, .int .i64 0, .int .i64 0, .string ⟨#[]⟩, .int .i64 0, .int .i64 0, .string ⟨#[]⟩]) 7 72 Try.underlying24 hi hz0 hz1 hz2 rfl (by omega) (.slice a2 p c2) p (cellsR (L.take p)) rfl N3.out (some ⟨w2.heap.size, 0, none⟩) 1 1 (cR ⟨vi, va, vb, vt, vp, vq, vz⟩) rfl (fun e => by cases e) rfl (fun ad e => by cases e; exact hV3.out) (fun u hu => oneR [⟨vi, va, vb, vt, vp, vq, vz⟩] u (by rw [cellsR_one]; exact hu)) (by unfold maxLen; omega) (by omega) s3 ?_
                         intro a4 c4 w4 o4 g4 k4
                         have b4 : Below W0.heap.size W0 w4 := B3.out.grown g4 s3 (fun x hx => HB2.out x (by rw [ob_slice] at hx; exact hx))
                         have N4 : Hid (w4.ownsRow W0.heap.size 40 7 (.slice a4 (p + 1) c4) (p + 1) (cellsR (L.take p ++ [⟨vi, va, vb, vt, vp, vq, vz⟩]))) := by unfold Hid; rw [cellsR_append, cellsR_one]; exact o4
                         have O4 : Hid (w4.ownsRow w.heap.size 40 7 (.slice (some ⟨g, 0, none⟩) m (p + 1)) m (cellsR L)) := own_below O0.out b4
                         have B4 : Hid (Below W0.heap.size W0 w4) := b4
                         have s4 := b4.size
                         have HB4 : Hid (∀ g, ob a4 = some g → W0.heap.size ≤ g) := fun g hg => (own_blk N4.out g hg).1
                         have rs : Hid (_) := True.intro
                         clear o4 g4 k4 b4 N3 B3 HB2 hV3 hW3 x0 x1 x2 x3 x4 x5 x6 x7 x8 x9 X2)
                      | (at_builtin
                         refine app_any _ rfl (.tmp 78) (.tmp 79) 24 rfl W0.heap.size 40 i0 (.agg #[.int .i64 0, .int .i64 0, .int .i64 0, .string ⟨#[]⟩, .int .i64 0, .int .i64 0, .string ⟨#[]⟩]) 7 72 Try.underlying24 hi hz0 hz1 hz2 rfl (by omega) (.slice a4 (p + 1) c4) (p + 1) (cellsR (L.take p ++ [⟨vi, va, vb, vt, vp, vq, vz⟩])) rfl N4.out _ _ _ (cellsR (L.drop (p + 1))) rfl (fun e => by cases e) (by rw [cellsR_len, List.length_drop]; omega) (fun ad e j u hu => rest_nil (by have := hmF.out; omega) hu) (fun u hu => oneR _ u hu) (by unfold maxLen; omega) (by omega) s4 ?_
                         intro a5 c5 w5 o5 g5 k5
                         have B5 : Hid (Below w.heap.size w w5) := B0.out.trans ((B4.out.grown g5 s4 (fun x hx => HB4.out x (by rw [ob_slice] at hx; exact hx))).mono SB0)
                         rw [← cellsR_append] at o5
                         have EL : L.take p ++ [⟨vi, va, vb, vt, vp, vq, vz⟩] ++ L.drop (p + 1) = foldR tb (vs.take (k + 1)) := by rw [EN.out] <;> simp
                         rw [EL] at o5
                         have O5 : Hid (w5.ownsRow w.heap.size 40 7 _ _ (cellsR (foldR tb (vs.take (k + 1))))) := own_mono o5 SB0
                         clear o5 g5 k5 EL rs))
                    go_roundw
                    case rel => exact ⟨k + 1, _, a5, c5, by omega, by go_num, rfl, O5, B5⟩
                    case measure => simp [intOf]; omega
                  · have EN : Hid (foldR tb (vs.take (k + 1)) = L.take p ++ [] ++ L.drop (p + 1)) := by unfold Hid; rw [HN.out]; unfold nextR; rw [show posR L vi = p from HP.out, show hitR L vi = true from HH.out]; simp [rowC]
                    clear HN HP HH
                    go_wp2_with fail
                    go_quiet (fail)
                    obtain ⟨W9, hW9⟩ : ∃ W9, wr.drewN nq = W9 := ⟨_, rfl⟩
                    rw [hW9]
                    have b9 : Below wr.heap.size wr W9 := by rw [← hW9]; exact below_drewN (Below.refl _ _) _
                    have B9 : Hid (Below w.heap.size w W9) := BI.out.trans (b9.mono BI.out.size)
                    have O9 : Hid (W9.ownsRow w.heap.size 40 7 (.slice (some ⟨g, 0, none⟩) m (p + 1)) m (cellsR L)) := own_below OI.out b9
                    have X9 : Hid (Box W9 B7 42 #[.int .i64 vse, .int .i64 vtb, .int .i64 vi, .int .i64 va, .int .i64 vb, .string vt, .int .i64 vp, .int .i64 vq, .string vz, .bool true]) := XI.out.belowS b9
                    have ej : W9.cell? ⟨g, p * 7, none⟩ = some (.int .i64 ri) := by rw [← hW9]; exact ei
                    clear b9 BI OI XI hW9 x0 x1 x2 x3 x4 x5 x6 x7 x8 x9 ei
                    obtain ⟨x0, x1, x2, x3, x4, x5, x6, x7, x8, x9⟩ := box10 X9.out
                    go_wp2_with fail
                    go_quiet (fail)
                    obtain ⟨W0, hW0⟩ : ∃ W0, W9.drewN nq = W0 := ⟨_, rfl⟩
                    rw [hW0]
                    have b0 : Below W9.heap.size W9 W0 := by rw [← hW0]; exact below_drewN (Below.refl _ _) _
                    have B0 : Hid (Below w.heap.size w W0) := B9.out.trans (b0.mono B9.out.size)
                    have O0 : Hid (W0.ownsRow w.heap.size 40 7 (.slice (some ⟨g, 0, none⟩) m (p + 1)) m (cellsR L)) := own_below O9.out b0
                    have X0 : Hid (Box W0 B7 42 #[.int .i64 vse, .int .i64 vtb, .int .i64 vi, .int .i64 va, .int .i64 vb, .string vt, .int .i64 vp, .int .i64 vq, .string vz, .bool true]) := X9.out.belowS b0
                    have SB0 := B0.out.size
                    clear hW0 b0 B9 O9 X9 x0 x1 x2 x3 x4 x5 x6 x7 x8 x9 ej
                    obtain ⟨x0, x1, x2, x3, x4, x5, x6, x7, x8, x9⟩ := box10 X0.out
                    obtain ⟨W1, hW1⟩ : ∃ W1, W0.alloc (.cells #[] 40) = W1 := ⟨_, rfl⟩
                    have b1 : Below W0.heap.size W0 W1 := by rw [← hW1]; exact (Below.refl _ _).alloc (Nat.le_refl _) _
                    have O1 : Hid (W1.ownsRow w.heap.size 40 7 (.slice (some ⟨g, 0, none⟩) m (p + 1)) m (cellsR L)) := own_below O0.out b1
                    have N1 : Hid (W1.ownsRow W0.heap.size 40 7 (.slice (some ⟨W0.heap.size, 0, none⟩) 0 0) 0 []) := by unfold Hid; rw [← hW1]; exact lit0 W0 _ (Nat.le_refl _)
                    have s1 := b1.size
                    have B1 : Hid (Below W0.heap.size W0 W1) := b1
                    have hs := head_src O1.out p (by omega)
                    clear b1
                    go_wp2_with (first
                      | (at_builtin
                         refine app_any _ rfl (.tmp 65) (.tmp 68) 24 rfl W0.heap.size 40 i0 (.agg #[.int .i64 0, .int .i64 0, .int .i64 0, .string ⟨#[]⟩, .int .i64 0, .int .i64 0, .string ⟨#[]⟩]) 7 72 Try.underlying24 hi hz0 hz1 hz2 rfl (by omega) (.slice (some ⟨W0.heap.size, 0, none⟩) 0 0) 0 [] rfl N1.out (some ⟨g, 0, none⟩) p (p + 1) (cellsR (L.take p)) rfl hs.1 (by rw [cellsR_len, List.length_take]; omega) hs.2 (fun u hu => oneR _ u hu) (by unfold maxLen; omega) (by omega) s1 ?_
                         intro a2 c2 w2 o2 g2 k2
                         rw [Nat.zero_add, List.nil_append] at o2
                         have b2 : Below W0.heap.size W0 w2 := B1.out.grown g2 s1 (fun x hx => Nat.le_of_eq (Option.some.inj hx))
                         have N2 : Hid (w2.ownsRow W0.heap.size 40 7 (.slice a2 p c2) p (cellsR (L.take p))) := o2
                         have O2 : Hid (w2.ownsRow w.heap.size 40 7 (.slice (some ⟨g, 0, none⟩) m (p + 1)) m (cellsR L)) := own_below O0.out b2
                         have B2 : Hid (Below W0.heap.size W0 w2) := b2
                         have s2 := b2.size
                         have X2 : Hid (Box w2 B7 42 #[.int .i64 vse, .int .i64 vtb, .int .i64 vi, .int .i64 va, .int .i64 vb, .string vt, .int .i64 vp, .int .i64 vq, .string vz, .bool true]) := X0.out.belowS b2
                         have HB2 : Hid (∀ g, ob a2 = some g → W0.heap.size ≤ g) := fun g hg => (own_blk N2.out g hg).1
                         clear o2 g2 k2 b2 hs N1 O1 B1 hW1 x0 x1 x2 x3 x4 x5 x6 x7 x8 x9
                         obtain ⟨x0, x1, x2, x3, x4, x5, x6, x7, x8, x9⟩ := box10 X2.out
                         have rs : Hid (_) := True.intro)
                      | (at_builtin
                         refine app_any _ rfl (.tmp 78) (.tmp 79) 24 rfl W0.heap.size 40 i0 (.agg #[.int .i64 0, .int .i64 0, .int .i64 0, .string ⟨#[]⟩, .int .i64 0, .int .i64 0, .string ⟨#[]⟩]) 7 72 Try.underlying24 hi hz0 hz1 hz2 rfl (by omega) (.slice a2 p c2) p (cellsR (L.take p)) rfl N2.out _ _ _ (cellsR (L.drop (p + 1))) rfl (fun e => by cases e) (by rw [cellsR_len, List.length_drop]; omega) (fun ad e j u hu => rest_nil (by have := hmF.out; omega) hu) (fun u hu => oneR _ u hu) (by unfold maxLen; omega) (by omega) s2 ?_
                         intro a5 c5 w5 o5 g5 k5
                         have B5 : Hid (Below w.heap.size w w5) := B0.out.trans ((B2.out.grown g5 s2 (fun x hx => HB2.out x (by rw [ob_slice] at hx; exact hx))).mono SB0)
                         rw [← cellsR_append] at o5
                         have EL : L.take p ++ L.drop (p + 1) = foldR tb (vs.take (k + 1)) := by rw [EN.out] <;> simp
                         rw [EL] at o5
                         have O5 : Hid (w5.ownsRow w.heap.size 40 7 _ _ (cellsR (foldR tb (vs.take (k + 1))))) := own_mono o5 SB0
                         clear o5 g5 k5 EL rs))
                    go_roundw
                    case rel => exact ⟨k + 1, _, a5, c5, by omega, by go_num, rfl, O5, B5⟩
                    case measure => simp [intOf]; omega
                · cases vg
                  · have EN : Hid (foldR tb (vs.take (k + 1)) = L.take p ++ [⟨vi, va, vb, vt, vp, vq, vz⟩] ++ L.drop (p + 1)) := by unfold Hid; rw [HN.out]; unfold nextR; rw [show posR L vi = p from HP.out, show hitR L vi = true from HH.out]; simp [rowC]
                    clear HN HP HH
                    go_wp2_with fail
                    go_quiet (fail)
                    obtain ⟨W9, hW9⟩ : ∃ W9, wr.drewN nq = W9 := ⟨_, rfl⟩
                    rw [hW9]
                    have b9 : Below wr.heap.size wr W9 := by rw [← hW9]; exact below_drewN (Below.refl _ _) _
                    have B9 : Hid (Below w.heap.size w W9) := BI.out.trans (b9.mono BI.out.size)
                    have O9 : Hid (W9.ownsRow w.heap.size 40 7 (.slice (some ⟨g, 0, none⟩) m c') m (cellsR L)) := own_below OI.out b9
                    have X9 : Hid (Box W9 B7 42 #[.int .i64 vse, .int .i64 vtb, .int .i64 vi, .int .i64 va, .int .i64 vb, .string vt, .int .i64 vp, .int .i64 vq, .string vz, .bool false]) := XI.out.belowS b9
                    have ej : W9.cell? ⟨g, p * 7, none⟩ = some (.int .i64 ri) := by rw [← hW9]; exact ei
                    clear b9 BI OI XI hW9 x0 x1 x2 x3 x4 x5 x6 x7 x8 x9 ei
                    obtain ⟨x0, x1, x2, x3, x4, x5, x6, x7, x8, x9⟩ := box10 X9.out
                    go_wp2_with fail
                    go_quiet (fail)
                    obtain ⟨W0, hW0⟩ : ∃ W0, W9.drewN nq = W0 := ⟨_, rfl⟩
                    rw [hW0]
                    have b0 : Below W9.heap.size W9 W0 := by rw [← hW0]; exact below_drewN (Below.refl _ _) _
                    have B0 : Hid (Below w.heap.size w W0) := B9.out.trans (b0.mono B9.out.size)
                    have O0 : Hid (W0.ownsRow w.heap.size 40 7 (.slice (some ⟨g, 0, none⟩) m c') m (cellsR L)) := own_below O9.out b0
                    have X0 : Hid (Box W0 B7 42 #[.int .i64 vse, .int .i64 vtb, .int .i64 vi, .int .i64 va, .int .i64 vb, .string vt, .int .i64 vp, .int .i64 vq, .string vz, .bool false]) := X9.out.belowS b0
                    have SB0 := B0.out.size
                    clear hW0 b0 B9 O9 X9 x0 x1 x2 x3 x4 x5 x6 x7 x8 x9 ej
                    obtain ⟨x0, x1, x2, x3, x4, x5, x6, x7, x8, x9⟩ := box10 X0.out
                    obtain ⟨W1, hW1⟩ : ∃ W1, W0.alloc (.cells #[] 40) = W1 := ⟨_, rfl⟩
                    have b1 : Below W0.heap.size W0 W1 := by rw [← hW1]; exact (Below.refl _ _).alloc (Nat.le_refl _) _
                    have O1 : Hid (W1.ownsRow w.heap.size 40 7 (.slice (some ⟨g, 0, none⟩) m c') m (cellsR L)) := own_below O0.out b1
                    have N1 : Hid (W1.ownsRow W0.heap.size 40 7 (.slice (some ⟨W0.heap.size, 0, none⟩) 0 0) 0 []) := by unfold Hid; rw [← hW1]; exact lit0 W0 _ (Nat.le_refl _)
                    have s1 := b1.size
                    have B1 : Hid (Below W0.heap.size W0 W1) := b1
                    have hs := head_src O1.out p (by omega)
                    clear b1
                    go_wp2_with (first
                      | (at_builtin
                         refine app_any _ rfl (.tmp 65) (.tmp 68) 24 rfl W0.heap.size 40 i0 (.agg #[.int .i64 0, .int .i64 0, .int .i64 0, .string ⟨#[]⟩, .int .i64 0, .int .i64 0, .string ⟨#[]⟩]) 7 72 Try.underlying24 hi hz0 hz1 hz2 rfl (by omega) (.slice (some ⟨W0.heap.size, 0, none⟩) 0 0) 0 [] rfl N1.out (some ⟨g, 0, none⟩) p c' (cellsR (L.take p)) rfl hs.1 (by rw [cellsR_len, List.length_take]; omega) hs.2 (fun u hu => oneR _ u hu) (by unfold maxLen; omega) (by omega) s1 ?_
                         intro a2 c2 w2 o2 g2 k2
                         rw [Nat.zero_add, List.nil_append] at o2
                         have b2 : Below W0.heap.size W0 w2 := B1.out.grown g2 s1 (fun x hx => Nat.le_of_eq (Option.some.inj hx))
                         have N2 : Hid (w2.ownsRow W0.heap.size 40 7 (.slice a2 p c2) p (cellsR (L.take p))) := o2
                         have O2 : Hid (w2.ownsRow w.heap.size 40 7 (.slice (some ⟨g, 0, none⟩) m c') m (cellsR L)) := own_below O0.out b2
                         have B2 : Hid (Below W0.heap.size W0 w2) := b2
                         have s2 := b2.size
                         have X2 : Hid (Box w2 B7 42 #[.int .i64 vse, .int .i64 vtb, .int .i64 vi, .int .i64 va, .int .i64 vb, .string vt, .int .i64 vp, .int .i64 vq, .string vz, .bool false]) := X0.out.belowS b2
                         have HB2 : Hid (∀ g, ob a2 = some g → W0.heap.size ≤ g) := fun g hg => (own_blk N2.out g hg).1
                         clear o2 g2 k2 b2 hs N1 O1 B1 hW1 x0 x1 x2 x3 x4 x5 x6 x7 x8 x9
                         obtain ⟨x0, x1, x2, x3, x4, x5, x6, x7, x8, x9⟩ := box10 X2.out
                         obtain ⟨W3, hW3⟩ : ∃ Q, w2.alloc (.cells #[.int .i64 vi, .int .i64 va, .int .i64 vb, .string vt, .int .i64 vp, .int .i64 vq, .string vz] 40) = Q := ⟨_, rfl⟩
                         have hb3 : Below w2.heap.size w2 W3 := by rw [← hW3]; exact (Below.refl _ _).alloc (Nat.le_refl _) _
                         have N3 : Hid (W3.ownsRow W0.heap.size 40 7 (.slice a2 p c2) p (cellsR (L.take p))) := own_below N2.out hb3
                         have hv3 : W3.heap[w2.heap.size]? = some (.cells (cR ((⟨vi, va, vb, vt, vp, vq, vz⟩) : RW)).toArray 40 (0, 0)) := by rw [← hW3]; show (w2.heap.push _)[w2.heap.size]? = _; simp [cR]
                         have B3 : Hid (Below W0.heap.size W0 W3) := B2.out.trans (hb3.mono s2)
                         have s3 := B3.out.size
                         have hV3 : Hid (_) := boxSrc hv3
                         clear hb3 N2 O2 B2 hv3)
                      | (at_builtin
                         refine app_any _ rfl (.tmp 73) (.tmp 76) 24 rfl W0.heap.size 40 i0 (.agg #[.int .i64 0, .int .i64 0, .int .i64 0, .string ⟨#[]⟩, .int .i64 0, .int .i64 0, .string ⟨#[]⟩]) 7 72 Try.underlying24 hi hz0 hz1 hz2 rfl (by omega) (.slice a2 p c2) p (cellsR (L.take p)) rfl N3.out (some ⟨w2.heap.size, 0, none⟩) 1 1 (cR ⟨vi, va, vb, vt, vp, vq, vz⟩) rfl (fun e => by cases e) rfl (fun ad e => by cases e; exact hV3.out) (fun u hu => oneR [⟨vi, va, vb, vt, vp, vq, vz⟩] u (by rw [cellsR_one]; exact hu)) (by unfold maxLen; omega) (by omega) s3 ?_
                         intro a4 c4 w4 o4 g4 k4
                         have b4 : Below W0.heap.size W0 w4 := B3.out.grown g4 s3 (fun x hx => HB2.out x (by rw [ob_slice] at hx; exact hx))
                         have N4 : Hid (w4.ownsRow W0.heap.size 40 7 (.slice a4 (p + 1) c4) (p + 1) (cellsR (L.take p ++ [⟨vi, va, vb, vt, vp, vq, vz⟩]))) := by unfold Hid; rw [cellsR_append, cellsR_one]; exact o4
                         have O4 : Hid (w4.ownsRow w.heap.size 40 7 (.slice (some ⟨g, 0, none⟩) m c') m (cellsR L)) := own_below O0.out b4
                         have B4 : Hid (Below W0.heap.size W0 w4) := b4
                         have s4 := b4.size
                         have HB4 : Hid (∀ g, ob a4 = some g → W0.heap.size ≤ g) := fun g hg => (own_blk N4.out g hg).1
                         have rs : Hid (_) := rest_src O4.out (p + 1) (by omega)
                         clear o4 g4 k4 b4 N3 B3 HB2 hV3 hW3 x0 x1 x2 x3 x4 x5 x6 x7 x8 x9 X2)
                      | (at_builtin
                         refine app_any _ rfl (.tmp 78) (.tmp 79) 24 rfl W0.heap.size 40 i0 (.agg #[.int .i64 0, .int .i64 0, .int .i64 0, .string ⟨#[]⟩, .int .i64 0, .int .i64 0, .string ⟨#[]⟩]) 7 72 Try.underlying24 hi hz0 hz1 hz2 rfl (by omega) (.slice a4 (p + 1) c4) (p + 1) (cellsR (L.take p ++ [⟨vi, va, vb, vt, vp, vq, vz⟩])) rfl N4.out _ _ _ (cellsR (L.drop (p + 1))) rfl (fun e => by cases e) (by rw [cellsR_len, List.length_drop]; omega) (fun ad e j u hu => by cases e; exact rs.out j u hu) (fun u hu => oneR _ u hu) (by unfold maxLen; omega) (by omega) s4 ?_
                         intro a5 c5 w5 o5 g5 k5
                         have B5 : Hid (Below w.heap.size w w5) := B0.out.trans ((B4.out.grown g5 s4 (fun x hx => HB4.out x (by rw [ob_slice] at hx; exact hx))).mono SB0)
                         rw [← cellsR_append] at o5
                         have EL : L.take p ++ [⟨vi, va, vb, vt, vp, vq, vz⟩] ++ L.drop (p + 1) = foldR tb (vs.take (k + 1)) := by rw [EN.out] <;> simp
                         rw [EL] at o5
                         have O5 : Hid (w5.ownsRow w.heap.size 40 7 _ _ (cellsR (foldR tb (vs.take (k + 1))))) := own_mono o5 SB0
                         clear o5 g5 k5 EL rs))
                    go_roundw
                    case rel => exact ⟨k + 1, _, a5, c5, by omega, by go_num, rfl, O5, B5⟩
                    case measure => simp [intOf]; omega
                  · have EN : Hid (foldR tb (vs.take (k + 1)) = L.take p ++ [] ++ L.drop (p + 1)) := by unfold Hid; rw [HN.out]; unfold nextR; rw [show posR L vi = p from HP.out, show hitR L vi = true from HH.out]; simp [rowC]
                    clear HN HP HH
                    go_wp2_with fail
                    go_quiet (fail)
                    obtain ⟨W9, hW9⟩ : ∃ W9, wr.drewN nq = W9 := ⟨_, rfl⟩
                    rw [hW9]
                    have b9 : Below wr.heap.size wr W9 := by rw [← hW9]; exact below_drewN (Below.refl _ _) _
                    have B9 : Hid (Below w.heap.size w W9) := BI.out.trans (b9.mono BI.out.size)
                    have O9 : Hid (W9.ownsRow w.heap.size 40 7 (.slice (some ⟨g, 0, none⟩) m c') m (cellsR L)) := own_below OI.out b9
                    have X9 : Hid (Box W9 B7 42 #[.int .i64 vse, .int .i64 vtb, .int .i64 vi, .int .i64 va, .int .i64 vb, .string vt, .int .i64 vp, .int .i64 vq, .string vz, .bool true]) := XI.out.belowS b9
                    have ej : W9.cell? ⟨g, p * 7, none⟩ = some (.int .i64 ri) := by rw [← hW9]; exact ei
                    clear b9 BI OI XI hW9 x0 x1 x2 x3 x4 x5 x6 x7 x8 x9 ei
                    obtain ⟨x0, x1, x2, x3, x4, x5, x6, x7, x8, x9⟩ := box10 X9.out
                    go_wp2_with fail
                    go_quiet (fail)
                    obtain ⟨W0, hW0⟩ : ∃ W0, W9.drewN nq = W0 := ⟨_, rfl⟩
                    rw [hW0]
                    have b0 : Below W9.heap.size W9 W0 := by rw [← hW0]; exact below_drewN (Below.refl _ _) _
                    have B0 : Hid (Below w.heap.size w W0) := B9.out.trans (b0.mono B9.out.size)
                    have O0 : Hid (W0.ownsRow w.heap.size 40 7 (.slice (some ⟨g, 0, none⟩) m c') m (cellsR L)) := own_below O9.out b0
                    have X0 : Hid (Box W0 B7 42 #[.int .i64 vse, .int .i64 vtb, .int .i64 vi, .int .i64 va, .int .i64 vb, .string vt, .int .i64 vp, .int .i64 vq, .string vz, .bool true]) := X9.out.belowS b0
                    have SB0 := B0.out.size
                    clear hW0 b0 B9 O9 X9 x0 x1 x2 x3 x4 x5 x6 x7 x8 x9 ej
                    obtain ⟨x0, x1, x2, x3, x4, x5, x6, x7, x8, x9⟩ := box10 X0.out
                    obtain ⟨W1, hW1⟩ : ∃ W1, W0.alloc (.cells #[] 40) = W1 := ⟨_, rfl⟩
                    have b1 : Below W0.heap.size W0 W1 := by rw [← hW1]; exact (Below.refl _ _).alloc (Nat.le_refl _) _
                    have O1 : Hid (W1.ownsRow w.heap.size 40 7 (.slice (some ⟨g, 0, none⟩) m c') m (cellsR L)) := own_below O0.out b1
                    have N1 : Hid (W1.ownsRow W0.heap.size 40 7 (.slice (some ⟨W0.heap.size, 0, none⟩) 0 0) 0 []) := by unfold Hid; rw [← hW1]; exact lit0 W0 _ (Nat.le_refl _)
                    have s1 := b1.size
                    have B1 : Hid (Below W0.heap.size W0 W1) := b1
                    have hs := head_src O1.out p (by omega)
                    clear b1
                    go_wp2_with (first
                      | (at_builtin
                         refine app_any _ rfl (.tmp 65) (.tmp 68) 24 rfl W0.heap.size 40 i0 (.agg #[.int .i64 0, .int .i64 0, .int .i64 0, .string ⟨#[]⟩, .int .i64 0, .int .i64 0, .string ⟨#[]⟩]) 7 72 Try.underlying24 hi hz0 hz1 hz2 rfl (by omega) (.slice (some ⟨W0.heap.size, 0, none⟩) 0 0) 0 [] rfl N1.out (some ⟨g, 0, none⟩) p c' (cellsR (L.take p)) rfl hs.1 (by rw [cellsR_len, List.length_take]; omega) hs.2 (fun u hu => oneR _ u hu) (by unfold maxLen; omega) (by omega) s1 ?_
                         intro a2 c2 w2 o2 g2 k2
                         rw [Nat.zero_add, List.nil_append] at o2
                         have b2 : Below W0.heap.size W0 w2 := B1.out.grown g2 s1 (fun x hx => Nat.le_of_eq (Option.some.inj hx))
                         have N2 : Hid (w2.ownsRow W0.heap.size 40 7 (.slice a2 p c2) p (cellsR (L.take p))) := o2
                         have O2 : Hid (w2.ownsRow w.heap.size 40 7 (.slice (some ⟨g, 0, none⟩) m c') m (cellsR L)) := own_below O0.out b2
                         have B2 : Hid (Below W0.heap.size W0 w2) := b2
                         have s2 := b2.size
                         have X2 : Hid (Box w2 B7 42 #[.int .i64 vse, .int .i64 vtb, .int .i64 vi, .int .i64 va, .int .i64 vb, .string vt, .int .i64 vp, .int .i64 vq, .string vz, .bool true]) := X0.out.belowS b2
                         have HB2 : Hid (∀ g, ob a2 = some g → W0.heap.size ≤ g) := fun g hg => (own_blk N2.out g hg).1
                         clear o2 g2 k2 b2 hs N1 O1 B1 hW1 x0 x1 x2 x3 x4 x5 x6 x7 x8 x9
                         obtain ⟨x0, x1, x2, x3, x4, x5, x6, x7, x8, x9⟩ := box10 X2.out
                         have rs : Hid (_) := rest_src O2.out (p + 1) (by omega))
                      | (at_builtin
                         refine app_any _ rfl (.tmp 78) (.tmp 79) 24 rfl W0.heap.size 40 i0 (.agg #[.int .i64 0, .int .i64 0, .int .i64 0, .string ⟨#[]⟩, .int .i64 0, .int .i64 0, .string ⟨#[]⟩]) 7 72 Try.underlying24 hi hz0 hz1 hz2 rfl (by omega) (.slice a2 p c2) p (cellsR (L.take p)) rfl N2.out _ _ _ (cellsR (L.drop (p + 1))) rfl (fun e => by cases e) (by rw [cellsR_len, List.length_drop]; omega) (fun ad e j u hu => by cases e; exact rs.out j u hu) (fun u hu => oneR _ u hu) (by unfold maxLen; omega) (by omega) s2 ?_
                         intro a5 c5 w5 o5 g5 k5
                         have B5 : Hid (Below w.heap.size w w5) := B0.out.trans ((B2.out.grown g5 s2 (fun x hx => HB2.out x (by rw [ob_slice] at hx; exact hx))).mono SB0)
                         rw [← cellsR_append] at o5
                         have EL : L.take p ++ L.drop (p + 1) = foldR tb (vs.take (k + 1)) := by rw [EN.out] <;> simp
                         rw [EL] at o5
                         have O5 : Hid (w5.ownsRow w.heap.size 40 7 _ _ (cellsR (foldR tb (vs.take (k + 1))))) := own_mono o5 SB0
                         clear o5 g5 k5 EL rs))
                    go_roundw
                    case rel => exact ⟨k + 1, _, a5, c5, by omega, by go_num, rfl, O5, B5⟩
                    case measure => simp [intOf]; omega
              · have HH : Hid (hitR L vi = false) := by unfold Hid; rw [hh]; exact decide_eq_false hx
                have ce : (ri == vi) = false := by simpa using hx
                clear hx hh hge
                have hcf : ¬ (c' = p) := by omega
                cases vg
                · have EN : Hid (foldR tb (vs.take (k + 1)) = L.take p ++ [⟨vi, va, vb, vt, vp, vq, vz⟩] ++ L.drop (p)) := by unfold Hid; rw [HN.out]; unfold nextR; rw [show posR L vi = p from HP.out, show hitR L vi = false from HH.out]; simp [rowC]
                  clear HN HP HH
                  go_wp2_with fail
                  go_quiet (fail)
                  obtain ⟨W9, hW9⟩ : ∃ W9, wr.drewN nq = W9 := ⟨_, rfl⟩
                  rw [hW9]
                  have b9 : Below wr.heap.size wr W9 := by rw [← hW9]; exact below_drewN (Below.refl _ _) _
                  have B9 : Hid (Below w.heap.size w W9) := BI.out.trans (b9.mono BI.out.size)
                  have O9 : Hid (W9.ownsRow w.heap.size 40 7 (.slice (some ⟨g, 0, none⟩) m c') m (cellsR L)) := own_below OI.out b9
                  have X9 : Hid (Box W9 B7 42 #[.int .i64 vse, .int .i64 vtb, .int .i64 vi, .int .i64 va, .int .i64 vb, .string vt, .int .i64 vp, .int .i64 vq, .string vz, .bool false]) := XI.out.belowS b9
                  have ej : W9.cell? ⟨g, p * 7, none⟩ = some (.int .i64 ri) := by rw [← hW9]; exact ei
                  clear b9 BI OI XI hW9 x0 x1 x2 x3 x4 x5 x6 x7 x8 x9 ei
                  obtain ⟨x0, x1, x2, x3, x4, x5, x6, x7, x8, x9⟩ := box10 X9.out
                  go_wp2_with fail
                  go_quiet (fail)
                  obtain ⟨W0, hW0⟩ : ∃ W0, W9.drewN nq = W0 := ⟨_, rfl⟩
                  rw [hW0]
                  have b0 : Below W9.heap.size W9 W0 := by rw [← hW0]; exact below_drewN (Below.refl _ _) _
                  have B0 : Hid (Below w.heap.size w W0) := B9.out.trans (b0.mono B9.out.size)
                  have O0 : Hid (W0.ownsRow w.heap.size 40 7 (.slice (some ⟨g, 0, none⟩) m c') m (cellsR L)) := own_below O9.out b0
                  have X0 : Hid (Box W0 B7 42 #[.int .i64 vse, .int .i64 vtb, .int .i64 vi, .int .i64 va, .int .i64 vb, .string vt, .int .i64 vp, .int .i64 vq, .string vz, .bool false]) := X9.out.belowS b0
                  have SB0 := B0.out.size
                  clear hW0 b0 B9 O9 X9 x0 x1 x2 x3 x4 x5 x6 x7 x8 x9 ej
                  obtain ⟨x0, x1, x2, x3, x4, x5, x6, x7, x8, x9⟩ := box10 X0.out
                  obtain ⟨W1, hW1⟩ : ∃ W1, W0.alloc (.cells #[] 40) = W1 := ⟨_, rfl⟩
                  have b1 : Below W0.heap.size W0 W1 := by rw [← hW1]; exact (Below.refl _ _).alloc (Nat.le_refl _) _
                  have O1 : Hid (W1.ownsRow w.heap.size 40 7 (.slice (some ⟨g, 0, none⟩) m c') m (cellsR L)) := own_below O0.out b1
                  have N1 : Hid (W1.ownsRow W0.heap.size 40 7 (.slice (some ⟨W0.heap.size, 0, none⟩) 0 0) 0 []) := by unfold Hid; rw [← hW1]; exact lit0 W0 _ (Nat.le_refl _)
                  have s1 := b1.size
                  have B1 : Hid (Below W0.heap.size W0 W1) := b1
                  have hs := head_src O1.out p (by omega)
                  clear b1
                  go_wp2_with (first
                    | (at_builtin
                       refine app_any _ rfl (.tmp 65) (.tmp 68) 24 rfl W0.heap.size 40 i0 (.agg #[.int .i64 0, .int .i64 0, .int .i64 0, .string ⟨#[]⟩, .int .i64 0, .int .i64 0, .string ⟨#[]⟩]) 7 72 Try.underlying24 hi hz0 hz1 hz2 rfl (by omega) (.slice (some ⟨W0.heap.size, 0, none⟩) 0 0) 0 [] rfl N1.out (some ⟨g, 0, none⟩) p c' (cellsR (L.take p)) rfl hs.1 (by rw [cellsR_len, List.length_take]; omega) hs.2 (fun u hu => oneR _ u hu) (by unfold maxLen; omega) (by omega) s1 ?_
                       intro a2 c2 w2 o2 g2 k2
                       rw [Nat.zero_add, List.nil_append] at o2
                       have b2 : Below W0.heap.size W0 w2 := B1.out.grown g2 s1 (fun x hx => Nat.le_of_eq (Option.some.inj hx))
                       have N2 : Hid (w2.ownsRow W0.heap.size 40 7 (.slice a2 p c2) p (cellsR (L.take p))) := o2
                       have O2 : Hid (w2.ownsRow w.heap.size 40 7 (.slice (some ⟨g, 0, none⟩) m c') m (cellsR L)) := own_below O0.out b2
                       have B2 : Hid (Below W0.heap.size W0 w2) := b2
                       have s2 := b2.size
                       have X2 : Hid (Box w2 B7 42 #[.int .i64 vse, .int .i64 vtb, .int .i64 vi, .int .i64 va, .int .i64 vb, .string vt, .int .i64 vp, .int .i64 vq, .string vz, .bool false]) := X0.out.belowS b2
                       have HB2 : Hid (∀ g, ob a2 = some g → W0.heap.size ≤ g) := fun g hg => (own_blk N2.out g hg).1
                       clear o2 g2 k2 b2 hs N1 O1 B1 hW1 x0 x1 x2 x3 x4 x5 x6 x7 x8 x9
                       obtain ⟨x0, x1, x2, x3, x4, x5, x6, x7, x8, x9⟩ := box10 X2.out
                       obtain ⟨W3, hW3⟩ : ∃ Q, w2.alloc (.cells #[.int .i64 vi, .int .i64 va, .int .i64 vb, .string vt, .int .i64 vp, .int .i64 vq, .string vz] 40) = Q := ⟨_, rfl⟩
                       have hb3 : Below w2.heap.size w2 W3 := by rw [← hW3]; exact (Below.refl _ _).alloc (Nat.le_refl _) _
                       have N3 : Hid (W3.ownsRow W0.heap.size 40 7 (.slice a2 p c2) p (cellsR (L.take p))) := own_below N2.out hb3
                       have hv3 : W3.heap[w2.heap.size]? = some (.cells (cR ((⟨vi, va, vb, vt, vp, vq, vz⟩) : RW)).toArray 40 (0, 0)) := by rw [← hW3]; show (w2.heap.push _)[w2.heap.size]? = _; simp [cR]
                       have B3 : Hid (Below W0.heap.size W0 W3) := B2.out.trans (hb3.mono s2)
                       have s3 := B3.out.size
                       have hV3 : Hid (_) := boxSrc hv3
                       clear hb3 N2 O2 B2 hv3)
                    | (at_builtin
                       refine app_any _ rfl (.tmp 73) (.tmp 76) 24 rfl W0.heap.size 40 i0 (.agg #[.int .i64 0, .int .i64 0, .int .i64 0, .string ⟨#[]⟩, .int .i64 0, .int .i64 0, .string ⟨#[]⟩]) 7 72 Try.underlying24 hi hz0 hz1 hz2 rfl (by omega) (.slice a2 p c2) p (cellsR (L.take p)) rfl N3.out (some ⟨w2.heap.size, 0, none⟩) 1 1 (cR ⟨vi, va, vb, vt, vp, vq, vz⟩) rfl (fun e => by cases e) rfl (fun ad e => by cases e; exact hV3.out) (fun u hu => oneR [⟨vi, va, vb, vt, vp, vq, vz⟩] u (by rw [cellsR_one]; exact hu)) (by unfold maxLen; omega) (by omega) s3 ?_
                       intro a4 c4 w4 o4 g4 k4
                       have b4 : Below W0.heap.size W0 w4 := B3.out.grown g4 s3 (fun x hx => HB2.out x (by rw [ob_slice] at hx; exact hx))
                       have N4 : Hid (w4.ownsRow W0.heap.size 40 7 (.slice a4 (p + 1) c4) (p + 1) (cellsR (L.take p ++ [⟨vi, va, vb, vt, vp, vq, vz⟩]))) := by unfold Hid; rw [cellsR_append, cellsR_one]; exact o4
                       have O4 : Hid (w4.ownsRow w.heap.size 40 7 (.slice (some ⟨g, 0, none⟩) m c') m (cellsR L)) := own_below O0.out b4
                       have B4 : Hid (Below W0.heap.size W0 w4) := b4
                       have s4 := b4.size
                       have HB4 : Hid (∀ g, ob a4 = some g → W0.heap.size ≤ g) := fun g hg => (own_blk N4.out g hg).1
                       have rs : Hid (_) := rest_src O4.out (p) (by omega)
                       clear o4 g4 k4 b4 N3 B3 HB2 hV3 hW3 x0 x1 x2 x3 x4 x5 x6 x7 x8 x9 X2)
                    | (at_builtin
                       refine app_any _ rfl (.tmp 78) (.tmp 79) 24 rfl W0.heap.size 40 i0 (.agg #[.int .i64 0, .int .i64 0, .int .i64 0, .string ⟨#[]⟩, .int .i64 0, .int .i64 0, .string ⟨#[]⟩]) 7 72 Try.underlying24 hi hz0 hz1 hz2 rfl (by omega) (.slice a4 (p + 1) c4) (p + 1) (cellsR (L.take p ++ [⟨vi, va, vb, vt, vp, vq, vz⟩])) rfl N4.out _ _ _ (cellsR (L.drop (p))) rfl (fun e => by cases e) (by rw [cellsR_len, List.length_drop]; omega) (fun ad e j u hu => by cases e; exact rs.out j u hu) (fun u hu => oneR _ u hu) (by unfold maxLen; omega) (by omega) s4 ?_
                       intro a5 c5 w5 o5 g5 k5
                       have B5 : Hid (Below w.heap.size w w5) := B0.out.trans ((B4.out.grown g5 s4 (fun x hx => HB4.out x (by rw [ob_slice] at hx; exact hx))).mono SB0)
                       rw [← cellsR_append] at o5
                       have EL : L.take p ++ [⟨vi, va, vb, vt, vp, vq, vz⟩] ++ L.drop (p) = foldR tb (vs.take (k + 1)) := by rw [EN.out] <;> simp
                       rw [EL] at o5
                       have O5 : Hid (w5.ownsRow w.heap.size 40 7 _ _ (cellsR (foldR tb (vs.take (k + 1))))) := own_mono o5 SB0
                       clear o5 g5 k5 EL rs))
                  go_roundw
                  case rel => exact ⟨k + 1, _, a5, c5, by omega, by go_num, rfl, O5, B5⟩
                  case measure => simp [intOf]; omega
                · have EN : Hid (foldR tb (vs.take (k + 1)) = L.take p ++ [] ++ L.drop (p)) := by unfold Hid; rw [HN.out]; unfold nextR; rw [show posR L vi = p from HP.out, show hitR L vi = false from HH.out]; simp [rowC]
                  clear HN HP HH
                  go_wp2_with fail
                  go_quiet (fail)
                  obtain ⟨W9, hW9⟩ : ∃ W9, wr.drewN nq = W9 := ⟨_, rfl⟩
                  rw [hW9]
                  have b9 : Below wr.heap.size wr W9 := by rw [← hW9]; exact below_drewN (Below.refl _ _) _
                  have B9 : Hid (Below w.heap.size w W9) := BI.out.trans (b9.mono BI.out.size)
                  have O9 : Hid (W9.ownsRow w.heap.size 40 7 (.slice (some ⟨g, 0, none⟩) m c') m (cellsR L)) := own_below OI.out b9
                  have X9 : Hid (Box W9 B7 42 #[.int .i64 vse, .int .i64 vtb, .int .i64 vi, .int .i64 va, .int .i64 vb, .string vt, .int .i64 vp, .int .i64 vq, .string vz, .bool true]) := XI.out.belowS b9
                  have ej : W9.cell? ⟨g, p * 7, none⟩ = some (.int .i64 ri) := by rw [← hW9]; exact ei
                  clear b9 BI OI XI hW9 x0 x1 x2 x3 x4 x5 x6 x7 x8 x9 ei
                  obtain ⟨x0, x1, x2, x3, x4, x5, x6, x7, x8, x9⟩ := box10 X9.out
                  go_wp2_with fail
                  go_quiet (fail)
                  obtain ⟨W0, hW0⟩ : ∃ W0, W9.drewN nq = W0 := ⟨_, rfl⟩
                  rw [hW0]
                  have b0 : Below W9.heap.size W9 W0 := by rw [← hW0]; exact below_drewN (Below.refl _ _) _
                  have B0 : Hid (Below w.heap.size w W0) := B9.out.trans (b0.mono B9.out.size)
                  have O0 : Hid (W0.ownsRow w.heap.size 40 7 (.slice (some ⟨g, 0, none⟩) m c') m (cellsR L)) := own_below O9.out b0
                  have X0 : Hid (Box W0 B7 42 #[.int .i64 vse, .int .i64 vtb, .int .i64 vi, .int .i64 va, .int .i64 vb, .string vt, .int .i64 vp, .int .i64 vq, .string vz, .bool true]) := X9.out.belowS b0
                  have SB0 := B0.out.size
                  clear hW0 b0 B9 O9 X9 x0 x1 x2 x3 x4 x5 x6 x7 x8 x9 ej
                  obtain ⟨x0, x1, x2, x3, x4, x5, x6, x7, x8, x9⟩ := box10 X0.out
                  obtain ⟨W1, hW1⟩ : ∃ W1, W0.alloc (.cells #[] 40) = W1 := ⟨_, rfl⟩
                  have b1 : Below W0.heap.size W0 W1 := by rw [← hW1]; exact (Below.refl _ _).alloc (Nat.le_refl _) _
                  have O1 : Hid (W1.ownsRow w.heap.size 40 7 (.slice (some ⟨g, 0, none⟩) m c') m (cellsR L)) := own_below O0.out b1
                  have N1 : Hid (W1.ownsRow W0.heap.size 40 7 (.slice (some ⟨W0.heap.size, 0, none⟩) 0 0) 0 []) := by unfold Hid; rw [← hW1]; exact lit0 W0 _ (Nat.le_refl _)
                  have s1 := b1.size
                  have B1 : Hid (Below W0.heap.size W0 W1) := b1
                  have hs := head_src O1.out p (by omega)
                  clear b1
                  go_wp2_with (first
                    | (at_builtin
                       refine app_any _ rfl (.tmp 65) (.tmp 68) 24 rfl W0.heap.size 40 i0 (.agg #[.int .i64 0, .int .i64 0, .int .i64 0, .string ⟨#[]⟩, .int .i64 0, .int .i64 0, .string ⟨#[]⟩]) 7 72 Try.underlying24 hi hz0 hz1 hz2 rfl (by omega) (.slice (some ⟨W0.heap.size, 0, none⟩) 0 0) 0 [] rfl N1.out (some ⟨g, 0, none⟩) p c' (cellsR (L.take p)) rfl hs.1 (by rw [cellsR_len, List.length_take]; omega) hs.2 (fun u hu => oneR _ u hu) (by unfold maxLen; omega) (by omega) s1 ?_
                       intro a2 c2 w2 o2 g2 k2
                       rw [Nat.zero_add, List.nil_append] at o2
                       have b2 : Below W0.heap.size W0 w2 := B1.out.grown g2 s1 (fun x hx => Nat.le_of_eq (Option.some.inj hx))
                       have N2 : Hid (w2.ownsRow W0.heap.size 40 7 (.slice a2 p c2) p (cellsR (L.take p))) := o2
                       have O2 : Hid (w2.ownsRow w.heap.size 40 7 (.slice (some ⟨g, 0, none⟩) m c') m (cellsR L)) := own_below O0.out b2
                       have B2 : Hid (Below W0.heap.size W0 w2) := b2
                       have s2 := b2.size
                       have X2 : Hid (Box w2 B7 42 #[.int .i64 vse, .int .i64 vtb, .int .i64 vi, .int .i64 va, .int .i64 vb, .string vt, .int .i64 vp, .int .i64 vq, .string vz, .bool true]) := X0.out.belowS b2
                       have HB2 : Hid (∀ g, ob a2 = some g → W0.heap.size ≤ g) := fun g hg => (own_blk N2.out g hg).1
                       clear o2 g2 k2 b2 hs N1 O1 B1 hW1 x0 x1 x2 x3 x4 x5 x6 x7 x8 x9
                       obtain ⟨x0, x1, x2, x3, x4, x5, x6, x7, x8, x9⟩ := box10 X2.out
                       have rs : Hid (_) := rest_src O2.out (p) (by omega))
                    | (at_builtin
                       refine app_any _ rfl (.tmp 78) (.tmp 79) 24 rfl W0.heap.size 40 i0 (.agg #[.int .i64 0, .int .i64 0, .int .i64 0, .string ⟨#[]⟩, .int .i64 0, .int .i64 0, .string ⟨#[]⟩]) 7 72 Try.underlying24 hi hz0 hz1 hz2 rfl (by omega) (.slice a2 p c2) p (cellsR (L.take p)) rfl N2.out _ _ _ (cellsR (L.drop (p))) rfl (fun e => by cases e) (by rw [cellsR_len, List.length_drop]; omega) (fun ad e j u hu => by cases e; exact rs.out j u hu) (fun u hu => oneR _ u hu) (by unfold maxLen; omega) (by omega) s2 ?_
                       intro a5 c5 w5 o5 g5 k5
                       have B5 : Hid (Below w.heap.size w w5) := B0.out.trans ((B2.out.grown g5 s2 (fun x hx => HB2.out x (by rw [ob_slice] at hx; exact hx))).mono SB0)
                       rw [← cellsR_append] at o5
                       have EL : L.take p ++ L.drop (p) = foldR tb (vs.take (k + 1)) := by rw [EN.out] <;> simp
                       rw [EL] at o5
                       have O5 : Hid (w5.ownsRow w.heap.size 40 7 _ _ (cellsR (foldR tb (vs.take (k + 1))))) := own_mono o5 SB0
                       clear o5 g5 k5 EL rs))
                  go_roundw
                  case rel => exact ⟨k + 1, _, a5, c5, by omega, by go_num, rfl, (by have h9 := O5.out; rw [show p + (m - p) = m by omega] at h9; exact h9), B5⟩
                  case measure => simp [intOf]; omega
            · have HH : Hid (hitR L vi = false) := hit_out (by rw [HP.out]; omega)
              rcases own_form OI.out with ⟨hnil, hm0⟩ | ⟨g, cp, hsl, _, _⟩
              · simp only [Value.slice.injEq] at hnil
                obtain ⟨rfl, _, rfl⟩ := hnil
                subst hm0
                have hp0 : 0 = p := by omega
                subst hp0
                clear hpl
                cases vg
                · have EN : Hid (foldR tb (vs.take (k + 1)) = L.take 0 ++ [⟨vi, va, vb, vt, vp, vq, vz⟩] ++ L.drop (0)) := by unfold Hid; rw [HN.out]; unfold nextR; rw [show posR L vi = 0 from HP.out, show hitR L vi = false from HH.out]; simp [rowC]
                  clear HN HP HH
                  go_wp2_with fail
                  go_quiet (fail)
                  obtain ⟨W9, hW9⟩ : ∃ W9, wr.drewN nq = W9 := ⟨_, rfl⟩
                  rw [hW9]
                  have b9 : Below wr.heap.size wr W9 := by rw [← hW9]; exact below_drewN (Below.refl _ _) _
                  have B9 : Hid (Below w.heap.size w W9) := BI.out.trans (b9.mono BI.out.size)
                  have O9 : Hid (W9.ownsRow w.heap.size 40 7 (.slice none 0 0) 0 (cellsR L)) := own_below OI.out b9
                  have X9 : Hid (Box W9 B7 42 #[.int .i64 vse, .int .i64 vtb, .int .i64 vi, .int .i64 va, .int .i64 vb, .string vt, .int .i64 vp, .int .i64 vq, .string vz, .bool false]) := XI.out.belowS b9
                  
                  clear b9 BI OI XI hW9 x0 x1 x2 x3 x4 x5 x6 x7 x8 x9 
                  obtain ⟨x0, x1, x2, x3, x4, x5, x6, x7, x8, x9⟩ := box10 X9.out
                  go_wp2_with fail
                  go_quiet (fail)
                  obtain ⟨W0, hW0⟩ : ∃ W0, W9.drewN nq = W0 := ⟨_, rfl⟩
                  rw [hW0]
                  have b0 : Below W9.heap.size W9 W0 := by rw [← hW0]; exact below_drewN (Below.refl _ _) _
                  have B0 : Hid (Below w.heap.size w W0) := B9.out.trans (b0.mono B9.out.size)
                  have O0 : Hid (W0.ownsRow w.heap.size 40 7 (.slice none 0 0) 0 (cellsR L)) := own_below O9.out b0
                  have X0 : Hid (Box W0 B7 42 #[.int .i64 vse, .int .i64 vtb, .int .i64 vi, .int .i64 va, .int .i64 vb, .string vt, .int .i64 vp, .int .i64 vq, .string vz, .bool false]) := X9.out.belowS b0
                  have SB0 := B0.out.size
                  clear hW0 b0 B9 O9 X9 x0 x1 x2 x3 x4 x5 x6 x7 x8 x9 
                  obtain ⟨x0, x1, x2, x3, x4, x5, x6, x7, x8, x9⟩ := box10 X0.out
                  obtain ⟨W1, hW1⟩ : ∃ W1, W0.alloc (.cells #[] 40) = W1 := ⟨_, rfl⟩
                  have b1 : Below W0.heap.size W0 W1 := by rw [← hW1]; exact (Below.refl _ _).alloc (Nat.le_refl _) _
                  have O1 : Hid (W1.ownsRow w.heap.size 40 7 (.slice none 0 0) 0 (cellsR L)) := own_below O0.out b1
                  have N1 : Hid (W1.ownsRow W0.heap.size 40 7 (.slice (some ⟨W0.heap.size, 0, none⟩) 0 0) 0 []) := by unfold Hid; rw [← hW1]; exact lit0 W0 _ (Nat.le_refl _)
                  have s1 := b1.size
                  have B1 : Hid (Below W0.heap.size W0 W1) := b1
                  have hs := head_src O1.out 0 (by omega)
                  clear b1
                  go_wp2_with (first
                    | (at_builtin
                       refine app_any _ rfl (.tmp 65) (.tmp 68) 24 rfl W0.heap.size 40 i0 (.agg #[.int .i64 0, .int .i64 0, .int .i64 0, .string ⟨#[]⟩, .int .i64 0, .int .i64 0, .string ⟨#[]⟩]) 7 72 Try.underlying24 hi hz0 hz1 hz2 rfl (by omega) (.slice (some ⟨W0.heap.size, 0, none⟩) 0 0) 0 [] rfl N1.out none 0 0 (cellsR (L.take 0)) rfl hs.1 (by rw [cellsR_len, List.length_take]; omega) hs.2 (fun u hu => oneR _ u hu) (by unfold maxLen; omega) (by omega) s1 ?_
                       intro a2 c2 w2 o2 g2 k2
                       rw [Nat.zero_add, List.nil_append] at o2
                       have b2 : Below W0.heap.size W0 w2 := B1.out.grown g2 s1 (fun x hx => Nat.le_of_eq (Option.some.inj hx))
                       have N2 : Hid (w2.ownsRow W0.heap.size 40 7 (.slice a2 0 c2) 0 (cellsR (L.take 0))) := o2
                       have O2 : Hid (w2.ownsRow w.heap.size 40 7 (.slice none 0 0) 0 (cellsR L)) := own_below O0.out b2
                       have B2 : Hid (Below W0.heap.size W0 w2) := b2
                       have s2 := b2.size
                       have X2 : Hid (Box w2 B7 42 #[.int .i64 vse, .int .i64 vtb, .int .i64 vi, .int .i64 va, .int .i64 vb, .string vt, .int .i64 vp, .int .i64 vq, .string vz, .bool false]) := X0.out.belowS b2
                       have HB2 : Hid (∀ g, ob a2 = some g → W0.heap.size ≤ g) := fun g hg => (own_blk N2.out g hg).1
                       clear o2 g2 k2 b2 hs N1 O1 B1 hW1 x0 x1 x2 x3 x4 x5 x6 x7 x8 x9
                       obtain ⟨x0, x1, x2, x3, x4, x5, x6, x7, x8, x9⟩ := box10 X2.out
                       obtain ⟨W3, hW3⟩ : ∃ Q, w2.alloc (.cells #[.int .i64 vi, .int .i64 va, .int .i64 vb, .string vt, .int .i64 vp, .int .i64 vq, .string vz] 40) = Q := ⟨_, rfl⟩
                       have hb3 : Below w2.heap.size w2 W3 := by rw [← hW3]; exact (Below.refl _ _).alloc (Nat.le_refl _) _
                       have N3 : Hid (W3.ownsRow W0.heap.size 40 7 (.slice a2 0 c2) 0 (cellsR (L.take 0))) := own_below N2.out hb3
                       have hv3 : W3.heap[w2.heap.size]? = some (.cells (cR ((⟨vi, va, vb, vt, vp, vq, vz⟩) : RW)).toArray 40 (0, 0)) := by rw [← hW3]; show (w2.heap.push _)[w2.heap.size]? = _; simp [cR]
                       have B3 : Hid (Below W0.heap.size W0 W3) := B2.out.trans (hb3.mono s2)
                       have s3 := B3.out.size
                       have hV3 : Hid (_) := boxSrc hv3
                       clear hb3 N2 O2 B2 hv3)
                    | (at_builtin
                       refine app_any _ rfl (.tmp 73) (.tmp 76) 24 rfl W0.heap.size 40 i0 (.agg #[.int .i64 0, .int .i64 0, .int .i64 0, .string ⟨#[]⟩, .int .i64 0, .int .i64 0, .string ⟨#[]⟩]) 7 72 Try.underlying24 hi hz0 hz1 hz2 rfl (by omega) (.slice a2 0 c2) 0 (cellsR (L.take 0)) rfl N3.out (some ⟨w2.heap.size, 0, none⟩) 1 1 (cR ⟨vi, va, vb, vt, vp, vq, vz⟩) rfl (fun e => by cases e) rfl (fun ad e => by cases e; exact hV3.out) (fun u hu => oneR [⟨vi, va, vb, vt, vp, vq, vz⟩] u (by rw [cellsR_one]; exact hu)) (by unfold maxLen; omega) (by omega) s3 ?_
                       intro a4 c4 w4 o4 g4 k4
                       have b4 : Below W0.heap.size W0 w4 := B3.out.grown g4 s3 (fun x hx => HB2.out x (by rw [ob_slice] at hx; exact hx))
                       have N4 : Hid (w4.ownsRow W0.heap.size 40 7 (.slice a4 (0 + 1) c4) (0 + 1) (cellsR (L.take 0 ++ [⟨vi, va, vb, vt, vp, vq, vz⟩]))) := by unfold Hid; rw [cellsR_append, cellsR_one]; exact o4
                       have O4 : Hid (w4.ownsRow w.heap.size 40 7 (.slice none 0 0) 0 (cellsR L)) := own_below O0.out b4
                       have B4 : Hid (Below W0.heap.size W0 w4) := b4
                       have s4 := b4.size
                       have HB4 : Hid (∀ g, ob a4 = some g → W0.heap.size ≤ g) := fun g hg => (own_blk N4.out g hg).1
                       have rs : Hid (_) := True.intro
                       clear o4 g4 k4 b4 N3 B3 HB2 hV3 hW3 x0 x1 x2 x3 x4 x5 x6 x7 x8 x9 X2)
                    | (at_builtin
                       refine app_any _ rfl (.tmp 78) (.tmp 79) 24 rfl W0.heap.size 40 i0 (.agg #[.int .i64 0, .int .i64 0, .int .i64 0, .string ⟨#[]⟩, .int .i64 0, .int .i64 0, .string ⟨#[]⟩]) 7 72 Try.underlying24 hi hz0 hz1 hz2 rfl (by omega) (.slice a4 (0 + 1) c4) (0 + 1) (cellsR (L.take 0 ++ [⟨vi, va, vb, vt, vp, vq, vz⟩])) rfl N4.out _ _ _ (cellsR (L.drop (0))) rfl (fun _ => ⟨rfl, rfl⟩) (by rw [cellsR_len, List.length_drop]; omega) (fun ad e j u hu => rest_nil (by omega) hu) (fun u hu => oneR _ u hu) (by unfold maxLen; omega) (by omega) s4 ?_
                       intro a5 c5 w5 o5 g5 k5
                       have B5 : Hid (Below w.heap.size w w5) := B0.out.trans ((B4.out.grown g5 s4 (fun x hx => HB4.out x (by rw [ob_slice] at hx; exact hx))).mono SB0)
                       rw [← cellsR_append] at o5
                       have EL : L.take 0 ++ [⟨vi, va, vb, vt, vp, vq, vz⟩] ++ L.drop (0) = foldR tb (vs.take (k + 1)) := by rw [EN.out] <;> simp
                       rw [EL] at o5
                       have O5 : Hid (w5.ownsRow w.heap.size 40 7 _ _ (cellsR (foldR tb (vs.take (k + 1))))) := own_mono o5 SB0
                       clear o5 g5 k5 EL rs))
                  go_roundw
                  case rel => exact ⟨k + 1, _, a5, c5, by omega, by go_num, rfl, O5, B5⟩
                  case measure => simp [intOf]; omega
                · have EN : Hid (foldR tb (vs.take (k + 1)) = L.take 0 ++ [] ++ L.drop (0)) := by unfold Hid; rw [HN.out]; unfold nextR; rw [show posR L vi = 0 from HP.out, show hitR L vi = false from HH.out]; simp [rowC]
                  clear HN HP HH
                  go_wp2_with fail
                  go_quiet (fail)
                  obtain ⟨W9, hW9⟩ : ∃ W9, wr.drewN nq = W9 := ⟨_, rfl⟩
                  rw [hW9]
                  have b9 : Below wr.heap.size wr W9 := by rw [← hW9]; exact below_drewN (Below.refl _ _) _
                  have B9 : Hid (Below w.heap.size w W9) := BI.out.trans (b9.mono BI.out.size)
                  have O9 : Hid (W9.ownsRow w.heap.size 40 7 (.slice none 0 0) 0 (cellsR L)) := own_below OI.out b9
                  have X9 : Hid (Box W9 B7 42 #[.int .i64 vse, .int .i64 vtb, .int .i64 vi, .int .i64 va, .int .i64 vb, .string vt, .int .i64 vp, .int .i64 vq, .string vz, .bool true]) := XI.out.belowS b9
                  
                  clear b9 BI OI XI hW9 x0 x1 x2 x3 x4 x5 x6 x7 x8 x9 
                  obtain ⟨x0, x1, x2, x3, x4, x5, x6, x7, x8, x9⟩ := box10 X9.out
                  go_wp2_with fail
                  go_quiet (fail)
                  obtain ⟨W0, hW0⟩ : ∃ W0, W9.drewN nq = W0 := ⟨_, rfl⟩
                  rw [hW0]
                  have b0 : Below W9.heap.size W9 W0 := by rw [← hW0]; exact below_drewN (Below.refl _ _) _
                  have B0 : Hid (Below w.heap.size w W0) := B9.out.trans (b0.mono B9.out.size)
                  have O0 : Hid (W0.ownsRow w.heap.size 40 7 (.slice none 0 0) 0 (cellsR L)) := own_below O9.out b0
                  have X0 : Hid (Box W0 B7 42 #[.int .i64 vse, .int .i64 vtb, .int .i64 vi, .int .i64 va, .int .i64 vb, .string vt, .int .i64 vp, .int .i64 vq, .string vz, .bool true]) := X9.out.belowS b0
                  have SB0 := B0.out.size
                  clear hW0 b0 B9 O9 X9 x0 x1 x2 x3 x4 x5 x6 x7 x8 x9 
                  obtain ⟨x0, x1, x2, x3, x4, x5, x6, x7, x8, x9⟩ := box10 X0.out
                  obtain ⟨W1, hW1⟩ : ∃ W1, W0.alloc (.cells #[] 40) = W1 := ⟨_, rfl⟩
                  have b1 : Below W0.heap.size W0 W1 := by rw [← hW1]; exact (Below.refl _ _).alloc (Nat.le_refl _) _
                  have O1 : Hid (W1.ownsRow w.heap.size 40 7 (.slice none 0 0) 0 (cellsR L)) := own_below O0.out b1
                  have N1 : Hid (W1.ownsRow W0.heap.size 40 7 (.slice (some ⟨W0.heap.size, 0, none⟩) 0 0) 0 []) := by unfold Hid; rw [← hW1]; exact lit0 W0 _ (Nat.le_refl _)
                  have s1 := b1.size
                  have B1 : Hid (Below W0.heap.size W0 W1) := b1
                  have hs := head_src O1.out 0 (by omega)
                  clear b1
                  go_wp2_with (first
                    | (at_builtin
                       refine app_any _ rfl (.tmp 65) (.tmp 68) 24 rfl W0.heap.size 40 i0 (.agg #[.int .i64 0, .int .i64 0, .int .i64 0, .string ⟨#[]⟩, .int .i64 0, .int .i64 0, .string ⟨#[]⟩]) 7 72 Try.underlying24 hi hz0 hz1 hz2 rfl (by omega) (.slice (some ⟨W0.heap.size, 0, none⟩) 0 0) 0 [] rfl N1.out none 0 0 (cellsR (L.take 0)) rfl hs.1 (by rw [cellsR_len, List.length_take]; omega) hs.2 (fun u hu => oneR _ u hu) (by unfold maxLen; omega) (by omega) s1 ?_
                       intro a2 c2 w2 o2 g2 k2
                       rw [Nat.zero_add, List.nil_append] at o2
                       have b2 : Below W0.heap.size W0 w2 := B1.out.grown g2 s1 (fun x hx => Nat.le_of_eq (Option.some.inj hx))
                       have N2 : Hid (w2.ownsRow W0.heap.size 40 7 (.slice a2 0 c2) 0 (cellsR (L.take 0))) := o2
                       have O2 : Hid (w2.ownsRow w.heap.size 40 7 (.slice none 0 0) 0 (cellsR L)) := own_below O0.out b2
                       have B2 : Hid (Below W0.heap.size W0 w2) := b2
                       have s2 := b2.size
                       have X2 : Hid (Box w2 B7 42 #[.int .i64 vse, .int .i64 vtb, .int .i64 vi, .int .i64 va, .int .i64 vb, .string vt, .int .i64 vp, .int .i64 vq, .string vz, .bool true]) := X0.out.belowS b2
                       have HB2 : Hid (∀ g, ob a2 = some g → W0.heap.size ≤ g) := fun g hg => (own_blk N2.out g hg).1
                       clear o2 g2 k2 b2 hs N1 O1 B1 hW1 x0 x1 x2 x3 x4 x5 x6 x7 x8 x9
                       obtain ⟨x0, x1, x2, x3, x4, x5, x6, x7, x8, x9⟩ := box10 X2.out
                       have rs : Hid (_) := True.intro)
                    | (at_builtin
                       refine app_any _ rfl (.tmp 78) (.tmp 79) 24 rfl W0.heap.size 40 i0 (.agg #[.int .i64 0, .int .i64 0, .int .i64 0, .string ⟨#[]⟩, .int .i64 0, .int .i64 0, .string ⟨#[]⟩]) 7 72 Try.underlying24 hi hz0 hz1 hz2 rfl (by omega) (.slice a2 0 c2) 0 (cellsR (L.take 0)) rfl N2.out _ _ _ (cellsR (L.drop (0))) rfl (fun _ => ⟨rfl, rfl⟩) (by rw [cellsR_len, List.length_drop]; omega) (fun ad e j u hu => rest_nil (by omega) hu) (fun u hu => oneR _ u hu) (by unfold maxLen; omega) (by omega) s2 ?_
                       intro a5 c5 w5 o5 g5 k5
                       have B5 : Hid (Below w.heap.size w w5) := B0.out.trans ((B2.out.grown g5 s2 (fun x hx => HB2.out x (by rw [ob_slice] at hx; exact hx))).mono SB0)
                       rw [← cellsR_append] at o5
                       have EL : L.take 0 ++ L.drop (0) = foldR tb (vs.take (k + 1)) := by rw [EN.out] <;> simp
                       rw [EL] at o5
                       have O5 : Hid (w5.ownsRow w.heap.size 40 7 _ _ (cellsR (foldR tb (vs.take (k + 1))))) := own_mono o5 SB0
                       clear o5 g5 k5 EL rs))
                  go_roundw
                  case rel => exact ⟨k + 1, _, a5, c5, by omega, by go_num, rfl, O5, B5⟩
                  case measure => simp [intOf]; omega
              · simp only [Value.slice.injEq] at hsl
                obtain ⟨rfl, hm9', hcc⟩ := hsl
                clear hcc hm9'
                have hmp : p = m := by omega
                subst hmp
                clear hpl
                by_cases hcf : c' = p
                · have hcf' : p = c' := hcf.symm
                  subst hcf'
                  clear hcf
                  cases vg
                  · have EN : Hid (foldR tb (vs.take (k + 1)) = L.take p ++ [⟨vi, va, vb, vt, vp, vq, vz⟩] ++ L.drop (p)) := by unfold Hid; rw [HN.out]; unfold nextR; rw [show posR L vi = p from HP.out, show hitR L vi = false from HH.out]; simp [rowC]
                    clear HN HP HH
                    go_wp2_with fail
                    go_quiet (fail)
                    obtain ⟨W9, hW9⟩ : ∃ W9, wr.drewN nq = W9 := ⟨_, rfl⟩
                    rw [hW9]
                    have b9 : Below wr.heap.size wr W9 := by rw [← hW9]; exact below_drewN (Below.refl _ _) _
                    have B9 : Hid (Below w.heap.size w W9) := BI.out.trans (b9.mono BI.out.size)
                    have O9 : Hid (W9.ownsRow w.heap.size 40 7 (.slice (some ⟨g, 0, none⟩) p p) p (cellsR L)) := own_below OI.out b9
                    have X9 : Hid (Box W9 B7 42 #[.int .i64 vse, .int .i64 vtb, .int .i64 vi, .int .i64 va, .int .i64 vb, .string vt, .int .i64 vp, .int .i64 vq, .string vz, .bool false]) := XI.out.belowS b9
                    
                    clear b9 BI OI XI hW9 x0 x1 x2 x3 x4 x5 x6 x7 x8 x9 
                    obtain ⟨x0, x1, x2, x3, x4, x5, x6, x7, x8, x9⟩ := box10 X9.out
                    go_wp2_with fail
                    go_quiet (fail)
                    obtain ⟨W0, hW0⟩ : ∃ W0, W9.drewN nq = W0 := ⟨_, rfl⟩
                    rw [hW0]
                    have b0 : Below W9.heap.size W9 W0 := by rw [← hW0]; exact below_drewN (Below.refl _ _) _
                    have B0 : Hid (Below w.heap.size w W0) := B9.out.trans (b0.mono B9.out.size)
                    have O0 : Hid (W0.ownsRow w.heap.size 40 7 (.slice (some ⟨g, 0, none⟩) p p) p (cellsR L)) := own_below O9.out b0
                    have X0 : Hid (Box W0 B7 42 #[.int .i64 vse, .int .i64 vtb, .int .i64 vi, .int .i64 va, .int .i64 vb, .string vt, .int .i64 vp, .int .i64 vq, .string vz, .bool false]) := X9.out.belowS b0
                    have SB0 := B0.out.size
                    clear hW0 b0 B9 O9 X9 x0 x1 x2 x3 x4 x5 x6 x7 x8 x9 
                    obtain ⟨x0, x1, x2, x3, x4, x5, x6, x7, x8, x9⟩ := box10 X0.out
                    obtain ⟨W1, hW1⟩ : ∃ W1, W0.alloc (.cells #[] 40) = W1 := ⟨_, rfl⟩
                    have b1 : Below W0.heap.size W0 W1 := by rw [← hW1]; exact (Below.refl _ _).alloc (Nat.le_refl _) _
                    have O1 : Hid (W1.ownsRow w.heap.size 40 7 (.slice (some ⟨g, 0, none⟩) p p) p (cellsR L)) := own_below O0.out b1
                    have N1 : Hid (W1.ownsRow W0.heap.size 40 7 (.slice (some ⟨W0.heap.size, 0, none⟩) 0 0) 0 []) := by unfold Hid; rw [← hW1]; exact lit0 W0 _ (Nat.le_refl _)
                    have s1 := b1.size
                    have B1 : Hid (Below W0.heap.size W0 W1) := b1
                    have hs := head_src O1.out p (by omega)
                    clear b1
                    go_wp2_with (first
                      | (at_builtin
                         refine app_any _ rfl (.tmp 65) (.tmp 68) 24 rfl W0.heap.size 40 i0 (.agg #[.int .i64 0, .int .i64 0, .int .i64 0, .string ⟨#[]⟩, .int .i64 0, .int .i64 0, .string ⟨#[]⟩]) 7 72 Try.underlying24 hi hz0 hz1 hz2 rfl (by omega) (.slice (some ⟨W0.heap.size, 0, none⟩) 0 0) 0 [] rfl N1.out (some ⟨g, 0, none⟩) p p (cellsR (L.take p)) rfl hs.1 (by rw [cellsR_len, List.length_take]; omega) hs.2 (fun u hu => oneR _ u hu) (by unfold maxLen; omega) (by omega) s1 ?_
                         intro a2 c2 w2 o2 g2 k2
                         rw [Nat.zero_add, List.nil_append] at o2
                         have b2 : Below W0.heap.size W0 w2 := B1.out.grown g2 s1 (fun x hx => Nat.le_of_eq (Option.some.inj hx))
                         have N2 : Hid (w2.ownsRow W0.heap.size 40 7 (.slice a2 p c2) p (cellsR (L.take p))) := o2
                         have O2 : Hid (w2.ownsRow w.heap.size 40 7 (.slice (some ⟨g, 0, none⟩) p p) p (cellsR L)) := own_below O0.out b2
                         have B2 : Hid (Below W0.heap.size W0 w2) := b2
                         have s2 := b2.size
                         have X2 : Hid (Box w2 B7 42 #[.int .i64 vse, .int .i64 vtb, .int .i64 vi, .int .i64 va, .int .i64 vb, .string vt, .int .i64 vp, .int .i64 vq, .string vz, .bool false]) := X0.out.belowS b2
                         have HB2 : Hid (∀ g, ob a2 = some g → W0.heap.size ≤ g) := fun g hg => (own_blk N2.out g hg).1
                         clear o2 g2 k2 b2 hs N1 O1 B1 hW1 x0 x1 x2 x3 x4 x5 x6 x7 x8 x9
                         obtain ⟨x0, x1, x2, x3, x4, x5, x6, x7, x8, x9⟩ := box10 X2.out
                         obtain ⟨W3, hW3⟩ : ∃ Q, w2.alloc (.cells #[.int .i64 vi, .int .i64 va, .int .i64 vb, .string vt, .int .i64 vp, .int .i64 vq, .string vz] 40) = Q := ⟨_, rfl⟩
                         have hb3 : Below w2.heap.size w2 W3 := by rw [← hW3]; exact (Below.refl _ _).alloc (Nat.le_refl _) _
                         have N3 : Hid (W3.ownsRow W0.heap.size 40 7 (.slice a2 p c2) p (cellsR (L.take p))) := own_below N2.out hb3
                         have hv3 : W3.heap[w2.heap.size]? = some (.cells (cR ((⟨vi, va, vb, vt, vp, vq, vz⟩) : RW)).toArray 40 (0, 0)) := by rw [← hW3]; show (w2.heap.push _)[w2.heap.size]? = _; simp [cR]
                         have B3 : Hid (Below W0.heap.size W0 W3) := B2.out.trans (hb3.mono s2)
                         have s3 := B3.out.size
                         have hV3 : Hid (_) := boxSrc hv3
                         clear hb3 N2 O2 B2 hv3)
                      | (at_builtin
                         refine app_any _ rfl (.tmp 73) (.tmp 76) 24 rfl W0.heap.size 40 i0 (.agg #[.int .i64 0, .int .i64 0, .int .i64 0, .string ⟨#[]⟩, .int .i64 0, .int .i64 0, .string ⟨#[]⟩]) 7 72 Try.underlying24 hi hz0 hz1 hz2 rfl (by omega) (.slice a2 p c2) p (cellsR (L.take p)) rfl N3.out (some ⟨w2.heap.size, 0, none⟩) 1 1 (cR ⟨vi, va, vb, vt, vp, vq, vz⟩) rfl (fun e => by cases e) rfl (fun ad e => by cases e; exact hV3.out) (fun u hu => oneR [⟨vi, va, vb, vt, vp, vq, vz⟩] u (by rw [cellsR_one]; exact hu)) (by unfold maxLen; omega) (by omega) s3 ?_
                         intro a4 c4 w4 o4 g4 k4
                         have b4 : Below W0.heap.size W0 w4 := B3.out.grown g4 s3 (fun x hx => HB2.out x (by rw [ob_slice] at hx; exact hx))
                         have N4 : Hid (w4.ownsRow W0.heap.size 40 7 (.slice a4 (p + 1) c4) (p + 1) (cellsR (L.take p ++ [⟨vi, va, vb, vt, vp, vq, vz⟩]))) := by unfold Hid; rw [cellsR_append, cellsR_one]; exact o4
                         have O4 : Hid (w4.ownsRow w.heap.size 40 7 (.slice (some ⟨g, 0, none⟩) p p) p (cellsR L)) := own_below O0.out b4
                         have B4 : Hid (Below W0.heap.size W0 w4) := b4
                         have s4 := b4.size
                         have HB4 : Hid (∀ g, ob a4 = some g → W0.heap.size ≤ g) := fun g hg => (own_blk N4.out g hg).1
                         have rs : Hid (_) := True.intro
                         clear o4 g4 k4 b4 N3 B3 HB2 hV3 hW3 x0 x1 x2 x3 x4 x5 x6 x7 x8 x9 X2)
                      | (at_builtin
                         refine app_any _ rfl (.tmp 78) (.tmp 79) 24 rfl W0.heap.size 40 i0 (.agg #[.int .i64 0, .int .i64 0, .int .i64 0, .string ⟨#[]⟩, .int .i64 0, .int .i64 0, .string ⟨#[]⟩]) 7 72 Try.underlying24 hi hz0 hz1 hz2 rfl (by omega) (.slice a4 (p + 1) c4) (p + 1) (cellsR (L.take p ++ [⟨vi, va, vb, vt, vp, vq, vz⟩])) rfl N4.out _ _ _ (cellsR (L.drop (p))) rfl (fun e => by cases e) (by rw [cellsR_len, List.length_drop]; omega) (fun ad e j u hu => rest_nil (by omega) hu) (fun u hu => oneR _ u hu) (by unfold maxLen; omega) (by omega) s4 ?_
                         intro a5 c5 w5 o5 g5 k5
                         have B5 : Hid (Below w.heap.size w w5) := B0.out.trans ((B4.out.grown g5 s4 (fun x hx => HB4.out x (by rw [ob_slice] at hx; exact hx))).mono SB0)
                         rw [← cellsR_append] at o5
                         have EL : L.take p ++ [⟨vi, va, vb, vt, vp, vq, vz⟩] ++ L.drop (p) = foldR tb (vs.take (k + 1)) := by rw [EN.out] <;> simp
                         rw [EL] at o5
                         have O5 : Hid (w5.ownsRow w.heap.size 40 7 _ _ (cellsR (foldR tb (vs.take (k + 1))))) := own_mono o5 SB0
                         clear o5 g5 k5 EL rs))
                    go_roundw
                    case rel => exact ⟨k + 1, _, a5, c5, by omega, by go_num, rfl, O5, B5⟩
                    case measure => simp [intOf]; omega
                  · have EN : Hid (foldR tb (vs.take (k + 1)) = L.take p ++ [] ++ L.drop (p)) := by unfold Hid; rw [HN.out]; unfold nextR; rw [show posR L vi = p from HP.out, show hitR L vi = false from HH.out]; simp [rowC]
                    clear HN HP HH
                    go_wp2_with fail
                    go_quiet (fail)
                    obtain ⟨W9, hW9⟩ : ∃ W9, wr.drewN nq = W9 := ⟨_, rfl⟩
                    rw [hW9]
                    have b9 : Below wr.heap.size wr W9 := by rw [← hW9]; exact below_drewN (Below.refl _ _) _
                    have B9 : Hid (Below w.heap.size w W9) := BI.out.trans (b9.mono BI.out.size)
                    have O9 : Hid (W9.ownsRow w.heap.size 40 7 (.slice (some ⟨g, 0, none⟩) p p) p (cellsR L)) := own_below OI.out b9
                    have X9 : Hid (Box W9 B7 42 #[.int .i64 vse, .int .i64 vtb, .int .i64 vi, .int .i64 va, .int .i64 vb, .string vt, .int .i64 vp, .int .i64 vq, .string vz, .bool true]) := XI.out.belowS b9
                    
                    clear b9 BI OI XI hW9 x0 x1 x2 x3 x4 x5 x6 x7 x8 x9 
                    obtain ⟨x0, x1, x2, x3, x4, x5, x6, x7, x8, x9⟩ := box10 X9.out
                    go_wp2_with fail
                    go_quiet (fail)
                    obtain ⟨W0, hW0⟩ : ∃ W0, W9.drewN nq = W0 := ⟨_, rfl⟩
                    rw [hW0]
                    have b0 : Below W9.heap.size W9 W0 := by rw [← hW0]; exact below_drewN (Below.refl _ _) _
                    have B0 : Hid (Below w.heap.size w W0) := B9.out.trans (b0.mono B9.out.size)
                    have O0 : Hid (W0.ownsRow w.heap.size 40 7 (.slice (some ⟨g, 0, none⟩) p p) p (cellsR L)) := own_below O9.out b0
                    have X0 : Hid (Box W0 B7 42 #[.int .i64 vse, .int .i64 vtb, .int .i64 vi, .int .i64 va, .int .i64 vb, .string vt, .int .i64 vp, .int .i64 vq, .string vz, .bool true]) := X9.out.belowS b0
                    have SB0 := B0.out.size
                    clear hW0 b0 B9 O9 X9 x0 x1 x2 x3 x4 x5 x6 x7 x8 x9 
                    obtain ⟨x0, x1, x2, x3, x4, x5, x6, x7, x8, x9⟩ := box10 X0.out
                    obtain ⟨W1, hW1⟩ : ∃ W1, W0.alloc (.cells #[] 40) = W1 := ⟨_, rfl⟩
                    have b1 : Below W0.heap.size W0 W1 := by rw [← hW1]; exact (Below.refl _ _).alloc (Nat.le_refl _) _
                    have O1 : Hid (W1.ownsRow w.heap.size 40 7 (.slice (some ⟨g, 0, none⟩) p p) p (cellsR L)) := own_below O0.out b1
                    have N1 : Hid (W1.ownsRow W0.heap.size 40 7 (.slice (some ⟨W0.heap.size, 0, none⟩) 0 0) 0 []) := by unfold Hid; rw [← hW1]; exact lit0 W0 _ (Nat.le_refl _)
                    have s1 := b1.size
                    have B1 : Hid (Below W0.heap.size W0 W1) := b1
                    have hs := head_src O1.out p (by omega)
                    clear b1
                    go_wp2_with (first
                      | (at_builtin
                         refine app_any _ rfl (.tmp 65) (.tmp 68) 24 rfl W0.heap.size 40 i0 (.agg #[.int .i64 0, .int .i64 0, .int .i64 0, .string ⟨#[]⟩, .int .i64 0, .int .i64 0, .string ⟨#[]⟩]) 7 72 Try.underlying24 hi hz0 hz1 hz2 rfl (by omega) (.slice (some ⟨W0.heap.size, 0, none⟩) 0 0) 0 [] rfl N1.out (some ⟨g, 0, none⟩) p p (cellsR (L.take p)) rfl hs.1 (by rw [cellsR_len, List.length_take]; omega) hs.2 (fun u hu => oneR _ u hu) (by unfold maxLen; omega) (by omega) s1 ?_
                         intro a2 c2 w2 o2 g2 k2
                         rw [Nat.zero_add, List.nil_append] at o2
                         have b2 : Below W0.heap.size W0 w2 := B1.out.grown g2 s1 (fun x hx => Nat.le_of_eq (Option.some.inj hx))
                         have N2 : Hid (w2.ownsRow W0.heap.size 40 7 (.slice a2 p c2) p (cellsR (L.take p))) := o2
                         have O2 : Hid (w2.ownsRow w.heap.size 40 7 (.slice (some ⟨g, 0, none⟩) p p) p (cellsR L)) := own_below O0.out b2
                         have B2 : Hid (Below W0.heap.size W0 w2) := b2
                         have s2 := b2.size
                         have X2 : Hid (Box w2 B7 42 #[.int .i64 vse, .int .i64 vtb, .int .i64 vi, .int .i64 va, .int .i64 vb, .string vt, .int .i64 vp, .int .i64 vq, .string vz, .bool true]) := X0.out.belowS b2
                         have HB2 : Hid (∀ g, ob a2 = some g → W0.heap.size ≤ g) := fun g hg => (own_blk N2.out g hg).1
                         clear o2 g2 k2 b2 hs N1 O1 B1 hW1 x0 x1 x2 x3 x4 x5 x6 x7 x8 x9
                         obtain ⟨x0, x1, x2, x3, x4, x5, x6, x7, x8, x9⟩ := box10 X2.out
                         have rs : Hid (_) := True.intro)
                      | (at_builtin
                         refine app_any _ rfl (.tmp 78) (.tmp 79) 24 rfl W0.heap.size 40 i0 (.agg #[.int .i64 0, .int .i64 0, .int .i64 0, .string ⟨#[]⟩, .int .i64 0, .int .i64 0, .string ⟨#[]⟩]) 7 72 Try.underlying24 hi hz0 hz1 hz2 rfl (by omega) (.slice a2 p c2) p (cellsR (L.take p)) rfl N2.out _ _ _ (cellsR (L.drop (p))) rfl (fun e => by cases e) (by rw [cellsR_len, List.length_drop]; omega) (fun ad e j u hu => rest_nil (by omega) hu) (fun u hu => oneR _ u hu) (by unfold maxLen; omega) (by omega) s2 ?_
                         intro a5 c5 w5 o5 g5 k5
                         have B5 : Hid (Below w.heap.size w w5) := B0.out.trans ((B2.out.grown g5 s2 (fun x hx => HB2.out x (by rw [ob_slice] at hx; exact hx))).mono SB0)
                         rw [← cellsR_append] at o5
                         have EL : L.take p ++ L.drop (p) = foldR tb (vs.take (k + 1)) := by rw [EN.out] <;> simp
                         rw [EL] at o5
                         have O5 : Hid (w5.ownsRow w.heap.size 40 7 _ _ (cellsR (foldR tb (vs.take (k + 1))))) := own_mono o5 SB0
                         clear o5 g5 k5 EL rs))
                    go_roundw
                    case rel => exact ⟨k + 1, _, a5, c5, by omega, by go_num, rfl, O5, B5⟩
                    case measure => simp [intOf]; omega
                · cases vg
                  · have EN : Hid (foldR tb (vs.take (k + 1)) = L.take p ++ [⟨vi, va, vb, vt, vp, vq, vz⟩] ++ L.drop (p)) := by unfold Hid; rw [HN.out]; unfold nextR; rw [show posR L vi = p from HP.out, show hitR L vi = false from HH.out]; simp [rowC]
                    clear HN HP HH
                    go_wp2_with fail
                    go_quiet (fail)
                    obtain ⟨W9, hW9⟩ : ∃ W9, wr.drewN nq = W9 := ⟨_, rfl⟩
                    rw [hW9]
                    have b9 : Below wr.heap.size wr W9 := by rw [← hW9]; exact below_drewN (Below.refl _ _) _
                    have B9 : Hid (Below w.heap.size w W9) := BI.out.trans (b9.mono BI.out.size)
                    have O9 : Hid (W9.ownsRow w.heap.size 40 7 (.slice (some ⟨g, 0, none⟩) p c') p (cellsR L)) := own_below OI.out b9
                    have X9 : Hid (Box W9 B7 42 #[.int .i64 vse, .int .i64 vtb, .int .i64 vi, .int .i64 va, .int .i64 vb, .string vt, .int .i64 vp, .int .i64 vq, .string vz, .bool false]) := XI.out.belowS b9
                    
                    clear b9 BI OI XI hW9 x0 x1 x2 x3 x4 x5 x6 x7 x8 x9 
                    obtain ⟨x0, x1, x2, x3, x4, x5, x6, x7, x8, x9⟩ := box10 X9.out
                    go_wp2_with fail
                    go_quiet (fail)
                    obtain ⟨W0, hW0⟩ : ∃ W0, W9.drewN nq = W0 := ⟨_, rfl⟩
                    rw [hW0]
                    have b0 : Below W9.heap.size W9 W0 := by rw [← hW0]; exact below_drewN (Below.refl _ _) _
                    have B0 : Hid (Below w.heap.size w W0) := B9.out.trans (b0.mono B9.out.size)
                    have O0 : Hid (W0.ownsRow w.heap.size 40 7 (.slice (some ⟨g, 0, none⟩) p c') p (cellsR L)) := own_below O9.out b0
                    have X0 : Hid (Box W0 B7 42 #[.int .i64 vse, .int .i64 vtb, .int .i64 vi, .int .i64 va, .int .i64 vb, .string vt, .int .i64 vp, .int .i64 vq, .string vz, .bool false]) := X9.out.belowS b0
                    have SB0 := B0.out.size
                    clear hW0 b0 B9 O9 X9 x0 x1 x2 x3 x4 x5 x6 x7 x8 x9 
                    obtain ⟨x0, x1, x2, x3, x4, x5, x6, x7, x8, x9⟩ := box10 X0.out
                    obtain ⟨W1, hW1⟩ : ∃ W1, W0.alloc (.cells #[] 40) = W1 := ⟨_, rfl⟩
                    have b1 : Below W0.heap.size W0 W1 := by rw [← hW1]; exact (Below.refl _ _).alloc (Nat.le_refl _) _
                    have O1 : Hid (W1.ownsRow w.heap.size 40 7 (.slice (some ⟨g, 0, none⟩) p c') p (cellsR L)) := own_below O0.out b1
                    have N1 : Hid (W1.ownsRow W0.heap.size 40 7 (.slice (some ⟨W0.heap.size, 0, none⟩) 0 0) 0 []) := by unfold Hid; rw [← hW1]; exact lit0 W0 _ (Nat.le_refl _)
                    have s1 := b1.size
                    have B1 : Hid (Below W0.heap.size W0 W1) := b1
                    have hs := head_src O1.out p (by omega)
                    clear b1
                    go_wp2_with (first
                      | (at_builtin
                         refine app_any _ rfl (.tmp 65) (.tmp 68) 24 rfl W0.heap.size 40 i0 (.agg #[.int .i64 0, .int .i64 0, .int .i64 0, .string ⟨#[]⟩, .int .i64 0, .int .i64 0, .string ⟨#[]⟩]) 7 72 Try.underlying24 hi hz0 hz1 hz2 rfl (by omega) (.slice (some ⟨W0.heap.size, 0, none⟩) 0 0) 0 [] rfl N1.out (some ⟨g, 0, none⟩) p c' (cellsR (L.take p)) rfl hs.1 (by rw [cellsR_len, List.length_take]; omega) hs.2 (fun u hu => oneR _ u hu) (by unfold maxLen; omega) (by omega) s1 ?_
                         intro a2 c2 w2 o2 g2 k2
                         rw [Nat.zero_add, List.nil_append] at o2
                         have b2 : Below W0.heap.size W0 w2 := B1.out.grown g2 s1 (fun x hx => Nat.le_of_eq (Option.some.inj hx))
                         have N2 : Hid (w2.ownsRow W0.heap.size 40 7 (.slice a2 p c2) p (cellsR (L.take p))) := o2
                         have O2 : Hid (w2.ownsRow w.heap.size 40 7 (.slice (some ⟨g, 0, none⟩) p c') p (cellsR L)) := own_below O0.out b2
                         have B2 : Hid (Below W0.heap.size W0 w2) := b2
                         have s2 := b2.size
                         have X2 : Hid (Box w2 B7 42 #[.int .i64 vse, .int .i64 vtb, .int .i64 vi, .int .i64 va, .int .i64 vb, .string vt, .int .i64 vp, .int .i64 vq, .string vz, .bool false]) := X0.out.belowS b2
                         have HB2 : Hid (∀ g, ob a2 = some g → W0.heap.size ≤ g) := fun g hg => (own_blk N2.out g hg).1
                         clear o2 g2 k2 b2 hs N1 O1 B1 hW1 x0 x1 x2 x3 x4 x5 x6 x7 x8 x9
                         obtain ⟨x0, x1, x2, x3, x4, x5, x6, x7, x8, x9⟩ := box10 X2.out
                         obtain ⟨W3, hW3⟩ : ∃ Q, w2.alloc (.cells #[.int .i64 vi, .int .i64 va, .int .i64 vb, .string vt, .int .i64 vp, .int .i64 vq, .string vz] 40) = Q := ⟨_, rfl⟩
                         have hb3 : Below w2.heap.size w2 W3 := by rw [← hW3]; exact (Below.refl _ _).alloc (Nat.le_refl _) _
                         have N3 : Hid (W3.ownsRow W0.heap.size 40 7 (.slice a2 p c2) p (cellsR (L.take p))) := own_below N2.out hb3
                         have hv3 : W3.heap[w2.heap.size]? = some (.cells (cR ((⟨vi, va, vb, vt, vp, vq, vz⟩) : RW)).toArray 40 (0, 0)) := by rw [← hW3]; show (w2.heap.push _)[w2.heap.size]? = _; simp [cR]
                         have B3 : Hid (Below W0.heap.size W0 W3) := B2.out.trans (hb3.mono s2)
                         have s3 := B3.out.size
                         have hV3 : Hid (_) := boxSrc hv3
                         clear hb3 N2 O2 B2 hv3)
                      | (at_builtin
                         refine app_any _ rfl (.tmp 73) (.tmp 76) 24 rfl W0.heap.size 40 i0 (.agg #[.int .i64 0, .int .i64 0, .int .i64 0, .string ⟨#[]⟩, .int .i64 0, .int .i64 0, .string ⟨#[]⟩]) 7 72 Try.underlying24 hi hz0 hz1 hz2 rfl (by omega) (.slice a2 p c2) p (cellsR (L.take p)) rfl N3.out (some ⟨w2.heap.size, 0, none⟩) 1 1 (cR ⟨vi, va, vb, vt, vp, vq, vz⟩) rfl (fun e => by cases e) rfl (fun ad e => by cases e; exact hV3.out) (fun u hu => oneR [⟨vi, va, vb, vt, vp, vq, vz⟩] u (by rw [cellsR_one]; exact hu)) (by unfold maxLen; omega) (by omega) s3 ?_
                         intro a4 c4 w4 o4 g4 k4
                         have b4 : Below W0.heap.size W0 w4 := B3.out.grown g4 s3 (fun x hx => HB2.out x (by rw [ob_slice] at hx; exact hx))
                         have N4 : Hid (w4.ownsRow W0.heap.size 40 7 (.slice a4 (p + 1) c4) (p + 1) (cellsR (L.take p ++ [⟨vi, va, vb, vt, vp, vq, vz⟩]))) := by unfold Hid; rw [cellsR_append, cellsR_one]; exact o4
                         have O4 : Hid (w4.ownsRow w.heap.size 40 7 (.slice (some ⟨g, 0, none⟩) p c') p (cellsR L)) := own_below O0.out b4
                         have B4 : Hid (Below W0.heap.size W0 w4) := b4
                         have s4 := b4.size
                         have HB4 : Hid (∀ g, ob a4 = some g → W0.heap.size ≤ g) := fun g hg => (own_blk N4.out g hg).1
                         have rs : Hid (_) := True.intro
                         clear o4 g4 k4 b4 N3 B3 HB2 hV3 hW3 x0 x1 x2 x3 x4 x5 x6 x7 x8 x9 X2)
                      | (at_builtin
                         refine app_any _ rfl (.tmp 78) (.tmp 79) 24 rfl W0.heap.size 40 i0 (.agg #[.int .i64 0, .int .i64 0, .int .i64 0, .string ⟨#[]⟩, .int .i64 0, .int .i64 0, .string ⟨#[]⟩]) 7 72 Try.underlying24 hi hz0 hz1 hz2 rfl (by omega) (.slice a4 (p + 1) c4) (p + 1) (cellsR (L.take p ++ [⟨vi, va, vb, vt, vp, vq, vz⟩])) rfl N4.out _ _ _ (cellsR (L.drop (p))) rfl (fun e => by cases e) (by rw [cellsR_len, List.length_drop]; omega) (fun ad e j u hu => rest_nil (by omega) hu) (fun u hu => oneR _ u hu) (by unfold maxLen; omega) (by omega) s4 ?_
                         intro a5 c5 w5 o5 g5 k5
                         have B5 : Hid (Below w.heap.size w w5) := B0.out.trans ((B4.out.grown g5 s4 (fun x hx => HB4.out x (by rw [ob_slice] at hx; exact hx))).mono SB0)
                         rw [← cellsR_append] at o5
                         have EL : L.take p ++ [⟨vi, va, vb, vt, vp, vq, vz⟩] ++ L.drop (p) = foldR tb (vs.take (k + 1)) := by rw [EN.out] <;> simp
                         rw [EL] at o5
                         have O5 : Hid (w5.ownsRow w.heap.size 40 7 _ _ (cellsR (foldR tb (vs.take (k + 1))))) := own_mono o5 SB0
                         clear o5 g5 k5 EL rs))
                    go_roundw
                    case rel => exact ⟨k + 1, _, a5, c5, by omega, by go_num, rfl, O5, B5⟩
                    case measure => simp [intOf]; omega
                  · have EN : Hid (foldR tb (vs.take (k + 1)) = L.take p ++ [] ++ L.drop (p)) := by unfold Hid; rw [HN.out]; unfold nextR; rw [show posR L vi = p from HP.out, show hitR L vi = false from HH.out]; simp [rowC]
                    clear HN HP HH
                    go_wp2_with fail
                    go_quiet (fail)
                    obtain ⟨W9, hW9⟩ : ∃ W9, wr.drewN nq = W9 := ⟨_, rfl⟩
                    rw [hW9]
                    have b9 : Below wr.heap.size wr W9 := by rw [← hW9]; exact below_drewN (Below.refl _ _) _
                    have B9 : Hid (Below w.heap.size w W9) := BI.out.trans (b9.mono BI.out.size)
                    have O9 : Hid (W9.ownsRow w.heap.size 40 7 (.slice (some ⟨g, 0, none⟩) p c') p (cellsR L)) := own_below OI.out b9
                    have X9 : Hid (Box W9 B7 42 #[.int .i64 vse, .int .i64 vtb, .int .i64 vi, .int .i64 va, .int .i64 vb, .string vt, .int .i64 vp, .int .i64 vq, .string vz, .bool true]) := XI.out.belowS b9
                    
                    clear b9 BI OI XI hW9 x0 x1 x2 x3 x4 x5 x6 x7 x8 x9 
                    obtain ⟨x0, x1, x2, x3, x4, x5, x6, x7, x8, x9⟩ := box10 X9.out
                    go_wp2_with fail
                    go_quiet (fail)
                    obtain ⟨W0, hW0⟩ : ∃ W0, W9.drewN nq = W0 := ⟨_, rfl⟩
                    rw [hW0]
                    have b0 : Below W9.heap.size W9 W0 := by rw [← hW0]; exact below_drewN (Below.refl _ _) _
                    have B0 : Hid (Below w.heap.size w W0) := B9.out.trans (b0.mono B9.out.size)
                    have O0 : Hid (W0.ownsRow w.heap.size 40 7 (.slice (some ⟨g, 0, none⟩) p c') p (cellsR L)) := own_below O9.out b0
                    have X0 : Hid (Box W0 B7 42 #[.int .i64 vse, .int .i64 vtb, .int .i64 vi, .int .i64 va, .int .i64 vb, .string vt, .int .i64 vp, .int .i64 vq, .string vz, .bool true]) := X9.out.belowS b0
                    have SB0 := B0.out.size
                    clear hW0 b0 B9 O9 X9 x0 x1 x2 x3 x4 x5 x6 x7 x8 x9 
                    obtain ⟨x0, x1, x2, x3, x4, x5, x6, x7, x8, x9⟩ := box10 X0.out
                    obtain ⟨W1, hW1⟩ : ∃ W1, W0.alloc (.cells #[] 40) = W1 := ⟨_, rfl⟩
                    have b1 : Below W0.heap.size W0 W1 := by rw [← hW1]; exact (Below.refl _ _).alloc (Nat.le_refl _) _
                    have O1 : Hid (W1.ownsRow w.heap.size 40 7 (.slice (some ⟨g, 0, none⟩) p c') p (cellsR L)) := own_below O0.out b1
                    have N1 : Hid (W1.ownsRow W0.heap.size 40 7 (.slice (some ⟨W0.heap.size, 0, none⟩) 0 0) 0 []) := by unfold Hid; rw [← hW1]; exact lit0 W0 _ (Nat.le_refl _)
                    have s1 := b1.size
                    have B1 : Hid (Below W0.heap.size W0 W1) := b1
                    have hs := head_src O1.out p (by omega)
                    clear b1
                    go_wp2_with (first
                      | (at_builtin
                         refine app_any _ rfl (.tmp 65) (.tmp 68) 24 rfl W0.heap.size 40 i0 (.agg #[.int .i64 0, .int .i64 0, .int .i64 0, .string ⟨#[]⟩, .int .i64 0, .int .i64 0, .string ⟨#[]⟩]) 7 72 Try.underlying24 hi hz0 hz1 hz2 rfl (by omega) (.slice (some ⟨W0.heap.size, 0, none⟩) 0 0) 0 [] rfl N1.out (some ⟨g, 0, none⟩) p c' (cellsR (L.take p)) rfl hs.1 (by rw [cellsR_len, List.length_take]; omega) hs.2 (fun u hu => oneR _ u hu) (by unfold maxLen; omega) (by omega) s1 ?_
                         intro a2 c2 w2 o2 g2 k2
                         rw [Nat.zero_add, List.nil_append] at o2
                         have b2 : Below W0.heap.size W0 w2 := B1.out.grown g2 s1 (fun x hx => Nat.le_of_eq (Option.some.inj hx))
                         have N2 : Hid (w2.ownsRow W0.heap.size 40 7 (.slice a2 p c2) p (cellsR (L.take p))) := o2
                         have O2 : Hid (w2.ownsRow w.heap.size 40 7 (.slice (some ⟨g, 0, none⟩) p c') p (cellsR L)) := own_below O0.out b2
                         have B2 : Hid (Below W0.heap.size W0 w2) := b2
                         have s2 := b2.size
                         have X2 : Hid (Box w2 B7 42 #[.int .i64 vse, .int .i64 vtb, .int .i64 vi, .int .i64 va, .int .i64 vb, .string vt, .int .i64 vp, .int .i64 vq, .string vz, .bool true]) := X0.out.belowS b2
                         have HB2 : Hid (∀ g, ob a2 = some g → W0.heap.size ≤ g) := fun g hg => (own_blk N2.out g hg).1
                         clear o2 g2 k2 b2 hs N1 O1 B1 hW1 x0 x1 x2 x3 x4 x5 x6 x7 x8 x9
                         obtain ⟨x0, x1, x2, x3, x4, x5, x6, x7, x8, x9⟩ := box10 X2.out
                         have rs : Hid (_) := True.intro)
                      | (at_builtin
                         refine app_any _ rfl (.tmp 78) (.tmp 79) 24 rfl W0.heap.size 40 i0 (.agg #[.int .i64 0, .int .i64 0, .int .i64 0, .string ⟨#[]⟩, .int .i64 0, .int .i64 0, .string ⟨#[]⟩]) 7 72 Try.underlying24 hi hz0 hz1 hz2 rfl (by omega) (.slice a2 p c2) p (cellsR (L.take p)) rfl N2.out _ _ _ (cellsR (L.drop (p))) rfl (fun e => by cases e) (by rw [cellsR_len, List.length_drop]; omega) (fun ad e j u hu => rest_nil (by omega) hu) (fun u hu => oneR _ u hu) (by unfold maxLen; omega) (by omega) s2 ?_
                         intro a5 c5 w5 o5 g5 k5
                         have B5 : Hid (Below w.heap.size w w5) := B0.out.trans ((B2.out.grown g5 s2 (fun x hx => HB2.out x (by rw [ob_slice] at hx; exact hx))).mono SB0)
                         rw [← cellsR_append] at o5
                         have EL : L.take p ++ L.drop (p) = foldR tb (vs.take (k + 1)) := by rw [EN.out] <;> simp
                         rw [EL] at o5
                         have O5 : Hid (w5.ownsRow w.heap.size 40 7 _ _ (cellsR (foldR tb (vs.take (k + 1))))) := own_mono o5 SB0
                         clear o5 g5 k5 EL rs))
                    go_roundw
                    case rel => exact ⟨k + 1, _, a5, c5, by omega, by go_num, rfl, O5, B5⟩
                    case measure => simp [intOf]; omega
      · have et : (vtb != tb) = true := by simp [ht]
        have EN : foldR tb (vs.take (k + 1)) = L := by rw [HST.out]; unfold stepR; rw [if_neg ht]
        have O2 : Hid (V.ownsRow w.heap.size 40 7 (.slice a' m c') m (cellsR (foldR tb (vs.take (k + 1))))) := by unfold Hid; rw [EN]; exact OV.out
        clear HST EN OV ht
        go_wp2
        go_roundw
        case rel => exact ⟨k + 1, m, a', c', by omega, by go_num, rfl, O2, BV⟩
        case measure => simp [intOf]; omega
    · have e : k = n := by omega
      subst e
      have HE := HO.out
      rw [List.take_of_length_le (by omega)] at HE
      have HE' : Hid (wr.ownsRow w.heap.size 40 7 (.slice a' m c') m (cellsR (foldR tb vs))) := HE
      clear HE HO hcs
      go_wp2
      go_ret
      exact ⟨⟨m, a', c', rfl, HE'.out⟩, hb.out⟩

end Go.Proofs.Ytiobobocjokgiaa
