/-
  AnswerText: the program.
-/
import Derived.Test.YtknjglgellhchaaDoorUa
import Derived.Test.YtknjglgellhchaaDoorBx
import Derived.Deep.RegionHeld3
namespace Go.Proofs.YtknjglgellhchaaDoor
open Go Go.RowKit
attribute [local go_sem ↓] Go.wp_at_zero Go.wp_at_succ

set_option linter.unusedVariables false
set_option linter.unusedSimpArgs false
theorem c_itoaB (n : Int) (h0 : -1000000000 ≤ n) (h1 : n ≤ 1000000000) (w : World) (T : TabP w) : Calls Tryd.prog 43 #[.int .i64 n] w fun e w' => e = .returned (.string (itB n)) ∧ Below w.heap.size w w' := by
  refine (c_itoa n h0 h1 w T).mono ?_
  rintro e w' ⟨rfl, k, os, rfl⟩
  exact ⟨rfl, grow_below k os⟩
theorem any_all (vs : List RW) : (vs.any (fun k => !rowK k)) = !(vs.all rowK) := by
  induction vs with
  | nil => rfl
  | cons x xs ih => simp [List.any_cons, List.all_cons, ih, Bool.not_and]
set_option maxRecDepth 100000 in
set_option maxHeartbeats 8000000 in
theorem c_implAT (a : Option Addr) (n c : Nat) (cn : Int) (vs : List RW) (w : World) (hr : RdR w a n vs) (hn : n ≤ 1048576) (hs : ∀ v ∈ vs, v.t.size ≤ maxLen ∧ v.z.size ≤ maxLen) (T : TabP w) :
    Calls Tryd.prog 25 #[.agg #[.slice a n c, .int .i64 cn]] w fun e w' => e = .returned (.tuple #[.string (ansS cn n vs), .int .i64 (ansE cn n vs)]) ∧ Below w.heap.size w w' := by
  obtain ⟨V, hV⟩ : ∃ W, w.alloc (.cells #[.slice a n c, .int .i64 cn] 63) = W := ⟨_, rfl⟩
  have BV : Hid (Below w.heap.size w V) := by unfold Hid; rw [← hV]; exact (Below.refl _ _).alloc (Nat.le_refl _) _
  have XV : Hid (Box V w.heap.size 63 #[.slice a n c, .int .i64 cn]) := by unfold Hid; rw [← hV]; exact Box.new _ _ _
  have TV : Hid (TabP V) := T.below BV.out
  have x0 : V.cell? ⟨w.heap.size, 0, none⟩ = some (.slice a n c) := XV.out.cell 0
  have x1 : V.cell? ⟨w.heap.size, 1, none⟩ = some (.int .i64 cn) := XV.out.cell 1
  by_cases h0 : cn < 0
  · have E : Hid (ansS cn n vs = ⟨#[]⟩ ∧ ansE cn n vs = 1) := ans_no (by unfold ansB inB; rw [decide_eq_false (show ¬ (0 ≤ cn ∧ cn ≤ 100) by omega)]; simp)
    go_enter Tryd.func25, Tryd.ntmps25
    go_wp2
    go_ret2
    exact ⟨by rw [E.out.1, E.out.2]; rfl, BV.out⟩
  by_cases h1 : 100 < cn
  · have E : Hid (ansS cn n vs = ⟨#[]⟩ ∧ ansE cn n vs = 1) := ans_no (by unfold ansB inB; rw [decide_eq_false (show ¬ (0 ≤ cn ∧ cn ≤ 100) by omega)]; simp)
    go_enter Tryd.func25, Tryd.ntmps25
    go_wp2
    go_ret2
    exact ⟨by rw [E.out.1, E.out.2]; rfl, BV.out⟩
  have hin : inB cn 0 100 = true := by unfold inB; simp; omega
  by_cases h2 : (100 : Int) < (n : Int)
  · have E : Hid (ansS cn n vs = ⟨#[]⟩ ∧ ansE cn n vs = 1) := ans_no (by unfold ansB; rw [decide_eq_false (show ¬ (n ≤ 100) by omega)]; simp)
    go_enter Tryd.func25, Tryd.ntmps25
    go_wp2
    go_ret2
    exact ⟨by rw [E.out.1, E.out.2]; rfl, BV.out⟩
  have h100 : n ≤ 100 := by omega
  have C := c_contR a n c vs V (hr.below BV.out) hn hs
  rw [any_all] at C
  cases hK : vs.all rowK
  · have E : Hid (ansS cn n vs = ⟨#[]⟩ ∧ ansE cn n vs = 1) := ans_no (by unfold ansB; rw [hK]; simp)
    rw [hK] at C
    clear hK
    go_enter Tryd.func25, Tryd.ntmps25
    go_wp2_with fail
    refine C.mono ?_
    rintro e w1 ⟨rfl, hb⟩
    have B1 : Hid (Below w.heap.size w w1) := BV.out.trans (hb.mono BV.out.size)
    clear hb C
    go_wp2
    go_ret2
    exact ⟨by rw [E.out.1, E.out.2]; rfl, B1.out⟩
  have E : Hid (ansS cn n vs = joinS (ansL cn vs) ∧ ansE cn n vs = 0) := ans_yes (by unfold ansB; rw [hin, decide_eq_true h100, hK]; rfl)
  rw [hK] at C
  have HK : Hid (∀ v ∈ vs, rowK v = true) := List.all_eq_true.1 hK
  have HSZ : Hid (∀ v ∈ vs, v.t.size ≤ maxLen ∧ v.z.size ≤ maxLen) := hs
  have HJ : Hid (∀ k, k ≤ 100 → (joinS (ansL cn (vs.take k))).size ≤ 10000) := fun k hk => ansJ_size cn vs k (by omega) (by omega) hk HK.out HSZ.out
  have HR : Hid (RdR V a n vs) := hr.below BV.out
  have hl : vs.length = n := hr.1
  have lV : V.heap.size = w.heap.size + 1 := by rw [← hV]; simp
  obtain ⟨iI, giV, gz0, gz1, gz2⟩ := info_parts infoStr
  have hiI : Hid (Tryd.prog.info? 9 = some iI) := giV
  have hz0 : Hid (iI.zero = some (.string ⟨#[]⟩)) := gz0
  have hz1 : Hid (iI.size = 1) := gz1
  have hz2 : Hid (iI.bytes = 16) := gz2
  obtain ⟨B, hB⟩ : ∃ B, B = w.heap.size + 1 := ⟨_, rfl⟩
  clear giV gz0 gz1 gz2 T hs hr hK hin
  go_enter Tryd.func25, Tryd.ntmps25
  go_wp2_with fail
  refine C.mono ?_
  rintro e w1 ⟨rfl, hb⟩
  have L1 : Hid (Below V.heap.size V w1) := hb
  have X1 : Hid (Box w1 w.heap.size 63 #[.slice a n c, .int .i64 cn]) := XV.out.belowS hb
  have C2 := c_itoaB cn (by omega) (by omega) w1 (TV.out.below hb)
  clear hb C hV x0 x1
  have x0 : w1.cell? ⟨w.heap.size, 0, none⟩ = some (.slice a n c) := X1.out.cell 0
  have x1 : w1.cell? ⟨w.heap.size, 1, none⟩ = some (.int .i64 cn) := X1.out.cell 1
  go_wp2_with fail
  refine C2.mono ?_
  rintro e w2 ⟨rfl, hb⟩
  have L2 : Hid (Below V.heap.size V w2) := L1.out.trans (hb.mono L1.out.size)
  have X2 : Hid (Box w2 w.heap.size 63 #[.slice a n c, .int .i64 cn]) := X1.out.belowS hb
  clear hb C2 x0 x1 L1 X1
  obtain ⟨w3, hw3⟩ : ∃ W, w2.alloc (.cells #[.string (itB cn)] 9) = W := ⟨_, rfl⟩
  have hb : Below w2.heap.size w2 w3 := by rw [← hw3]; exact (Below.refl _ _).alloc (Nat.le_refl _) _
  have L3 : Hid (Below V.heap.size V w3) := L2.out.trans (hb.mono L2.out.size)
  have X3 : Hid (Box w3 w.heap.size 63 #[.slice a n c, .int .i64 cn]) := X2.out.belowS hb
  have O3 : Hid (w3.ownsRow B 9 1 (.slice (some ⟨w2.heap.size, 0, none⟩) (0 + 1) 1) (0 + 1) (strs (ansL cn (vs.take 0)))) := by
    unfold Hid
    rw [← hw3]
    exact World.ownsRow_lit w2 #[.string (itB cn)] 1 (by have := L2.out.size; omega) (by unfold maxLen; omega) rfl
  clear hb
  have x0 : w3.cell? ⟨w.heap.size, 0, none⟩ = some (.slice a n c) := X3.out.cell 0
  go_wp2_with fail
  clear hw3 x0 X3 L2 X2
  go_loopw [4, 31] (fun s q wr => ∃ (k : Nat) (a' : Option Addr) (cap : Nat), k ≤ n ∧ s = .slice a' (k + 1) cap ∧ q = .int .i64 (k : Int) ∧ Hid (wr.ownsRow B 9 1 (.slice a' (k + 1) cap) (k + 1) (strs (ansL cn (vs.take k)))) ∧ Hid (Below V.heap.size V wr)) (fun _ q _ => n - (intOf q).toNat)
  case atStart => exact ⟨0, _, 1, by omega, rfl, rfl, O3, L3⟩
  case round =>
    clear O3 L3
    obtain ⟨k, a', cap, hk, rfl, rfl, O0, LW⟩ := hrel
    by_cases hlt : k < n
    · have BW := LW.out
      obtain ⟨b, off, rfl, hbl, hc⟩ := HR.out.2 (by omega)
      obtain ⟨⟨vi, va, vb, vt, vp, vq, vz⟩, hv⟩ : ∃ v, v = vs.getD k zeroR := ⟨_, rfl⟩
      obtain ⟨d0, d1, d2, d3, d4, d5, d6⟩ := RdR.at hc hlt hv
      dsimp only at d0 d1 d2 d3 d4 d5 d6
      have e0 : wr.cell? ⟨b, off + k * 7, none⟩ = some (.int .i64 vi) := by rw [BW.cell (p := ⟨b, off + k * 7, none⟩) hbl, d0]
      have e1 : wr.cell? ⟨b, off + k * 7 + 1, none⟩ = some (.int .i64 va) := by rw [BW.cell (p := ⟨b, off + k * 7 + 1, none⟩) hbl, d1]
      have e2 : wr.cell? ⟨b, off + k * 7 + 2, none⟩ = some (.int .i64 vb) := by rw [BW.cell (p := ⟨b, off + k * 7 + 2, none⟩) hbl, d2]
      have e3 : wr.cell? ⟨b, off + k * 7 + 3, none⟩ = some (.string vt) := by rw [BW.cell (p := ⟨b, off + k * 7 + 3, none⟩) hbl, d3]
      have e4 : wr.cell? ⟨b, off + k * 7 + 4, none⟩ = some (.int .i64 vp) := by rw [BW.cell (p := ⟨b, off + k * 7 + 4, none⟩) hbl, d4]
      have e5 : wr.cell? ⟨b, off + k * 7 + 5, none⟩ = some (.int .i64 vq) := by rw [BW.cell (p := ⟨b, off + k * 7 + 5, none⟩) hbl, d5]
      have e6 : wr.cell? ⟨b, off + k * 7 + 6, none⟩ = some (.string vz) := by rw [BW.cell (p := ⟨b, off + k * 7 + 6, none⟩) hbl, d6]
      have hvs : vt.size ≤ maxLen ∧ vz.size ≤ maxLen := by
        have := getD_ofX (d := zeroR) HSZ.out (show k < vs.length by omega)
        rw [← hv] at this
        exact this
      have hvk : rowK ⟨vi, va, vb, vt, vp, vq, vz⟩ = true := by
        have := getD_ofX (d := zeroR) (Q := fun v : RW => rowK v = true) HK.out (show k < vs.length by omega)
        rw [← hv] at this
        exact this
      have HST : Hid (strs (ansL cn (vs.take (k + 1))) = strs (ansL cn (vs.take k)) ++ [.string (rowT ⟨vi, va, vb, vt, vp, vq, vz⟩)]) := by unfold Hid; rw [ansL_step cn vs k (by omega), ← hv, strs_one]
      obtain ⟨M, hM⟩ : ∃ M, ansL cn (vs.take k) = M := ⟨_, rfl⟩
      rw [hM] at O0 HST
      obtain ⟨X, hX⟩ : ∃ W, wr.alloc (.cells #[.int .i64 vi, .int .i64 va, .int .i64 vb, .string vt, .int .i64 vp, .int .i64 vq, .string vz] 50) = W := ⟨_, rfl⟩
      have bX : Below wr.heap.size wr X := by rw [← hX]; exact (Below.refl _ _).alloc (Nat.le_refl _) _
      have LX : Hid (Below V.heap.size V X) := LW.out.trans (bX.mono LW.out.size)
      have QX : Hid (Box X wr.heap.size 50 #[.int .i64 vi, .int .i64 va, .int .i64 vb, .string vt, .int .i64 vp, .int .i64 vq, .string vz]) := by unfold Hid; rw [← hX]; exact Box.new _ _ _
      have OX : Hid (X.ownsRow B 9 1 (.slice a' (k + 1) cap) (k + 1) (strs M)) := own_below O0.out bX
      have C := c_rowW vi (va, vb, vt) (vp, vq, vz) X hvs.1 hvs.2 (TV.out.below LX.out)
      have HJ2 : Hid ((joinS (rowL ⟨vi, va, vb, vt, vp, vq, vz⟩)).size ≤ 83) := rowJ_size hvk hvs
      have HTX : Hid (rowT ⟨vi, va, vb, vt, vp, vq, vz⟩ = ⟨#[40]⟩ ++ joinS (rowL ⟨vi, va, vb, vt, vp, vq, vz⟩) ++ ⟨#[41]⟩) := rfl
      obtain ⟨y0, y1, y2, y3, y4, y5, y6⟩ := box7 QX.out
      have lX : V.heap.size ≤ X.heap.size := LX.out.size
      clear hc hv d0 d1 d2 d3 d4 d5 d6 BW hM bX hvs hvk O0 LW QX
      go_wp2_with fail
      refine C.mono ?_
      rintro e w4 ⟨a3, c3, rfl, o4, hb⟩
      have O4 : Hid (w4.ownsRow B 9 1 (.slice a' (k + 1) cap) (k + 1) (strs M)) := own_below OX.out hb
      have L4 : Hid (Below V.heap.size V w4) := LX.out.trans (hb.mono LX.out.size)
      have D := c_joinO (X.heap.size + 1) a3 c3 3 (rowL ⟨vi, va, vb, vt, vp, vq, vz⟩) w4 o4 (by omega) (by omega) (by have := HJ2.out; omega)
      obtain ⟨s, hs⟩ : ∃ s, joinS (rowL ⟨vi, va, vb, vt, vp, vq, vz⟩) = s := ⟨_, rfl⟩
      rw [hs] at D HJ2 HTX
      rw [HTX.out] at HST
      have hsz : s.size ≤ 83 := HJ2.out
      have l4 : V.heap.size ≤ w4.heap.size := L4.out.size
      clear hb C o4 hX e0 e1 e2 e3 e4 e5 e6 y0 y1 y2 y3 y4 y5 y6 OX LX hs HTX HJ2
      go_wp2_with fail
      refine D.mono ?_
      rintro e w5 ⟨rfl, hb⟩
      have O5 : Hid (w5.ownsRow B 9 1 (.slice a' (k + 1) cap) (k + 1) (strs M)) := own_below O4.out hb
      have L5 : Hid (Below V.heap.size V w5) := L4.out.trans (hb.mono L4.out.size)
      have l5 : V.heap.size ≤ w5.heap.size := L5.out.size
      clear hb D O4 L4
      go_wp2_with (at_builtin; refine app_any _ rfl (.tmp 35) (.tmp 41) 34 rfl B 9 iI (.string ⟨#[]⟩) 1 16 Tryd.underlying34 hiI.out hz0.out hz1.out hz2.out rfl (by omega) (.slice a' (k + 1) cap) (k + 1) (strs M) rfl (own_below O5.out ((Below.refl _ _).alloc (Nat.le_refl _) _)) _ 1 1 [.string (⟨#[40]⟩ ++ s ++ ⟨#[41]⟩)] rfl (fun ex => by cases ex) rfl (new_at _ _ _ (by simp)) (one_str _) (by unfold maxLen; omega) (by omega) (by simp; omega) ?_; intro a9 c9 w9 ho9 hg9 hx9)
      rw [ob_slice] at hg9 hx9
      have L9 : Hid (Below V.heap.size V w9) := by
        have hbl := own_blk O5.out
        refine L5.out.trans ?_
        refine ⟨hg9.os, hg9.tape, hg9.output, Nat.le_trans (by simp) hg9.size, fun j hj => ?_⟩
        rw [hg9.block j (by simp; omega) (fun e => by have := (hbl j e.symm).1; omega)]
        exact ((Below.refl w5.heap.size w5).alloc (Nat.le_refl _) _).block j (by omega)
      refine ⟨⟨k + 1, a9, c9, by omega, rfl, by simp, ?_, L9⟩, ?_⟩
      · unfold Hid; rw [HST.out]; exact ho9
      · simp only [intOf]; omega
    · have e : k = n := by omega
      subst e
      have g1 : ¬ (k : Int) < (k : Int) := by omega
      have HE : Hid (ansL cn (vs.take k) = ansL cn vs) := by unfold Hid; rw [List.take_of_length_le (by omega)]
      have hj := HJ.out k h100
      rw [HE.out] at O0 hj
      have D := c_joinO B a' cap (k + 1) (ansL cn vs) wr O0.out (by omega) (by omega) (by omega)
      have B0 : Hid (Below w.heap.size w wr) := BV.out.trans (LW.out.mono BV.out.size)
      obtain ⟨s, hs⟩ : ∃ s, joinS (ansL cn vs) = s := ⟨_, rfl⟩
      rw [hs] at D E
      clear O0 LW HJ hj HE hs HSZ HK HR
      go_wp2_with fail
      refine D.mono ?_
      rintro e w5 ⟨rfl, hb⟩
      have B5 : Hid (Below w.heap.size w w5) := B0.out.trans (hb.mono B0.out.size)
      clear hb D B0
      go_wp2
      go_ret2
      exact ⟨by rw [E.out.1, E.out.2]; rfl, B5.out⟩

end Go.Proofs.YtknjglgellhchaaDoor
