/-
  AnswerText: the specification.
-/
import Derived.Test.YtknjglgellhchaaDoorUa
import Derived.Test.YtknjglgellhchaaDoorTc
import Derived.Test.YtknjglgellhchaaDoorVt
import Derived.Test.YtknjglgellhchaaDoorBx
import Derived.Deep.RegionHeld3
import Derived.Deep.DrawnRows
import Derived.BigQuiet
import Derived.Deep.QuietTactic
namespace Go.Proofs.YtknjglgellhchaaDoor
open Go Go.RowKit
attribute [local go_sem ↓] Go.wp_at_zero Go.wp_at_succ

set_option linter.unusedVariables false
set_option linter.unusedSimpArgs false
set_option maxRecDepth 100000 in
set_option maxHeartbeats 8000000 in
theorem c_l13 (a : Option Addr) (n c : Nat) (cn : Int) (vs : List RW) (w : World) (hr : RdR w a n vs) (hs : ∀ v ∈ vs, v.t.size ≤ maxLen ∧ v.z.size ≤ maxLen) (h0 : 0 ≤ cn) (h1 : cn ≤ 100) (h100 : n ≤ 100) (hK : ∀ v ∈ vs, rowK v = true) :
    Calls Tryd.prog 52 #[.agg #[.slice a n c, .int .i64 cn]] w fun e w' => e = .returned (.string (joinS (ansL cn vs))) ∧ Below w.heap.size w w' := by
  obtain ⟨V, hV⟩ : ∃ W, w.alloc (.cells #[.slice a n c, .int .i64 cn] 63) = W := ⟨_, rfl⟩
  have BV : Hid (Below w.heap.size w V) := by unfold Hid; rw [← hV]; exact (Below.refl _ _).alloc (Nat.le_refl _) _
  have XV : Hid (Box V w.heap.size 63 #[.slice a n c, .int .i64 cn]) := by unfold Hid; rw [← hV]; exact Box.new _ _ _
  have x0 : V.cell? ⟨w.heap.size, 0, none⟩ = some (.slice a n c) := XV.out.cell 0
  have x1 : V.cell? ⟨w.heap.size, 1, none⟩ = some (.int .i64 cn) := XV.out.cell 1
  have HK : Hid (∀ v ∈ vs, rowK v = true) := hK
  have HSZ : Hid (∀ v ∈ vs, v.t.size ≤ maxLen ∧ v.z.size ≤ maxLen) := hs
  have HJ : Hid (∀ k, k ≤ 100 → (joinS (ansL cn (vs.take k))).size ≤ 10000) := fun k hk => ansJ_size cn vs k (by omega) (by omega) hk HK.out HSZ.out
  have HR : Hid (RdR V a n vs) := hr.below BV.out
  have hl : vs.length = n := hr.1
  have C := c_dig cn V (by omega) (by omega)
  have H0 : Hid (joinS (ansL cn (vs.take 0)) = ⟨(Lib.itoa cn).toArray⟩) := join_one _
  clear hs hr hK
  go_enter Tryd.func52, Tryd.ntmps52
  go_wp2_with fail
  refine C.mono ?_
  rintro e w1 ⟨rfl, hb⟩
  have L1 : Hid (Below V.heap.size V w1) := hb
  clear hb C hV x0 x1
  go_wp2_with fail
  go_loopw [3, 4] (fun s q wr => ∃ (k : Nat), k ≤ n ∧ s = .string (joinS (ansL cn (vs.take k))) ∧ q = .int .i64 (k : Int) ∧ Hid (Below V.heap.size V wr)) (fun _ q _ => n - (intOf q).toNat)
  case atStart => exact ⟨0, by omega, by rw [H0.out], rfl, L1⟩
  case round =>
    clear L1 H0
    obtain ⟨k, hk, rfl, rfl, LW⟩ := hrel
    have XW : Hid (Box wr w.heap.size 63 #[.slice a n c, .int .i64 cn]) := XV.out.belowS LW.out
    have x0 : wr.cell? ⟨w.heap.size, 0, none⟩ = some (.slice a n c) := XW.out.cell 0
    by_cases hlt : k < n
    · have BW := LW.out
      obtain ⟨b, off, rfl, hbl, hc⟩ := HR.out.2 (by omega)
      obtain ⟨⟨vi, va, vb, vt, vp, vq, vz⟩, hv⟩ : ∃ v, v = vs.getD k zeroR := ⟨_, rfl⟩
      obtain ⟨d0, d1, d2, d3, d4, d5, d6⟩ := RdR.at hc hlt hv
      dsimp only at d0 d1 d2 d3 d4 d5 d6
      have e0 : wr.cell? ⟨b, off + k * 7, none⟩ = some (.int .i64 vi) := by rw [BW.cell (p := ⟨b, off + k * 7, none⟩) hbl, d0]
      have e1 : wr.cell? ⟨b, off + k * 7 + 1, none⟩ = some (.int .i64 va) := by rw [BW.cell (p := ⟨b, off + k * 7 + 1, none⟩) hbl, d1]
      have e2 : wr.cell? ⟨b, off + k * 7 + 2, none⟩ = some (.int .i64 vb) := by rw [BW.cell (p := ⟨b, off + k * 7 + 2, none⟩) hbl, d2]
      have e3 : wr.cell? ⟨b, off + k * 7 + 3, none⟩ = some (.string vt) := by rw [BW.cell (p := ⟨b, off + k * 7 + 3, none⟩) hbl, d3]
      have e4 : wr.cell? ⟨b, off + k * 7 + 4, none⟩ = some (.int .i64 vp) := by rw [BW.cell (p := ⟨b, off + k * 7 + 4, none⟩) hbl, d4]
      have e5 : wr.cell? ⟨b, off + k * 7 + 5, none⟩ = some (.int .i64 vq) := by rw [BW.cell (p := ⟨b, off + k * 7 + 5, none⟩) hbl, d5]
      have e6 : wr.cell? ⟨b, off + k * 7 + 6, none⟩ = some (.string vz) := by rw [BW.cell (p := ⟨b, off + k * 7 + 6, none⟩) hbl, d6]
      have hvs : vt.size ≤ maxLen ∧ vz.size ≤ maxLen := by
        have := getD_ofX (d := zeroR) HSZ.out (show k < vs.length by omega)
        rw [← hv] at this
        exact this
      have hvk : rowK ⟨vi, va, vb, vt, vp, vq, vz⟩ = true := by
        have := getD_ofX (d := zeroR) (Q := fun v : RW => rowK v = true) HK.out (show k < vs.length by omega)
        rw [← hv] at this
        exact this
      obtain ⟨hi, hva, hvb⟩ := rowK_parts hvk
      dsimp only at hi hva hvb
      have HST : Hid (joinS (ansL cn (vs.take (k + 1))) = joinS (ansL cn (vs.take k)) ++ (⟨#[32, 40]⟩ ++ itB vi ++ ⟨#[32]⟩ ++ vtS va vb vt ++ ⟨#[32]⟩ ++ vtS vp vq vz ++ ⟨#[41]⟩)) := by unfold Hid; rw [ansJ_step cn vs k (by omega), ← hv, rowT_eq hvk]
      have ho := HJ.out k (by omega)
      have hz0 := itB_size (n := vi) (by omega) (by omega)
      have hz1 := vtS_size hva hvs.1
      have hz2 := vtS_size hvb hvs.2
      obtain ⟨X, hX⟩ : ∃ W, wr.alloc (.cells #[.int .i64 vi, .int .i64 va, .int .i64 vb, .string vt, .int .i64 vp, .int .i64 vq, .string vz] 50) = W := ⟨_, rfl⟩
      have bX : Below wr.heap.size wr X := by rw [← hX]; exact (Below.refl _ _).alloc (Nat.le_refl _) _
      have LX : Hid (Below V.heap.size V X) := LW.out.trans (bX.mono LW.out.size)
      have QX : Hid (Box X wr.heap.size 50 #[.int .i64 vi, .int .i64 va, .int .i64 vb, .string vt, .int .i64 vp, .int .i64 vq, .string vz]) := by unfold Hid; rw [← hX]; exact Box.new _ _ _
      have CD : Hid (∀ r' : Out X, Calls Tryd.prog 80 #[.int .i64 vi] r'.y fun e w' => e = .returned (.string (itB vi)) ∧ Below r'.y.heap.size r'.y w') := fun r' => c_dig vi r'.y (by omega) (by omega)
      have CA : Hid (∀ r' : Out X, Calls Tryd.prog 60 #[.agg #[.int .i64 va, .int .i64 vb, .string vt]] r'.y fun e w' => e = .returned (.string (vtS va vb vt)) ∧ Below r'.y.heap.size r'.y w') := fun r' => c_l01T va vb vt r'.y hva
      have CB : Hid (∀ r' : Out X, Calls Tryd.prog 60 #[.agg #[.int .i64 vp, .int .i64 vq, .string vz]] r'.y fun e w' => e = .returned (.string (vtS vp vq vz)) ∧ Below r'.y.heap.size r'.y w') := fun r' => c_l01T vp vq vz r'.y hvb
      obtain ⟨O, hO⟩ : ∃ s, joinS (ansL cn (vs.take k)) = s := ⟨_, rfl⟩
      obtain ⟨s0, hs0⟩ : ∃ s, itB vi = s := ⟨_, rfl⟩
      obtain ⟨s1, hs1⟩ : ∃ s, vtS va vb vt = s := ⟨_, rfl⟩
      obtain ⟨s2, hs2⟩ : ∃ s, vtS vp vq vz = s := ⟨_, rfl⟩
      rw [hO] at HST ho
      rw [hs0] at HST hz0 CD
      rw [hs1] at HST hz1 CA
      rw [hs2] at HST hz2 CB
      rw [hO]
      obtain ⟨y0, y1, y2, y3, y4, y5, y6⟩ := box7 QX.out
      have q0 := fun r' : Out X => q_cell y0 r'
      have q1 := fun r' : Out X => q_cell y1 r'
      have q2 := fun r' : Out X => q_cell y2 r'
      have q3 := fun r' : Out X => q_cell y3 r'
      have q4 := fun r' : Out X => q_cell y4 r'
      have q5 := fun r' : Out X => q_cell y5 r'
      have q6 := fun r' : Out X => q_cell y6 r'
      clear hc hv d0 d1 d2 d3 d4 d5 d6 BW bX hvs hvk LW QX hO hs0 hs1 hs2 hva hvb hi
      go_wp2_with fail
      clear e0 e1 e2 e3 e4 e5 e6 x0 hX y0 y1 y2 y3 y4 y5 y6
      haveI nonE := Out.some X
      refine q_begin (by kernel_rfl) (by kernel_rfl) ?_
      repeat (go_big_quiet_step (first | with_reducible exact q_call (CD.out _) | with_reducible exact q_call (CA.out _) | with_reducible exact q_call (CB.out _)))
      refine wpQuiet_nil ?_
      rintro w3 ⟨⟨y', hb3⟩, hy⟩
      have hy' : w3 = y' := hy
      clear hy
      subst hy'
      have L3 : Hid (Below V.heap.size V w3) := LX.out.trans (hb3.mono LX.out.size)
      clear hb3 q0 q1 q2 q3 q4 q5 q6 CD CA CB
      go_wp2
      go_roundw
      case rel => exact ⟨k + 1, by omega, by rw [HST.out], by go_num, L3⟩
      case measure => simp [intOf]; omega
    · have e : k = n := by omega
      subst e
      have B0 : Hid (Below w.heap.size w wr) := BV.out.trans (LW.out.mono BV.out.size)
      have HE : Hid (joinS (ansL cn (vs.take k)) = joinS (ansL cn vs)) := by unfold Hid; rw [List.take_of_length_le (by omega)]
      rw [HE.out]
      clear HE LW HJ HSZ HK HR
      go_wp2
      go_ret
      exact ⟨rfl, B0.out⟩
set_option maxRecDepth 100000 in
set_option maxHeartbeats 8000000 in
theorem c_specAT (a : Option Addr) (n c : Nat) (cn : Int) (vs : List RW) (w : World) (hr : RdR w a n vs) (hn : n ≤ 1048576) (hs : ∀ v ∈ vs, v.t.size ≤ maxLen ∧ v.z.size ≤ maxLen) :
    Calls Tryd.prog 23 #[.agg #[.slice a n c, .int .i64 cn]] w fun e w' => e = .returned (.tuple #[.string (ansS cn n vs), .int .i64 (ansE cn n vs)]) ∧ Below w.heap.size w w' := by
  obtain ⟨V, hV⟩ : ∃ W, w.alloc (.cells #[.slice a n c, .int .i64 cn] 63) = W := ⟨_, rfl⟩
  have BV : Hid (Below w.heap.size w V) := by unfold Hid; rw [← hV]; exact (Below.refl _ _).alloc (Nat.le_refl _) _
  have XV : Hid (Box V w.heap.size 63 #[.slice a n c, .int .i64 cn]) := by unfold Hid; rw [← hV]; exact Box.new _ _ _
  have x0 : V.cell? ⟨w.heap.size, 0, none⟩ = some (.slice a n c) := XV.out.cell 0
  have x1 : V.cell? ⟨w.heap.size, 1, none⟩ = some (.int .i64 cn) := XV.out.cell 1
  have C := c_in cn 0 100 V
  cases hin : inB cn 0 100
  · have E : Hid (ansS cn n vs = ⟨#[]⟩ ∧ ansE cn n vs = 1) := ans_no (by unfold ansB; rw [hin]; rfl)
    rw [hin] at C
    clear hin
    go_enter Tryd.func23, Tryd.ntmps23
    go_wp2_with fail
    refine C.mono ?_
    rintro e w1 ⟨rfl, rfl⟩
    clear C
    go_wp2
    go_ret2
    exact ⟨by rw [E.out.1, E.out.2]; rfl, BV.out⟩
  rw [hin] at C
  by_cases h2 : (100 : Int) < (n : Int)
  · have E : Hid (ansS cn n vs = ⟨#[]⟩ ∧ ansE cn n vs = 1) := ans_no (by unfold ansB; rw [decide_eq_false (show ¬ (n ≤ 100) by omega)]; simp)
    clear hin
    go_enter Tryd.func23, Tryd.ntmps23
    go_wp2_with fail
    refine C.mono ?_
    rintro e w1 ⟨rfl, rfl⟩
    clear C
    go_wp2
    go_ret2
    exact ⟨by rw [E.out.1, E.out.2]; rfl, BV.out⟩
  have h100 : n ≤ 100 := by omega
  have hc0 : 0 ≤ cn ∧ cn ≤ 100 := by unfold inB at hin; simpa using hin
  obtain ⟨R, hR⟩ : ∃ b, vs.all rowK = b := ⟨_, rfl⟩
  have HA : Hid (∀ k, k = n → (vs.take k).all rowK = true → ∀ v ∈ vs, rowK v = true) := fun k e h => by
    have hl := hr.1
    rw [e, List.take_of_length_le (by omega)] at h
    exact List.all_eq_true.1 h
  have HN : Hid (∀ v ∈ vs, rowK v = false → ansS cn n vs = ⟨#[]⟩ ∧ ansE cn n vs = 1) := fun v hv h => ans_no (by
    have : vs.all rowK = false := by rw [List.all_eq_false]; exact ⟨v, hv, by rw [h]; simp⟩
    unfold ansB; rw [this]; simp)
  have HY : Hid ((∀ v ∈ vs, rowK v = true) → ansS cn n vs = joinS (ansL cn vs) ∧ ansE cn n vs = 0) := fun h => ans_yes (by
    have : vs.all rowK = true := List.all_eq_true.2 h
    unfold ansB; rw [hin, this, decide_eq_true h100]; rfl)
  have CL : Hid (∀ W, Below V.heap.size V W → (∀ v ∈ vs, rowK v = true) → Calls Tryd.prog 52 #[.agg #[.slice a n c, .int .i64 cn]] W fun e w' => e = .returned (.string (joinS (ansL cn vs))) ∧ Below W.heap.size W w') := fun W hW hK => c_l13 a n c cn vs W ((hr.below BV.out).below hW) hs hc0.1 hc0.2 h100 hK
  have HSZ : Hid (∀ v ∈ vs, v.t.size ≤ maxLen ∧ v.z.size ≤ maxLen) := hs
  have HR : Hid (RdR V a n vs) := hr.below BV.out
  have hl : vs.length = n := hr.1
  clear hin hR hr hs
  go_enter Tryd.func23, Tryd.ntmps23
  go_wp2_with fail
  refine C.mono ?_
  rintro e w1 ⟨rfl, hw1⟩
  rw [hw1]
  clear C hV hw1 w1
  go_wp2_with fail
  clear x0 x1
  go_loopw [4] (fun q wr => ∃ (k : Nat), k ≤ n ∧ q = .int .i64 (k : Int) ∧ Hid ((vs.take k).all rowK = true) ∧ Hid (Below V.heap.size V wr)) (fun q _ => n - (intOf q).toNat)
  case atStart => exact ⟨0, by omega, rfl, rfl, Below.refl _ _⟩
  case round =>
    obtain ⟨k, hk, rfl, HP, LW⟩ := hrel
    have XW : Hid (Box wr w.heap.size 63 #[.slice a n c, .int .i64 cn]) := XV.out.belowS LW.out
    have x0 : wr.cell? ⟨w.heap.size, 0, none⟩ = some (.slice a n c) := XW.out.cell 0
    have x1 : wr.cell? ⟨w.heap.size, 1, none⟩ = some (.int .i64 cn) := XW.out.cell 1
    have B0 : Hid (Below w.heap.size w wr) := BV.out.trans (LW.out.mono BV.out.size)
    by_cases hlt : k < n
    · have BW := LW.out
      obtain ⟨b, off, rfl, hbl, hc⟩ := HR.out.2 (by omega)
      obtain ⟨⟨vi, va, vb, vt, vp, vq, vz⟩, hv⟩ : ∃ v, v = vs.getD k zeroR := ⟨_, rfl⟩
      obtain ⟨d0, d1, d2, d3, d4, d5, d6⟩ := RdR.at hc hlt hv
      dsimp only at d0 d1 d2 d3 d4 d5 d6
      have e0 : wr.cell? ⟨b, off + k * 7, none⟩ = some (.int .i64 vi) := by rw [BW.cell (p := ⟨b, off + k * 7, none⟩) hbl, d0]
      have e1 : wr.cell? ⟨b, off + k * 7 + 1, none⟩ = some (.int .i64 va) := by rw [BW.cell (p := ⟨b, off + k * 7 + 1, none⟩) hbl, d1]
      have e2 : wr.cell? ⟨b, off + k * 7 + 2, none⟩ = some (.int .i64 vb) := by rw [BW.cell (p := ⟨b, off + k * 7 + 2, none⟩) hbl, d2]
      have e3 : wr.cell? ⟨b, off + k * 7 + 3, none⟩ = some (.string vt) := by rw [BW.cell (p := ⟨b, off + k * 7 + 3, none⟩) hbl, d3]
      have e4 : wr.cell? ⟨b, off + k * 7 + 4, none⟩ = some (.int .i64 vp) := by rw [BW.cell (p := ⟨b, off + k * 7 + 4, none⟩) hbl, d4]
      have e5 : wr.cell? ⟨b, off + k * 7 + 5, none⟩ = some (.int .i64 vq) := by rw [BW.cell (p := ⟨b, off + k * 7 + 5, none⟩) hbl, d5]
      have e6 : wr.cell? ⟨b, off + k * 7 + 6, none⟩ = some (.string vz) := by rw [BW.cell (p := ⟨b, off + k * 7 + 6, none⟩) hbl, d6]
      have hvs : vt.size ≤ maxLen ∧ vz.size ≤ maxLen := by
        have := getD_ofX (d := zeroR) HSZ.out (show k < vs.length by omega)
        rw [← hv] at this
        exact this
      have hmem : (⟨vi, va, vb, vt, vp, vq, vz⟩ : RW) ∈ vs := by
        have hk' : k < vs.length := by omega
        rw [List.getD_eq_getElem?_getD, List.getElem?_eq_getElem hk'] at hv
        simp only [Option.getD_some] at hv
        rw [hv]
        exact List.getElem_mem hk'
      have C := c_lRowR ⟨vi, va, vb, vt, vp, vq, vz⟩ wr hvs
      have HS : Hid ((vs.take (k + 1)).all rowK = ((vs.take k).all rowK && rowK ⟨vi, va, vb, vt, vp, vq, vz⟩)) := by
        unfold Hid
        have hk' : k < vs.length := by omega
        rw [List.take_add_one, List.all_append, List.getElem?_eq_getElem hk', hv, List.getD_eq_getElem?_getD, List.getElem?_eq_getElem hk']
        simp
      cases hrk : rowK ⟨vi, va, vb, vt, vp, vq, vz⟩
      · have E : Hid (ansS cn n vs = ⟨#[]⟩ ∧ ansE cn n vs = 1) := HN.out _ hmem hrk
        rw [hrk] at C
        clear hc hv d0 d1 d2 d3 d4 d5 d6 BW hvs hmem hrk HS HA HN HY CL HSZ HR
        go_wp2_with fail
        refine C.mono ?_
        rintro e w2 ⟨rfl, hb⟩
        have B2 : Hid (Below w.heap.size w w2) := B0.out.trans (hb.mono B0.out.size)
        clear hb C
        go_wp2
        go_ret2
        exact ⟨by rw [E.out.1, E.out.2]; rfl, B2.out⟩
      · rw [hrk] at C HS
        have HP2 : Hid ((vs.take (k + 1)).all rowK = true) := by unfold Hid; rw [HS.out, HP.out]; rfl
        clear hc hv d0 d1 d2 d3 d4 d5 d6 BW hvs hmem hrk HS HA HN HY CL HSZ HR HP
        go_wp2_with fail
        refine C.mono ?_
        rintro e w2 ⟨rfl, hb⟩
        have L2 : Hid (Below V.heap.size V w2) := LW.out.trans (hb.mono LW.out.size)
        clear hb C LW
        go_wp2
        go_roundw
        case rel => exact ⟨k + 1, by omega, by go_num, HP2, L2⟩
        case measure => simp [intOf]; omega
    · have e : k = n := by omega
      have HK := HA.out k e HP.out
      have E : Hid (ansS cn n vs = joinS (ansL cn vs) ∧ ansE cn n vs = 0) := HY.out HK
      have D := CL.out wr LW.out HK
      obtain ⟨s, hs⟩ : ∃ s, joinS (ansL cn vs) = s := ⟨_, rfl⟩
      rw [hs] at D E
      subst e
      clear HK HA HN HY CL HSZ HR HP LW hs
      go_wp2_with fail
      refine D.mono ?_
      rintro e w2 ⟨rfl, hb⟩
      have B2 : Hid (Below w.heap.size w w2) := B0.out.trans (hb.mono B0.out.size)
      clear hb D
      go_wp2
      go_ret2
      exact ⟨by rw [E.out.1, E.out.2]; rfl, B2.out⟩

end Go.Proofs.YtknjglgellhchaaDoor
