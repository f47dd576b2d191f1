/-
  SortRows: the specification.
-/
import Derived.Test.YtlapmidiakaimaaSi
import Derived.Deep.RegionHeld3
import Derived.Deep.QuietTactic
import Derived.BigQuiet
import Derived.Deep.RegionLaw
namespace Go.Proofs.Ytlapmidiakaimaa
open Go Go.RowKit
attribute [local go_sem ↓] Go.wp_at_zero Go.wp_at_succ

set_option linter.unusedVariables false
set_option linter.unusedSimpArgs false
set_option maxRecDepth 100000 in
set_option maxHeartbeats 8000000 in
theorem c_lRows (a : Option Addr) (n c : Nat) (vs : List RW) (w : World) (hr : RdR w a n vs) (hn : n ≤ 4096) (hs : ∀ v ∈ vs, v.t.size ≤ maxLen ∧ v.z.size ≤ maxLen) :
    Calls Try.prog 49 #[.slice a n c] w fun e w' => e = .returned (.bool (rowsB vs)) ∧ Below w.heap.size w w' := by
  obtain ⟨hl, hcs⟩ := hr
  have HS : Hid (∀ v ∈ vs, v.t.size ≤ maxLen ∧ v.z.size ≤ maxLen) := hs
  obtain ⟨R, hR⟩ : ∃ R, rowsB vs = R := ⟨_, rfl⟩
  have HR : Hid (areB 0 vs = R) := hR
  rw [hR]
  clear hs hR
  go_enter Try.func49, Try.ntmps49
  go_wp2
  go_loopw [3] (fun i wr => ∃ (k : Nat) (x : Int), k ≤ n ∧ i = .int .i64 k ∧ Hid (areB x (vs.drop k) = R) ∧ Hid (k = 0 → x = 0) ∧ Hid (∀ m, k = m + 1 → x = (vs.getD m zeroR).i + 1) ∧ Below w.heap.size w wr) (fun i _ => n - (intOf i).toNat)
  case atStart => exact ⟨0, 0, by omega, rfl, by unfold Hid; rw [List.drop_zero]; exact HR.out, fun _ => rfl, fun m h => by omega, Below.refl _ _⟩
  case round =>
    obtain ⟨k, x, hk, rfl, HE, H0, H1, hb⟩ := hrel
    by_cases hlt : k < n
    · obtain ⟨b, off, rfl, hbl, hc⟩ := hcs (by omega)
      obtain ⟨⟨vi, va, vb, vt, vp, vq, vz⟩, hv⟩ : ∃ v, v = vs.getD k zeroR := ⟨_, rfl⟩
      obtain ⟨d0, d1, d2, d3, d4, d5, d6⟩ := RdR.at hc hlt hv
      dsimp only at d0 d1 d2 d3 d4 d5 d6
      have e0 : wr.cell? ⟨b, off + k * 7, none⟩ = some (.int .i64 vi) := by rw [hb.cell (p := ⟨b, off + k * 7, none⟩) hbl, d0]
      have e1 : wr.cell? ⟨b, off + k * 7 + 1, none⟩ = some (.int .i64 va) := by rw [hb.cell (p := ⟨b, off + k * 7 + 1, none⟩) hbl, d1]
      have e2 : wr.cell? ⟨b, off + k * 7 + 2, none⟩ = some (.int .i64 vb) := by rw [hb.cell (p := ⟨b, off + k * 7 + 2, none⟩) hbl, d2]
      have e3 : wr.cell? ⟨b, off + k * 7 + 3, none⟩ = some (.string vt) := by rw [hb.cell (p := ⟨b, off + k * 7 + 3, none⟩) hbl, d3]
      have e4 : wr.cell? ⟨b, off + k * 7 + 4, none⟩ = some (.int .i64 vp) := by rw [hb.cell (p := ⟨b, off + k * 7 + 4, none⟩) hbl, d4]
      have e5 : wr.cell? ⟨b, off + k * 7 + 5, none⟩ = some (.int .i64 vq) := by rw [hb.cell (p := ⟨b, off + k * 7 + 5, none⟩) hbl, d5]
      have e6 : wr.cell? ⟨b, off + k * 7 + 6, none⟩ = some (.string vz) := by rw [hb.cell (p := ⟨b, off + k * 7 + 6, none⟩) hbl, d6]
      have hvs : vt.size ≤ maxLen ∧ vz.size ≤ maxLen := by
        have := getD_ofX (d := zeroR) HS.out (show k < vs.length by omega)
        rw [← hv] at this
        exact this
      have HD : Hid (R = (rowK ⟨vi, va, vb, vt, vp, vq, vz⟩ && (decide (x ≤ vi) && areB (vi + 1) (vs.drop (k + 1))))) := by unfold Hid; rw [← HE.out, areB_drop x vs k (by omega), ← hv]
      have HN : Hid (∀ m, k + 1 = m + 1 → vi + 1 = (vs.getD m zeroR).i + 1) := fun m hm => by rw [show m = k by omega, ← hv]
      obtain ⟨rk, hrk⟩ : ∃ b, rowK ⟨vi, va, vb, vt, vp, vq, vz⟩ = b := ⟨_, rfl⟩
      have HK : Hid (rowK ⟨vi, va, vb, vt, vp, vq, vz⟩ = rk) := hrk
      have CQ : Hid (∀ r : Out wr, Calls Try.prog 38 #[.agg #[.int .i64 vi, .int .i64 va, .int .i64 vb, .string vt, .int .i64 vp, .int .i64 vq, .string vz]] r.y fun e w' => e = .returned (.bool rk) ∧ Below r.y.heap.size r.y w') := fun r => by rw [← hrk]; exact c_lRowR ⟨vi, va, vb, vt, vp, vq, vz⟩ r.y hvs
      rw [hrk] at HD
      have g1 : (0 : Int) ≤ (k : Int) := by omega
      have g2 : (k : Int) < (n : Int) := by omega
      have B : Hid (Below w.heap.size w wr) := hb
      clear hrk hvs hv d0 d1 d2 d3 d4 d5 d6 HE
      have q0 := fun r : Out wr => q_cell e0 r
      have q1 := fun r : Out wr => q_cell e1 r
      have q2 := fun r : Out wr => q_cell e2 r
      have q3 := fun r : Out wr => q_cell e3 r
      have q4 := fun r : Out wr => q_cell e4 r
      have q5 := fun r : Out wr => q_cell e5 r
      have q6 := fun r : Out wr => q_cell e6 r
      cases rk
      · have E : Hid (R = false) := by unfold Hid; rw [HD.out]; rfl
        clear HD HK hb hc hcs e0 e1 e2 e3 e4 e5 e6 H0 H1 HN
        go_wp2_with fail
        haveI nonE := Out.some wr
        refine q_begin (by kernel_rfl) (by kernel_rfl) ?_
        repeat (go_big_quiet_step (exact q_call (CQ.out _)))
        refine wpQuiet_nil ?_
        rintro w3 ⟨⟨y', hb3⟩, hy⟩
        have hy' : w3 = y' := hy
        clear hy
        subst hy'
        have B3 : Hid (Below w.heap.size w w3) := B.out.trans (hb3.mono B.out.size)
        clear hb3 CQ q0 q1 q2 q3 q4 q5 q6 B
        go_wp2
        go_ret
        exact ⟨by rw [E.out]; rfl, B3.out⟩
      · have hid := rowK_id HK.out
        dsimp only at hid
        rcases Nat.eq_zero_or_pos k with hk0 | hkp
        · subst hk0
          have E : Hid (areB (vi + 1) (vs.drop (0 + 1)) = R) := by unfold Hid; rw [HD.out, H0.out rfl, decide_eq_true (show (0 : Int) ≤ vi by omega)]; rfl
          clear HD HK hb hc hcs e0 e1 e2 e3 e4 e5 e6 H0 H1 g1 g2
          simp only [Nat.zero_mul, Nat.add_zero] at q0 q1 q2 q3 q4 q5 q6
          have g5 : (0 : Int) < (n : Int) := by omega
          go_wp2_with fail
          haveI nonE := Out.some wr
          refine q_begin (by kernel_rfl) (by kernel_rfl) ?_
          repeat (go_big_quiet_step (exact q_call (CQ.out _)))
          refine wpQuiet_nil ?_
          rintro w3 ⟨⟨y', hb3⟩, hy⟩
          have hy' : w3 = y' := hy
          clear hy
          subst hy'
          have B3 : Hid (Below w.heap.size w w3) := B.out.trans (hb3.mono B.out.size)
          clear hb3 CQ q0 q1 q2 q3 q4 q5 q6 B
          go_wp2
          go_roundw
          case rel => exact ⟨0 + 1, vi + 1, by omega, by go_num, E, fun h => by omega, HN.out, B3.out⟩
          case measure => simp [intOf]; omega
        · obtain ⟨m, rfl⟩ : ∃ m, k = m + 1 := ⟨k - 1, by omega⟩
          have hx : x = (vs.getD m zeroR).i + 1 := H1.out m rfl
          obtain ⟨⟨yi, ya, yb, yt, yp, yq, yz⟩, hy⟩ : ∃ y, y = vs.getD m zeroR := ⟨_, rfl⟩
          obtain ⟨d0, d1, d2, d3, d4, d5, d6⟩ := RdR.at hc (show m < n by omega) hy
          dsimp only at d0
          have u0 : wr.cell? ⟨b, off + m * 7, none⟩ = some (.int .i64 yi) := by rw [hb.cell (p := ⟨b, off + m * 7, none⟩) hbl, d0]
          have qy := fun r : Out wr => q_cell u0 r
          rw [← hy] at hx
          dsimp only at hx
          have g3 : (0 : Int) ≤ (m : Int) := by omega
          have g4 : (m : Int) < (n : Int) := by omega
          have k1 : decide ((0 : Int) < (m : Int) + 1) = true := decide_eq_true (by omega)
          by_cases hle : vi ≤ yi
          · have E : Hid (R = false) := by unfold Hid; rw [HD.out, decide_eq_false (by omega)]; rfl
            have k2 : decide (vi ≤ yi) = true := decide_eq_true hle
            clear HD HK hb hc hcs e0 e1 e2 e3 e4 e5 e6 H0 H1 d0 d1 d2 d3 d4 d5 d6 u0 hy hx HN
            go_wp2_with fail
            haveI nonE := Out.some wr
            refine q_begin (by kernel_rfl) (by kernel_rfl) ?_
            repeat (go_big_quiet_step (exact q_call (CQ.out _)))
            refine wpQuiet_nil ?_
            rintro w3 ⟨⟨y', hb3⟩, hy⟩
            have hy' : w3 = y' := hy
            clear hy
            subst hy'
            have B3 : Hid (Below w.heap.size w w3) := B.out.trans (hb3.mono B.out.size)
            clear hb3 CQ q0 q1 q2 q3 q4 q5 q6 B qy
            go_wp2
            go_ret
            exact ⟨by rw [E.out]; rfl, B3.out⟩
          · have E : Hid (areB (vi + 1) (vs.drop (m + 1 + 1)) = R) := by unfold Hid; rw [HD.out, decide_eq_true (show x ≤ vi by omega)]; rfl
            have k2 : decide (vi ≤ yi) = false := decide_eq_false hle
            clear HD HK hb hc hcs e0 e1 e2 e3 e4 e5 e6 H0 H1 d0 d1 d2 d3 d4 d5 d6 u0 hy hx
            go_wp2_with fail
            haveI nonE := Out.some wr
            refine q_begin (by kernel_rfl) (by kernel_rfl) ?_
            repeat (go_big_quiet_step (exact q_call (CQ.out _)))
            refine wpQuiet_nil ?_
            rintro w3 ⟨⟨y', hb3⟩, hy⟩
            have hy' : w3 = y' := hy
            clear hy
            subst hy'
            have B3 : Hid (Below w.heap.size w w3) := B.out.trans (hb3.mono B.out.size)
            clear hb3 CQ q0 q1 q2 q3 q4 q5 q6 B qy
            go_wp2
            go_roundw
            case rel => exact ⟨m + 1 + 1, vi + 1, by omega, by go_num, E, fun h => by omega, HN.out, B3.out⟩
            case measure => simp [intOf]; omega
    · have e : k = n := by omega
      subst e
      have E : Hid (R = true) := by unfold Hid; rw [← HE.out, List.drop_eq_nil_of_le (by omega)]; rfl
      clear HE H0 H1
      go_wp2
      go_ret
      exact ⟨by rw [E.out]; rfl, hb⟩

end Go.Proofs.Ytlapmidiakaimaa
