/-
  slices.BinarySearchFunc over rows.
-/
import Derived.Test.YtiobobocjokgiaaHf
import Derived.Deep.RegionHeld3
namespace Go.Proofs.Ytiobobocjokgiaa
open Go Go.RowKit
attribute [local go_sem ↓] Go.wp_at_zero Go.wp_at_succ

set_option linter.unusedVariables false
set_option linter.unusedSimpArgs false
def cmpI (a b : Int) : Int := if a < b then -1 else if b < a then 1 else 0
theorem c_cmpI (a b : Int) (w : World) : Calls Try.prog 38 #[.int .i64 a, .int .i64 b] w fun e w' => e = .returned (.int .i64 (cmpI a b)) ∧ w' = w := by
  by_cases h1 : a < b
  · have e : Hid (cmpI a b = -1) := by unfold Hid; unfold cmpI; rw [if_pos h1]
    go_enter Try.func38, Try.ntmps38
    go_wp2
    go_ret
    exact ⟨ret_int e.out.symm, rfl⟩
  · by_cases h2 : b < a
    · have e : Hid (cmpI a b = 1) := by unfold Hid; unfold cmpI; rw [if_neg h1, if_pos h2]
      go_enter Try.func38, Try.ntmps38
      go_wp2
      go_ret
      exact ⟨ret_int e.out.symm, rfl⟩
    · have e : Hid (cmpI a b = 0) := by unfold Hid; unfold cmpI; rw [if_neg h1, if_neg h2]
      go_enter Try.func38, Try.ntmps38
      go_wp2
      go_ret
      exact ⟨ret_int e.out.symm, rfl⟩
set_option maxRecDepth 100000 in
set_option maxHeartbeats 8000000 in
theorem c_cmpRow (vi va vb : Int) (vt : ByteArray) (vp vq : Int) (vz : ByteArray) (x : Int) (w : World) : Calls Try.prog 37 #[.agg #[.int .i64 vi, .int .i64 va, .int .i64 vb, .string vt, .int .i64 vp, .int .i64 vq, .string vz], .int .i64 x] w fun e w' => e = .returned (.int .i64 (cmpI vi x)) ∧ Below w.heap.size w w' := by
  obtain ⟨V, hV⟩ : ∃ W, w.alloc (.cells #[.int .i64 vi, .int .i64 va, .int .i64 vb, .string vt, .int .i64 vp, .int .i64 vq, .string vz] 40) = W := ⟨_, rfl⟩
  have BV : Hid (Below w.heap.size w V) := by unfold Hid; rw [← hV]; exact (Below.refl _ _).alloc (Nat.le_refl _) _
  have XV : Hid (Box V w.heap.size 40 #[.int .i64 vi, .int .i64 va, .int .i64 vb, .string vt, .int .i64 vp, .int .i64 vq, .string vz]) := by unfold Hid; rw [← hV]; exact Box.new _ _ _
  obtain ⟨x0, x1, x2, x3, x4, x5, x6⟩ := box7 XV.out
  go_enter Try.func37, Try.ntmps37
  go_wp2_with fail
  refine (c_cmpI vi x _).mono ?_
  rintro e w1 ⟨rfl, hw⟩
  rw [hw]
  clear hw hV
  go_wp2
  go_ret
  exact ⟨rfl, BV.out⟩
theorem ret_pb {a b : Int} {p q : Bool} (h : a = b) (h' : p = q) : Ending.returned (.tuple #[.int .i64 a, .bool p]) = .returned (.tuple #[.int .i64 b, .bool q]) := by rw [h, h']
theorem mid_wrap (p q : Nat) (h : p + q ≤ 1048576) : IntKind.u64.wrap ((p : Int) + (q : Int)) = (p : Int) + (q : Int) := by
  unfold IntKind.wrap; simp [IntKind.bits, IntKind.signed]; omega
set_option maxRecDepth 100000 in
set_option maxHeartbeats 8000000 in
theorem c_bs (a : Option Addr) (n cap : Nat) (L : List RW) (x : Int) (w : World) (hr : RdR w a n L) (hso : SoR L) (hn : n ≤ 4096) :
    Calls Try.prog 36 #[.slice a n cap, .int .i64 x, .func (Fn.func 37) #[] #[]] w fun e w' => e = .returned (.tuple #[.int .i64 (posR L x), .bool (hitR L x)]) ∧ Below w.heap.size w w' := by
  obtain ⟨hl, hcs⟩ := hr
  have HSO : Hid (SoR L) := hso
  clear hso
  go_enter Try.func36, Try.ntmps36
  go_wp2
  go_loopw [9, 10] (fun i j wr => ∃ p q : Nat, p ≤ q ∧ q ≤ n ∧ i = .int .i64 p ∧ j = .int .i64 q ∧ Hid (∀ k, k < p → (L.getD k zeroR).i < x) ∧ Hid (∀ k, q ≤ k → k < n → x ≤ (L.getD k zeroR).i) ∧ Hid (Below w.heap.size w wr)) (fun i j _ => (intOf j).toNat - (intOf i).toNat)
  case atStart => exact ⟨0, n, by omega, by omega, rfl, rfl, fun k h => absurd h (by omega), fun k h1 h2 => absurd h2 (by omega), Below.refl _ _⟩
  case round =>
    obtain ⟨p, q, hpq, hqn, rfl, rfl, H1, H2, hb⟩ := hrel
    by_cases hlt : p < q
    · obtain ⟨b, off, rfl, hbl, hc⟩ := hcs (by omega)
      obtain ⟨m, hm⟩ : ∃ m, m = (p + q) / 2 := ⟨_, rfl⟩
      have hmp : p ≤ m := by omega
      have hmq : m < q := by omega
      obtain ⟨⟨vi, va, vb, vt, vp, vq, vz⟩, hv⟩ : ∃ v, v = L.getD m zeroR := ⟨_, rfl⟩
      obtain ⟨d0, d1, d2, d3, d4, d5, d6⟩ := RdR.at hc (show m < n by omega) hv
      dsimp only at d0 d1 d2 d3 d4 d5 d6
      have e0 : wr.cell? ⟨b, off + m * 7, none⟩ = some (.int .i64 vi) := by rw [hb.out.cell (p := ⟨b, off + m * 7, none⟩) hbl, d0]
      have e1 : wr.cell? ⟨b, off + m * 7 + 1, none⟩ = some (.int .i64 va) := by rw [hb.out.cell (p := ⟨b, off + m * 7 + 1, none⟩) hbl, d1]
      have e2 : wr.cell? ⟨b, off + m * 7 + 2, none⟩ = some (.int .i64 vb) := by rw [hb.out.cell (p := ⟨b, off + m * 7 + 2, none⟩) hbl, d2]
      have e3 : wr.cell? ⟨b, off + m * 7 + 3, none⟩ = some (.string vt) := by rw [hb.out.cell (p := ⟨b, off + m * 7 + 3, none⟩) hbl, d3]
      have e4 : wr.cell? ⟨b, off + m * 7 + 4, none⟩ = some (.int .i64 vp) := by rw [hb.out.cell (p := ⟨b, off + m * 7 + 4, none⟩) hbl, d4]
      have e5 : wr.cell? ⟨b, off + m * 7 + 5, none⟩ = some (.int .i64 vq) := by rw [hb.out.cell (p := ⟨b, off + m * 7 + 5, none⟩) hbl, d5]
      have e6 : wr.cell? ⟨b, off + m * 7 + 6, none⟩ = some (.string vz) := by rw [hb.out.cell (p := ⟨b, off + m * 7 + 6, none⟩) hbl, d6]
      have HL : Hid (vi < x → ∀ k, k < m + 1 → (L.getD k zeroR).i < x) := fun h => HSO.out.low (by omega) (by rw [← hv]; exact h)
      have HH : Hid (x ≤ vi → ∀ k, m ≤ k → k < n → x ≤ (L.getD k zeroR).i) := fun h k h1 h2 => Int.not_lt.1 (HSO.out.high (by rw [← hv]; exact Int.not_lt.2 h) k h1 (by omega))
      have C : Hid (∀ W : World, Calls Try.prog 37 #[.agg #[.int .i64 vi, .int .i64 va, .int .i64 vb, .string vt, .int .i64 vp, .int .i64 vq, .string vz], .int .i64 x] W fun e w' => e = .returned (.int .i64 (cmpI vi x)) ∧ Below W.heap.size W w') := fun W => c_cmpRow vi va vb vt vp vq vz x W
      have g1 : (0 : Int) ≤ ((p : Int) + (q : Int)) / 2 := by omega
      have g2 : ((p : Int) + (q : Int)) / 2 < (n : Int) := by omega
      have g3 : (((p : Int) + (q : Int)) / 2).toNat = m := by omega
      have hw1 := mid_wrap p q (by omega)
      clear hc hcs d0 d1 d2 d3 d4 d5 d6 hv
      subst hm
      go_wp2_with fail
      refine (C.out wr).mono ?_
      rintro e w1 ⟨rfl, hb1⟩
      have hb' : Hid (Below w.heap.size w w1) := hb.out.trans (hb1.mono hb.out.size)
      clear hb1 e0 e1 e2 e3 e4 e5 e6 C hb
      by_cases hx : vi < x
      · have ec : cmpI vi x = -1 := by unfold cmpI; rw [if_pos hx]
        have HN : Hid (∀ k, k < (p + q) / 2 + 1 → (L.getD k zeroR).i < x) := HL.out hx
        rw [ec]
        clear hx ec HL HH
        go_wp2
        go_roundw
        case rel => exact ⟨(p + q) / 2 + 1, q, by omega, by omega, by first | go_num | (simp; done), rfl, HN, H2, hb'⟩
        case measure => simp [intOf]; omega
      · have ec : ¬ (cmpI vi x < 0) := by unfold cmpI; rw [if_neg hx]; split <;> omega
        have HN : Hid (∀ k, (p + q) / 2 ≤ k → k < n → x ≤ (L.getD k zeroR).i) := HH.out (Int.not_lt.1 hx)
        generalize cmpI vi x = cv at ec ⊢
        clear hx HL HH
        go_wp2
        go_roundw
        case rel => exact ⟨p, (p + q) / 2, by omega, by omega, rfl, by first | go_num | (simp; done), H1, HN, hb'⟩
        case measure => simp [intOf]; omega
    · have e : p = q := by omega
      subst e
      have hpos : posR L x = p := pos_uniq (by omega) H1.out (fun h => Int.not_lt.2 (H2.out p (Nat.le_refl _) (by omega)))
      by_cases hpn : p < n
      · obtain ⟨b, off, rfl, hbl, hc⟩ := hcs (by omega)
        obtain ⟨⟨vi, va, vb, vt, vp, vq, vz⟩, hv⟩ : ∃ v, v = L.getD p zeroR := ⟨_, rfl⟩
        obtain ⟨d0, d1, d2, d3, d4, d5, d6⟩ := RdR.at hc hpn hv
        dsimp only at d0 d1 d2 d3 d4 d5 d6
        have e0 : wr.cell? ⟨b, off + p * 7, none⟩ = some (.int .i64 vi) := by rw [hb.out.cell (p := ⟨b, off + p * 7, none⟩) hbl, d0]
        have e1 : wr.cell? ⟨b, off + p * 7 + 1, none⟩ = some (.int .i64 va) := by rw [hb.out.cell (p := ⟨b, off + p * 7 + 1, none⟩) hbl, d1]
        have e2 : wr.cell? ⟨b, off + p * 7 + 2, none⟩ = some (.int .i64 vb) := by rw [hb.out.cell (p := ⟨b, off + p * 7 + 2, none⟩) hbl, d2]
        have e3 : wr.cell? ⟨b, off + p * 7 + 3, none⟩ = some (.string vt) := by rw [hb.out.cell (p := ⟨b, off + p * 7 + 3, none⟩) hbl, d3]
        have e4 : wr.cell? ⟨b, off + p * 7 + 4, none⟩ = some (.int .i64 vp) := by rw [hb.out.cell (p := ⟨b, off + p * 7 + 4, none⟩) hbl, d4]
        have e5 : wr.cell? ⟨b, off + p * 7 + 5, none⟩ = some (.int .i64 vq) := by rw [hb.out.cell (p := ⟨b, off + p * 7 + 5, none⟩) hbl, d5]
        have e6 : wr.cell? ⟨b, off + p * 7 + 6, none⟩ = some (.string vz) := by rw [hb.out.cell (p := ⟨b, off + p * 7 + 6, none⟩) hbl, d6]
        have C : Hid (∀ W : World, Calls Try.prog 37 #[.agg #[.int .i64 vi, .int .i64 va, .int .i64 vb, .string vt, .int .i64 vp, .int .i64 vq, .string vz], .int .i64 x] W fun e w' => e = .returned (.int .i64 (cmpI vi x)) ∧ Below W.heap.size W w') := fun W => c_cmpRow vi va vb vt vp vq vz x W
        have eh : hitR L x = (cmpI vi x == 0) := by
          rw [hit_in (by omega), hpos, ← hv]
          unfold cmpI
          dsimp only
          by_cases h1 : vi < x
          · rw [if_pos h1, decide_eq_false (by omega)]; rfl
          · rw [if_neg h1]
            by_cases h2 : x < vi
            · rw [if_pos h2, decide_eq_false (by omega)]; rfl
            · rw [if_neg h2, decide_eq_true (by omega)]; rfl
        have HP : Hid (posR L x = p) := hpos
        have EH : Hid (hitR L x = (cmpI vi x == 0)) := eh
        have g1 : (0 : Int) ≤ (p : Int) := by omega
        have g2 : (p : Int) < (n : Int) := by omega
        clear hc hcs d0 d1 d2 d3 d4 d5 d6 hv hpos eh
        go_wp2_with fail
        refine (C.out wr).mono ?_
        rintro e w1 ⟨rfl, hb1⟩
        have hb' : Hid (Below w.heap.size w w1) := hb.out.trans (hb1.mono hb.out.size)
        clear hb1 e0 e1 e2 e3 e4 e5 e6 C hb
        generalize cmpI vi x = cv at EH ⊢
        go_wp2
        go_ret2
        exact ⟨ret_pb (by rw [HP.out]) (by first | exact EH.out.symm | (rw [EH.out]; rfl)), hb'.out⟩
      · have HP : Hid (posR L x = p) := hpos
        have EH : Hid (hitR L x = false) := hit_out (by omega)
        clear hpos hcs
        go_wp2
        go_ret2
        exact ⟨ret_pb (by rw [HP.out]) EH.out.symm, hb.out⟩

end Go.Proofs.Ytiobobocjokgiaa
