/-
  The specification of whether changes are right.
-/
import Derived.Test.YtiobobocjokgiaaHd
import Derived.Deep.RegionHeld3
namespace Go.Proofs.Ytiobobocjokgiaa
open Go Go.RowKit
attribute [local go_sem ↓] Go.wp_at_zero Go.wp_at_succ

set_option linter.unusedVariables false
set_option linter.unusedSimpArgs false
set_option maxRecDepth 100000 in
set_option maxHeartbeats 8000000 in
theorem c_lChs (a : Option Addr) (n cap : Nat) (vs : List CW) (w : World) (hr : RdC w a n vs) (hn : n ≤ 1048576) (hs : ∀ v ∈ vs, v.t.size ≤ maxLen ∧ v.z.size ≤ maxLen) :
    Calls Try.prog 18 #[.slice a n cap] w fun e w' => e = .returned (.bool (chsB n vs)) ∧ Below w.heap.size w w' := by
  by_cases h : 1000 < n
  · have E : chsB n vs = false := by unfold chsB; rw [decide_eq_false (by omega)]; rfl
    rw [E]
    clear hr hs E
    go_enter Try.func18, Try.ntmps18
    go_wp2
    go_ret
    exact ⟨rfl, Below.refl _ _⟩
  have E : Hid (chsB n vs = vs.all chK) := by unfold Hid chsB; rw [decide_eq_true (by omega)]; rfl
  obtain ⟨hl, hcs⟩ := hr
  have HSZ : Hid (∀ v ∈ vs, v.t.size ≤ maxLen ∧ v.z.size ≤ maxLen) := hs
  clear hs
  go_enter Try.func18, Try.ntmps18
  go_wp2
  go_loopw [3] (fun i wr => ∃ k : Nat, k ≤ n ∧ i = .int .i64 k ∧ Hid ((vs.take k).all chK = true) ∧ Hid (Below w.heap.size w wr)) (fun i _ => n - (intOf i).toNat)
  case atStart => exact ⟨0, by omega, rfl, rfl, Below.refl _ _⟩
  case round =>
    obtain ⟨k, hk, rfl, HA, hb⟩ := hrel
    by_cases hlt : k < n
    · obtain ⟨b, off, rfl, hbl, hc⟩ := hcs (by omega)
      obtain ⟨⟨vse, vtb, vi, va, vb, vt, vp, vq, vz, vg⟩, hv⟩ : ∃ v, v = vs.getD k zeroC := ⟨_, rfl⟩
      obtain ⟨d0, d1, d2, d3, d4, d5, d6, d7, d8, d9⟩ := RdC.at hc hlt hv
      dsimp only at d0 d1 d2 d3 d4 d5 d6 d7 d8 d9
      have e0 : wr.cell? ⟨b, off + k * 10, none⟩ = some (.int .i64 vse) := by rw [hb.out.cell (p := ⟨b, off + k * 10, none⟩) hbl, d0]
      have e1 : wr.cell? ⟨b, off + k * 10 + 1, none⟩ = some (.int .i64 vtb) := by rw [hb.out.cell (p := ⟨b, off + k * 10 + 1, none⟩) hbl, d1]
      have e2 : wr.cell? ⟨b, off + k * 10 + 2, none⟩ = some (.int .i64 vi) := by rw [hb.out.cell (p := ⟨b, off + k * 10 + 2, none⟩) hbl, d2]
      have e3 : wr.cell? ⟨b, off + k * 10 + 3, none⟩ = some (.int .i64 va) := by rw [hb.out.cell (p := ⟨b, off + k * 10 + 3, none⟩) hbl, d3]
      have e4 : wr.cell? ⟨b, off + k * 10 + 4, none⟩ = some (.int .i64 vb) := by rw [hb.out.cell (p := ⟨b, off + k * 10 + 4, none⟩) hbl, d4]
      have e5 : wr.cell? ⟨b, off + k * 10 + 5, none⟩ = some (.string vt) := by rw [hb.out.cell (p := ⟨b, off + k * 10 + 5, none⟩) hbl, d5]
      have e6 : wr.cell? ⟨b, off + k * 10 + 6, none⟩ = some (.int .i64 vp) := by rw [hb.out.cell (p := ⟨b, off + k * 10 + 6, none⟩) hbl, d6]
      have e7 : wr.cell? ⟨b, off + k * 10 + 7, none⟩ = some (.int .i64 vq) := by rw [hb.out.cell (p := ⟨b, off + k * 10 + 7, none⟩) hbl, d7]
      have e8 : wr.cell? ⟨b, off + k * 10 + 8, none⟩ = some (.string vz) := by rw [hb.out.cell (p := ⟨b, off + k * 10 + 8, none⟩) hbl, d8]
      have e9 : wr.cell? ⟨b, off + k * 10 + 9, none⟩ = some (.bool vg) := by rw [hb.out.cell (p := ⟨b, off + k * 10 + 9, none⟩) hbl, d9]
      have hvs : vt.size ≤ maxLen ∧ vz.size ≤ maxLen := by
        have := getD_ofX (d := zeroC) HSZ.out (show k < vs.length by omega)
        rw [← hv] at this
        exact this
      obtain ⟨p0, g0⟩ : ∃ p, inB vse 0 2 = p := ⟨_, rfl⟩
      obtain ⟨p1, g1⟩ : ∃ p, inB vtb 1 3 = p := ⟨_, rfl⟩
      obtain ⟨p2, g2⟩ : ∃ p, rowB vi (va, vb, vt) (vp, vq, vz) = p := ⟨_, rfl⟩
      have EK : chK (⟨vse, vtb, vi, va, vb, vt, vp, vq, vz, vg⟩ : CW) = (p0 && (p1 && p2)) := by unfold chK; rw [← g0, ← g1, ← g2]
      have HS : Hid ((vs.take (k + 1)).all chK = ((vs.take k).all chK && (p0 && (p1 && p2)))) := by
        unfold Hid
        have hk' : k < vs.length := by omega
        rw [List.take_add_one, List.all_append, List.getElem?_eq_getElem hk', ← EK, hv, List.getD_eq_getElem?_getD, List.getElem?_eq_getElem hk']
        simp
      have HX : Hid ((p0 && (p1 && p2)) = false → vs.all chK = false) := fun h => by
        have hk' : k < vs.length := by omega
        rw [List.all_eq_false]
        refine ⟨vs[k], List.getElem_mem hk', ?_⟩
        rw [List.getD_eq_getElem?_getD, List.getElem?_eq_getElem hk'] at hv
        simp only [Option.getD_some] at hv
        rw [← hv, EK, h]
        simp
      have C0 : Hid (∀ W : World, Calls Try.prog 19 #[.int .i64 vse, .int .i64 0, .int .i64 2] W fun e w' => e = .returned (.bool p0) ∧ w' = W) := fun W => by rw [← g0]; exact c_in vse 0 2 W
      have C1 : Hid (∀ W : World, Calls Try.prog 19 #[.int .i64 vtb, .int .i64 1, .int .i64 3] W fun e w' => e = .returned (.bool p1) ∧ w' = W) := fun W => by rw [← g1]; exact c_in vtb 1 3 W
      have C2 : Hid (∀ W : World, Calls Try.prog 31 #[.agg #[.int .i64 vi, .int .i64 va, .int .i64 vb, .string vt, .int .i64 vp, .int .i64 vq, .string vz]] W fun e w' => e = .returned (.bool p2) ∧ Below W.heap.size W w') := fun W => by rw [← g2]; exact c_lRow vi (va, vb, vt) (vp, vq, vz) W hvs.1 hvs.2
      obtain ⟨V, hV⟩ : ∃ V, wr.alloc (.cells #[.int .i64 vse, .int .i64 vtb, .int .i64 vi, .int .i64 va, .int .i64 vb, .string vt, .int .i64 vp, .int .i64 vq, .string vz, .bool vg] 42) = V := ⟨_, rfl⟩
      have BV : Hid (Below w.heap.size w V) := by unfold Hid; rw [← hV]; exact hb.out.alloc hb.out.size _
      have X : Hid (Box V wr.heap.size 42 #[.int .i64 vse, .int .i64 vtb, .int .i64 vi, .int .i64 va, .int .i64 vb, .string vt, .int .i64 vp, .int .i64 vq, .string vz, .bool vg]) := by unfold Hid; rw [← hV]; exact Box.new _ _ _
      clear hc hcs d0 d1 d2 d3 d4 d5 d6 d7 d8 d9 hv g0 g1 g2 EK hvs hb hbl
      obtain ⟨x0, x1, x2, x3, x4, x5, x6, x7, x8, x9⟩ := box10 X.out
      go_wp2_with fail
      refine (C0.out _).mono ?_
      rintro e w0 ⟨rfl, hw⟩
      rw [hw]
      clear hw C0 e0 e1 e2 e3 e4 e5 e6 e7 e8 e9
      cases p0
      · clear hV
        go_wp2
        go_ret
        exact ⟨ret_bool (by rw [E.out, HX.out rfl]), BV.out⟩
      go_wp2_with fail
      refine (C1.out _).mono ?_
      rintro e w0 ⟨rfl, hw⟩
      rw [hw]
      clear hw C1
      cases p1
      · clear hV
        go_wp2
        go_ret
        exact ⟨ret_bool (by rw [E.out, HX.out rfl]), BV.out⟩
      go_wp2_with fail
      refine (C2.out _).mono ?_
      rintro e w1 ⟨rfl, hb⟩
      have B1 : Hid (Below w.heap.size w w1) := BV.out.trans (hb.mono BV.out.size)
      clear hb C2 BV x0 x1 x2 x3 x4 x5 x6 x7 x8 x9 X hV
      cases p2
      · go_wp2
        go_ret
        exact ⟨ret_bool (by rw [E.out, HX.out rfl]), B1.out⟩
      go_wp2
      go_roundw
      case rel => exact ⟨k + 1, by omega, by go_num, by unfold Hid; rw [HS.out, HA.out]; rfl, B1⟩
      case measure => simp [intOf]; omega
    · have e : k = n := by omega
      subst e
      go_wp2
      go_ret
      have := HA.out
      rw [List.take_of_length_le (by omega)] at this
      exact ⟨ret_bool (by rw [E.out, this]), hb.out⟩

end Go.Proofs.Ytiobobocjokgiaa
