/-
  Right stores: the records of a log stand in their places, and their epochs do not fall.
-/
import Derived.Test.YtimdoaehlciecaaYla
import Derived.Test.YtimdoaehlciecaaLp
import Derived.Test.YtimdoaehlciecaaRo
namespace Go.Proofs.Ytimdoaehlciecaa
open Go Go.RowKit
attribute [local go_sem ↓] Go.wp_at_zero Go.wp_at_succ

theorem getD_of {α : Type} {Q : α → Prop} {vs : List α} {d : α} {k : Nat} (h : ∀ v ∈ vs, Q v) (hk : k < vs.length) : Q (vs.getD k d) := by
  rw [List.getD_eq_getElem?_getD, List.getElem?_eq_getElem hk]
  exact h _ (List.getElem_mem hk)
set_option maxRecDepth 100000 in
set_option maxHeartbeats 4000000 in
theorem c_inPlace (a : Option Addr) (n cap : Nat) (vs : List DR) (w : World) (hr : RdQ w a n vs) (hn : n ≤ 100000) (hs : ∀ v ∈ vs, v.b.size ≤ maxLen ∧ v.a.size ≤ maxLen) :
    Calls Try.prog 25 #[.slice a n cap] w fun e w' => e = .returned (.bool (inPl 0 vs)) ∧ Below w.heap.size w w' := by
  obtain ⟨hl, hcs⟩ := hr
  go_enter Try.func25, Try.ntmps25
  go_wp2
  go_loopw [7] (fun i wr => ∃ k : Nat, k ≤ n ∧ i = .int .i64 k ∧ Hid (inPl k (vs.drop k) = inPl 0 vs) ∧ Below w.heap.size w wr) (fun i _ => n - (intOf i).toNat)
  case atStart => exact ⟨0, by omega, rfl, rfl, Below.refl _ _⟩
  case round =>
    obtain ⟨k, hk, rfl, HI, hb⟩ := hrel
    by_cases hlt : k < n
    · obtain ⟨b, off, rfl, hbl, hc⟩ := hcs (by omega)
      obtain ⟨⟨ve, vl, vt, vk, vp, vn, vg, vz, vb, va⟩, hv⟩ : ∃ v, v = vs.getD k zeroR := ⟨_, rfl⟩
      obtain ⟨d0, d1, d2, d3, d4, d5, d6, d7, d8, d9⟩ := RdQ.at hc hlt hv
      dsimp only at d0 d1 d2 d3 d4 d5 d6 d7 d8 d9
      have e0 : wr.cell? ⟨b, off + k * 10, none⟩ = some (.int .i64 ve) := by rw [hb.cell (p := ⟨b, off + k * 10, none⟩) hbl, d0]
      have e1 : wr.cell? ⟨b, off + k * 10 + 1, none⟩ = some (.int .i64 vl) := by rw [hb.cell (p := ⟨b, off + k * 10 + 1, none⟩) hbl, d1]
      have e2 : wr.cell? ⟨b, off + k * 10 + 2, none⟩ = some (.int .i64 vt) := by rw [hb.cell (p := ⟨b, off + k * 10 + 2, none⟩) hbl, d2]
      have e3 : wr.cell? ⟨b, off + k * 10 + 3, none⟩ = some (.int .i64 vk) := by rw [hb.cell (p := ⟨b, off + k * 10 + 3, none⟩) hbl, d3]
      have e4 : wr.cell? ⟨b, off + k * 10 + 4, none⟩ = some (.int .i64 vp) := by rw [hb.cell (p := ⟨b, off + k * 10 + 4, none⟩) hbl, d4]
      have e5 : wr.cell? ⟨b, off + k * 10 + 5, none⟩ = some (.int .i64 vn) := by rw [hb.cell (p := ⟨b, off + k * 10 + 5, none⟩) hbl, d5]
      have e6 : wr.cell? ⟨b, off + k * 10 + 6, none⟩ = some (.int .i64 vg) := by rw [hb.cell (p := ⟨b, off + k * 10 + 6, none⟩) hbl, d6]
      have e7 : wr.cell? ⟨b, off + k * 10 + 7, none⟩ = some (.int .i64 vz) := by rw [hb.cell (p := ⟨b, off + k * 10 + 7, none⟩) hbl, d7]
      have e8 : wr.cell? ⟨b, off + k * 10 + 8, none⟩ = some (.string vb) := by rw [hb.cell (p := ⟨b, off + k * 10 + 8, none⟩) hbl, d8]
      have e9 : wr.cell? ⟨b, off + k * 10 + 9, none⟩ = some (.string va) := by rw [hb.cell (p := ⟨b, off + k * 10 + 9, none⟩) hbl, d9]
      have hss := getD_of (d := zeroR) hs (show k < vs.length by omega)
      have HA := inPl_at (vs := vs) (k := k) (by omega)
      rw [← hv] at HA hss
      have HA' : Hid (_ = _) := HA
      have C : Hid (∀ wx, Calls Try.prog 23 #[.agg #[.int .i64 ve, .int .i64 vl, .int .i64 vt, .int .i64 vk, .int .i64 vp, .int .i64 vn, .int .i64 vg, .int .i64 vz, .string vb, .string va]] wx fun e w' => e = .returned (.bool (okLR ⟨ve, vl, vt, vk, vp, vn, vg, vz, vb, va⟩)) ∧ Below wx.heap.size wx w') := fun wx => c_implLR ve vl vt vk vp vn vg vz vb va wx hss.1 hss.2
      have g1 : (0 : Int) ≤ (k : Int) := by omega
      have g2 : (k : Int) < (n : Int) := by omega
      clear hc hcs hv HA hss d0 d1 d2 d3 d4 d5 d6 d7 d8 d9 hs
      obtain ⟨W, hW⟩ : ∃ W, wr.alloc (.cells #[.int .i64 ve, .int .i64 vl, .int .i64 vt, .int .i64 vk, .int .i64 vp, .int .i64 vn, .int .i64 vg, .int .i64 vz, .string vb, .string va] 43) = W := ⟨_, rfl⟩
      have HN : Hid (Box W wr.heap.size 43 #[.int .i64 ve, .int .i64 vl, .int .i64 vt, .int .i64 vk, .int .i64 vp, .int .i64 vn, .int .i64 vg, .int .i64 vz, .string vb, .string va]) := by unfold Hid; rw [← hW]; exact Box.new _ _ _
      have HB : Hid (Below w.heap.size w W) := by unfold Hid; rw [← hW]; exact hb.alloc hb.size _
      obtain ⟨y0, y1, y2, y3, y4, y5, y6, y7, y8, y9⟩ := box10 HN.out
      clear hb
      go_wp2_with fail
      refine (C.out W).mono ?_
      rintro e w3 ⟨rfl, hb3⟩
      have HB3 : Hid (Below w.heap.size w w3) := HB.out.trans (hb3.mono HB.out.size)
      have z1 : w3.cell? ⟨wr.heap.size, 1, none⟩ = some (.int .i64 vl) := far6 hb3 y1
      clear hb3 C HB HN hW y0 y1 y2 y3 y4 y5 y6 y7 y8 y9 e0 e1 e2 e3 e4 e5 e6 e7 e8 e9
      cases hok : okLR ⟨ve, vl, vt, vk, vp, vn, vg, vz, vb, va⟩
      · have E : Hid (inPl 0 vs = false) := by unfold Hid; rw [← HI.out, HA'.out, hok]; rfl
        clear hok
        go_wp2
        go_ret
        exact ⟨ret_bool E.out.symm, HB3.out⟩
      by_cases hq : vl = (k : Int) + 1
      · have c1 : (vl != (k : Int) + 1) = false := by simpa using hq
        have E : Hid (inPl (k + 1) (vs.drop (k + 1)) = inPl 0 vs) := by unfold Hid; rw [← HI.out, HA'.out, hok, decide_eq_true hq]; rfl
        clear hok hq
        go_wp2
        go_roundw
        case rel => exact ⟨k + 1, by omega, by go_num, E, HB3.out⟩
        case measure => simp [intOf]; omega
      · have c1 : (vl != (k : Int) + 1) = true := by simpa using hq
        have E : Hid (inPl 0 vs = false) := by unfold Hid; rw [← HI.out, HA'.out, hok, decide_eq_false hq]; rfl
        clear hok hq
        go_wp2
        go_ret
        exact ⟨ret_bool E.out.symm, HB3.out⟩
    · have e : k = n := by omega
      subst e
      have E : Hid (inPl 0 vs = true) := by unfold Hid; rw [← HI.out, List.drop_eq_nil_of_le (by omega)]; rfl
      go_wp2
      go_ret
      exact ⟨ret_bool E.out.symm, hb⟩
end Go.Proofs.Ytimdoaehlciecaa
