/-
  Right disks: the walk of the program's DiskOK.
-/
import Derived.Test.YtcokbogicbdoaaaDoorOkq
namespace Go.Proofs.YtcokbogicbdoaaaDoor
open Go Go.RowKit
attribute [local go_sem ↓] Go.wp_at_zero Go.wp_at_succ


set_option maxRecDepth 100000 in
theorem c_has (a0 : Option Addr) (n0 c0 : Nat) (a1 : Option Addr) (n1 c1 : Nat) (b : Bool) (a2 : Option Addr) (n2 c2 : Nat) (x : Int) (w : World) :
    Calls Tryd.prog 61 #[.agg #[.slice a0 n0 c0, .slice a1 n1 c1, .bool b, .slice a2 n2 c2], .int .i64 x] w fun e w' => e = .returned (.bool (decide (0 ≤ x ∧ x < n0))) ∧ Below w.heap.size w w' := by
  by_cases h1 : 0 ≤ x <;> by_cases h2 : x < n0
  all_goals
    go_enter Tryd.func61, Tryd.ntmps61
    go_wp2
    go_ret
    exact ⟨ret_bool (by simp [h1, h2]), (Below.refl _ _).alloc (Nat.le_refl _) _⟩
set_option maxRecDepth 100000 in
set_option maxHeartbeats 4000000 in
theorem c_implOK (h : HD) (D : DD) (w : World) (r : RdD w h D) (hf : Fit D) :
    Calls Tryd.prog 30 #[.agg #[.slice h.a0 h.n0 h.c0, .slice h.a1 h.n1 h.c1, .bool h.b, .slice h.a2 h.n2 h.c2]] w fun e w' => e = .returned (.bool (okD D)) ∧ Below w.heap.size w w' := by
  have k0 := r.l0
  have k1 := r.l1
  have k2 := r.l2
  obtain ⟨f0, f1, f2, f3, f4⟩ := hf
  obtain ⟨rb, r0, r1, r2⟩ := r
  obtain ⟨a0, n0, c0, a1, n1, c1, b, a2, n2, c2⟩ := h
  simp only at *
  have HB : Hid (Below w.heap.size w (w.alloc (.cells #[.slice a0 n0 c0, .slice a1 n1 c1, .bool b, .slice a2 n2 c2] 36))) := (Below.refl _ _).alloc (Nat.le_refl _) _
  have BX : Hid (Box (w.alloc (.cells #[.slice a0 n0 c0, .slice a1 n1 c1, .bool b, .slice a2 n2 c2] 36)) w.heap.size 36 #[.slice a0 n0 c0, .slice a1 n1 c1, .bool b, .slice a2 n2 c2]) := Box.new _ _ _
  by_cases q1 : n0 < 1
  · have E : Hid (okD D = false) := ok_no (by rw [k0, k1, k2]; omega)
    clear HB BX r0 r1 r2 f3 f4
    go_enter Tryd.func30, Tryd.ntmps30
    go_wp2
    go_ret
    exact ⟨ret_bool E.out.symm, (Below.refl _ _).alloc (Nat.le_refl _) _⟩
  · by_cases q2 : 100 < n0
    · have E : Hid (okD D = false) := ok_no (by rw [k0, k1, k2]; omega)
      clear HB BX r0 r1 r2 f3 f4
      go_enter Tryd.func30, Tryd.ntmps30
      go_wp2
      go_ret
      exact ⟨ret_bool E.out.symm, (Below.refl _ _).alloc (Nat.le_refl _) _⟩
    · by_cases q3 : 500 < n1
      · have E : Hid (okD D = false) := ok_no (by rw [k0, k1, k2]; omega)
        clear HB BX r0 r1 r2 f3 f4
        go_enter Tryd.func30, Tryd.ntmps30
        go_wp2
        go_ret
        exact ⟨ret_bool E.out.symm, (Below.refl _ _).alloc (Nat.le_refl _) _⟩
      · by_cases q4 : 500 < n2
        · have E : Hid (okD D = false) := ok_no (by rw [k0, k1, k2]; omega)
          clear HB BX r0 r1 r2 f3 f4
          go_enter Tryd.func30, Tryd.ntmps30
          go_wp2
          go_ret
          exact ⟨ret_bool E.out.symm, (Below.refl _ _).alloc (Nat.le_refl _) _⟩
        · have hn : 1 ≤ n0 ∧ n0 ≤ 100 := by omega
          obtain ⟨b0, off, rfl, hbl, hc0⟩ := r0.2 (by omega)
          have HBL : Hid (b0 < w.heap.size) := hbl
          have HC0 : Hid (∀ i, i < n0 → w.cell? ⟨b0, off + i, none⟩ = (D.S.map Value.string)[i]?) := hc0
          have R1 : Hid (RdP w a1 n1 D.C) := r1
          have F3 : Hid (∀ s ∈ D.S, s.size ≤ 1048576) := f3
          have F4 : Hid (∀ p ∈ D.C, p.2.size ≤ 1048576) := f4
          have RB : Hid (b = D.A) := rb
          clear r0 r1 r2 f3 f4 rb hbl hc0
          go_enter Tryd.func30, Tryd.ntmps30
          go_wp2
          go_loop [32] (fun i => ∃ k : Nat, k ≤ n0 ∧ i = .int .i64 k ∧ Hid (∀ j, j < k → (D.S.getD j ⟨#[]⟩).size ≤ 160)) (fun i => n0 - (intOf i).toNat)
          case atStart => exact ⟨0, by omega, rfl, fun j h => absurd h (by omega)⟩
          case round =>
            obtain ⟨k, hk, rfl, HS⟩ := hrel
            by_cases hlt : k < n0
            · obtain ⟨x, hx⟩ : ∃ x, x = D.S.getD k ⟨#[]⟩ := ⟨_, rfl⟩
              have hck : w.cell? ⟨b0, off + k, none⟩ = some (.string x) := by rw [hx, HC0.out k hlt]; exact map_get _ _ _ _ (by omega)
              have hck2 : (w.alloc (.cells #[.slice (some ⟨b0, off, none⟩) n0 c0, .slice a1 n1 c1, .bool b, .slice a2 n2 c2] 36)).cell? ⟨b0, off + k, none⟩ = some (.string x) := (HB.out.cell (p := ⟨b0, off + k, none⟩) HBL.out).trans hck
              have hxs : x.size ≤ 1048576 := by rw [hx]; exact F3.out _ (by rw [List.getD_eq_getElem?_getD, List.getElem?_eq_getElem (by omega)]; exact List.getElem_mem (by omega))
              have HX : Hid (x = D.S.getD k ⟨#[]⟩) := hx
              clear hx hck
              by_cases hbig : 160 < x.size
              · have E : Hid (okD D = false) := ok_no1 k (by omega) (by rw [← HX.out]; exact hbig)
                go_wp2
                go_ret
                exact ⟨ret_bool E.out.symm, HB.out⟩
              · have HG : Hid (¬ 160 < x.size) := hbig
                go_wp2
                go_round
                case rel => exact ⟨k + 1, by omega, by go_num, fun j hj => if e : j = k then by rw [e, ← HX.out]; have := HG.out; omega else HS.out j (by omega)⟩
                case measure => simp [intOf]; omega
            · have e : n0 = k := by omega
              subst e
              go_wp2
              go_loopw [43] (fun i wr => ∃ k2 : Nat, k2 ≤ n1 ∧ i = .int .i64 k2 ∧ Hid (∀ j, j < k2 → goodC n0 (D.C.getD j dP) = true) ∧ Box wr w.heap.size 36 #[.slice (some ⟨b0, off, none⟩) n0 c0, .slice a1 n1 c1, .bool b, .slice a2 n2 c2] ∧ Below w.heap.size w wr) (fun i _ => n1 - (intOf i).toNat)
              case atStart => exact ⟨0, by omega, rfl, fun j h => absurd h (by omega), BX.out, HB.out⟩
              case round =>
                obtain ⟨k2, hk2, rfl, HT, bx, hb⟩ := hrel
                have v0 := bx.cell 0
                have v1 := bx.cell 1
                have v2 := bx.cell 2
                have v3 := bx.cell 3
                simp at v0 v1 v2 v3
                by_cases hlt2 : k2 < n1
                · obtain ⟨bb, off1, rfl, hbl, hc⟩ := R1.out.2 (by omega)
                  obtain ⟨⟨xa, xt⟩, hx⟩ : ∃ x, x = D.C.getD k2 dP := ⟨_, rfl⟩
                  obtain ⟨d0, d1⟩ := hc k2 hlt2
                  rw [← hx] at d0 d1
                  have e0 : wr.cell? ⟨bb, off1 + k2 * 2, none⟩ = some (.int .i64 xa) := (hb.cell (p := ⟨bb, off1 + k2 * 2, none⟩) hbl).trans d0
                  have e1 : wr.cell? ⟨bb, off1 + k2 * 2 + 1, none⟩ = some (.string xt) := (hb.cell (p := ⟨bb, off1 + k2 * 2 + 1, none⟩) hbl).trans d1
                  have hxs : xt.size ≤ 1048576 := by
                    have := F4.out (D.C.getD k2 dP) (by rw [List.getD_eq_getElem?_getD, List.getElem?_eq_getElem (by omega)]; exact List.getElem_mem (by omega))
                    rw [← hx] at this
                    exact this
                  have HX : Hid ((xa, xt) = D.C.getD k2 dP) := hx
                  have HB' : Hid (Below w.heap.size w wr) := hb
                  have HBX : Hid (Box wr w.heap.size 36 _) := bx
                  have hsz : w.heap.size < wr.heap.size := bx.lt
                  clear hc hx d0 d1 hb bx
                  have HE : Hid (Below w.heap.size w (wr.alloc (.cells #[.int .i64 xa, .string xt] 103))) := HB'.out.alloc (by omega) _
                  have HBY : Hid (Box (wr.alloc (.cells #[.int .i64 xa, .string xt] 103)) wr.heap.size 103 #[.int .i64 xa, .string xt]) := Box.new _ _ _
                  have HBZ : Hid (Box (wr.alloc (.cells #[.int .i64 xa, .string xt] 103)) w.heap.size 36 _) := HBX.out.alloc _
                  obtain ⟨t, ht⟩ : ∃ t, t = decide (0 ≤ xa ∧ xa < (n0 : Int)) := ⟨_, rfl⟩
                  have HT2 : Hid (t = decide (0 ≤ xa ∧ xa < (n0 : Int))) := ht
                  clear ht
                  go_wp2_with fail
                  refine (c_has _ n0 _ _ _ _ _ _ _ _ xa _).mono ?_
                  rintro e w3 ⟨rfl, hb3⟩
                  rw [← HT2.out]
                  have HE3 : Hid (Below w.heap.size w w3) := HE.out.trans (hb3.mono HE.out.size)
                  have y3 := HBY.out.belowS hb3
                  have z3 := HBZ.out.belowS hb3
                  have HZ3 : Hid (Box w3 w.heap.size 36 _) := z3
                  have u0 := y3.cell 0
                  have u1 := y3.cell 1
                  simp at u0 u1
                  clear hb3 y3 z3 HE HBY HBZ HB' HBX v0 v1 v2 v3 e0 e1
                  cases t
                  · have E : Hid (okD D = false) := ok_no2 k2 (by omega) (by rw [← HX.out, k0]; unfold goodC; rw [← HT2.out]; rfl)
                    go_wp2
                    go_ret
                    exact ⟨ret_bool E.out.symm, HE3.out⟩
                  · by_cases hbig : 160 < xt.size
                    · have E : Hid (okD D = false) := ok_no2 k2 (by omega) (by rw [← HX.out]; unfold goodC; rw [decide_eq_false (p := xt.size ≤ 160) (by omega), Bool.and_false])
                      go_wp2
                      go_ret
                      exact ⟨ret_bool E.out.symm, HE3.out⟩
                    · have HG : Hid (goodC n0 (xa, xt) = true) := by unfold Hid goodC; rw [← HT2.out, decide_eq_true (p := xt.size ≤ 160) (by omega)]; rfl
                      go_wp2
                      go_roundw
                      case rel => exact ⟨k2 + 1, by omega, by go_num, fun j hj => if e : j = k2 then by rw [e, ← HX.out]; exact HG.out else HT.out j (by omega), HZ3.out, HE3.out⟩
                      case measure => simp [intOf]; omega
                · have e : n1 = k2 := by omega
                  subst e
                  have E : Hid (∀ t : Bool, t = (D.A || D.K.isEmpty) → okD D = t) := fun t ht => by
                    rw [ht]; exact ok_last ⟨by omega, by omega, by omega, by omega⟩ (by rw [k0]; exact HS.out) (by rw [k0, k1]; exact HT.out)
                  have HK : Hid (D.K.isEmpty = decide (n2 = 0)) := by unfold Hid; rw [← k2]; cases D.K <;> simp
                  cases b
                  · by_cases hz : n2 = 0
                    · subst hz
                      have EE : Hid (okD D = true) := E.out true (by rw [← RB.out, HK.out]; rfl)
                      go_wp2
                      go_ret
                      exact ⟨ret_bool EE.out.symm, hb⟩
                    · have EE : Hid (okD D = false) := E.out false (by rw [← RB.out, HK.out, decide_eq_false hz]; rfl)
                      have hz' : ((n2 : Int) == 0) = false := by simp; omega
                      go_wp2
                      go_ret
                      exact ⟨ret_bool EE.out.symm, hb⟩
                  · have EE : Hid (okD D = true) := E.out true (by rw [← RB.out]; rfl)
                    go_wp2
                    go_ret
                    exact ⟨ret_bool EE.out.symm, hb⟩

end Go.Proofs.YtcokbogicbdoaaaDoor
