/-
  Right disks: the program's DiskOK and the specification's say the same.
-/
import Derived.Test.YtcokbogicbdoaaaDoorDkq
namespace Go.Proofs.YtcokbogicbdoaaaDoor
open Go Go.RowKit
attribute [local go_sem ↓] Go.wp_at_zero Go.wp_at_succ


def goodC (n : Nat) (p : PP) : Bool := decide (0 ≤ p.1 ∧ p.1 < n) && decide (p.2.size ≤ 160)
/-- A right disk. -/
def okD (D : DD) : Bool := decide (1 ≤ D.S.length ∧ D.S.length ≤ 100 ∧ D.C.length ≤ 500 ∧ D.K.length ≤ 500) && ((D.S.all fun s => decide (s.size ≤ 160)) && ((D.C.all (goodC D.S.length)) && (D.A || D.K.isEmpty)))
theorem ok_no {D : DD} (h : ¬ (1 ≤ D.S.length ∧ D.S.length ≤ 100 ∧ D.C.length ≤ 500 ∧ D.K.length ≤ 500)) : okD D = false := by unfold okD; rw [decide_eq_false h]; rfl
theorem ok_no1 {D : DD} (i : Nat) (hi : i < D.S.length) (h : 160 < (D.S.getD i ⟨#[]⟩).size) : okD D = false := by
  have : (D.S.all fun s => decide (s.size ≤ 160)) = false := by
    rw [List.all_eq_false]
    refine ⟨D.S[i], List.getElem_mem hi, ?_⟩
    rw [List.getD_eq_getElem?_getD, List.getElem?_eq_getElem hi] at h
    simp at h ⊢; omega
  unfold okD; rw [this]; simp
theorem ok_no2 {D : DD} (i : Nat) (hi : i < D.C.length) (h : goodC D.S.length (D.C.getD i dP) = false) : okD D = false := by
  have : D.C.all (goodC D.S.length) = false := by
    rw [List.all_eq_false]
    refine ⟨D.C[i], List.getElem_mem hi, ?_⟩
    rw [List.getD_eq_getElem?_getD, List.getElem?_eq_getElem hi] at h
    simp at h ⊢; exact h
  unfold okD; rw [this]; simp
theorem ok_no3 {D : DD} (h : D.A = false) (h' : D.K ≠ []) : okD D = false := by
  have : (D.A || D.K.isEmpty) = false := by rw [h]; cases hk : D.K <;> simp_all
  unfold okD; rw [this]; simp
theorem ok_yes {D : DD} (h : 1 ≤ D.S.length ∧ D.S.length ≤ 100 ∧ D.C.length ≤ 500 ∧ D.K.length ≤ 500) (h1 : ∀ j, j < D.S.length → (D.S.getD j ⟨#[]⟩).size ≤ 160) (h2 : ∀ j, j < D.C.length → goodC D.S.length (D.C.getD j dP) = true) (h3 : D.A = true ∨ D.K = []) : okD D = true := by
  have e1 : (D.S.all fun s => decide (s.size ≤ 160)) = true := by
    rw [List.all_eq_true]
    intro x hx
    obtain ⟨i, hi, rfl⟩ := List.getElem_of_mem hx
    have := h1 i hi
    rw [List.getD_eq_getElem?_getD, List.getElem?_eq_getElem hi] at this
    exact decide_eq_true this
  have e2 : D.C.all (goodC D.S.length) = true := by
    rw [List.all_eq_true]
    intro x hx
    obtain ⟨i, hi, rfl⟩ := List.getElem_of_mem hx
    have := h2 i hi
    rwa [List.getD_eq_getElem?_getD, List.getElem?_eq_getElem hi] at this
  have e3 : (D.A || D.K.isEmpty) = true := by rcases h3 with h | h <;> simp [h]
  unfold okD; rw [decide_eq_true h, e1, e2, e3]; rfl
theorem ok_last {D : DD} (h : 1 ≤ D.S.length ∧ D.S.length ≤ 100 ∧ D.C.length ≤ 500 ∧ D.K.length ≤ 500) (h1 : ∀ j, j < D.S.length → (D.S.getD j ⟨#[]⟩).size ≤ 160) (h2 : ∀ j, j < D.C.length → goodC D.S.length (D.C.getD j dP) = true) : okD D = (D.A || D.K.isEmpty) := by
  by_cases h3 : D.A = true ∨ D.K = []
  · rw [ok_yes h h1 h2 h3]; rcases h3 with h | h <;> simp [h]
  · have hA : D.A = false := by cases hA : D.A; rfl; exact absurd (.inl hA) h3
    have hK : D.K ≠ [] := fun e => h3 (.inr e)
    rw [ok_no3 hA hK, hA]; cases hk : D.K <;> simp_all
set_option maxRecDepth 100000 in
set_option maxHeartbeats 4000000 in
theorem c_specOK (h : HD) (D : DD) (w : World) (r : RdD w h D) (hf : Fit D) :
    Calls Tryd.prog 25 #[.agg #[.slice h.a0 h.n0 h.c0, .slice h.a1 h.n1 h.c1, .bool h.b, .slice h.a2 h.n2 h.c2]] w fun e w' => e = .returned (.bool (okD D)) ∧ Below w.heap.size w w' := by
  have k0 := r.l0
  have k1 := r.l1
  have k2 := r.l2
  obtain ⟨f0, f1, f2, f3, f4⟩ := hf
  obtain ⟨rb, r0, r1, r2⟩ := r
  obtain ⟨a0, n0, c0, a1, n1, c1, b, a2, n2, c2⟩ := h
  simp only at *
  have HB : Hid (Below w.heap.size w (w.alloc (.cells #[.slice a0 n0 c0, .slice a1 n1 c1, .bool b, .slice a2 n2 c2] 36))) := (Below.refl _ _).alloc (Nat.le_refl _) _
  have BX : Hid (Box (w.alloc (.cells #[.slice a0 n0 c0, .slice a1 n1 c1, .bool b, .slice a2 n2 c2] 36)) w.heap.size 36 #[.slice a0 n0 c0, .slice a1 n1 c1, .bool b, .slice a2 n2 c2]) := Box.new _ _ _
  cases hin : inB (n0 : Int) 1 100
  · have E : Hid (okD D = false) := ok_no (by rw [k0, k1, k2]; unfold inB at hin; have := of_decide_eq_false hin; omega)
    clear HB BX r0 r1 r2 f3 f4
    go_enter Tryd.func25, Tryd.ntmps25
    go_wp2_with (go_at_call 26; refine (c_in _ _ _ _).mono ?_; rintro e w' ⟨rfl, rfl⟩)
    go_ret
    exact ⟨ret_bool E.out.symm, (Below.refl _ _).alloc (Nat.le_refl _) _⟩
  · have hn : 1 ≤ n0 ∧ n0 ≤ 100 := by unfold inB at hin; have := of_decide_eq_true hin; omega
    by_cases q3 : 500 < n1
    · have E : Hid (okD D = false) := ok_no (by rw [k0, k1, k2]; omega)
      clear HB BX r0 r1 r2 f3 f4
      go_enter Tryd.func25, Tryd.ntmps25
      go_wp2_with (go_at_call 26; refine (c_in _ _ _ _).mono ?_; rintro e w' ⟨rfl, rfl⟩)
      go_ret
      exact ⟨ret_bool E.out.symm, (Below.refl _ _).alloc (Nat.le_refl _) _⟩
    · by_cases q4 : 500 < n2
      · have E : Hid (okD D = false) := ok_no (by rw [k0, k1, k2]; omega)
        clear HB BX r0 r1 r2 f3 f4
        go_enter Tryd.func25, Tryd.ntmps25
        go_wp2_with (go_at_call 26; refine (c_in _ _ _ _).mono ?_; rintro e w' ⟨rfl, rfl⟩)
        go_ret
        exact ⟨ret_bool E.out.symm, (Below.refl _ _).alloc (Nat.le_refl _) _⟩
      · cases b
        · by_cases q5 : 0 < n2
          · have E : Hid (okD D = false) := ok_no3 (by rw [← rb]) (fun e => by rw [e] at k2; simp at k2; omega)
            clear HB BX r0 r1 r2 f3 f4 rb
            go_enter Tryd.func25, Tryd.ntmps25
            go_wp2_with (go_at_call 26; refine (c_in _ _ _ _).mono ?_; rintro e w' ⟨rfl, rfl⟩)
            go_ret
            exact ⟨ret_bool E.out.symm, (Below.refl _ _).alloc (Nat.le_refl _) _⟩
          · have HA : Hid (D.A = true ∨ D.K = []) := .inr (List.eq_nil_of_length_eq_zero (by omega))
            obtain ⟨b0, off, rfl, hbl, hc0⟩ := r0.2 (by omega)
            have HBL : Hid (b0 < w.heap.size) := hbl
            have HC0 : Hid (∀ i, i < n0 → w.cell? ⟨b0, off + i, none⟩ = (D.S.map Value.string)[i]?) := hc0
            have R1 : Hid (RdP w a1 n1 D.C) := r1
            have F3 : Hid (∀ s ∈ D.S, s.size ≤ 1048576) := f3
            have F4 : Hid (∀ p ∈ D.C, p.2.size ≤ 1048576) := f4
            have RB : Hid (false = D.A) := rb
            clear r0 r1 r2 f3 f4 rb hbl hc0
            go_enter Tryd.func25, Tryd.ntmps25
            go_wp2_with (go_at_call 26; refine (c_in _ _ _ _).mono ?_; rintro e w' ⟨rfl, rfl⟩)
            go_loop [4] (fun i => ∃ k : Nat, k ≤ n0 ∧ i = .int .i64 k ∧ Hid (∀ j, j < k → (D.S.getD j ⟨#[]⟩).size ≤ 160)) (fun i => n0 - (intOf i).toNat)
            case atStart => exact ⟨0, by omega, rfl, fun j h => absurd h (by omega)⟩
            case round =>
              obtain ⟨k, hk, rfl, HS⟩ := hrel
              by_cases hlt : k < n0
              · obtain ⟨x, hx⟩ : ∃ x, x = D.S.getD k ⟨#[]⟩ := ⟨_, rfl⟩
                have hck : w.cell? ⟨b0, off + k, none⟩ = some (.string x) := by rw [hx, HC0.out k hlt]; exact map_get _ _ _ _ (by omega)
                have hck2 : (w.alloc (.cells #[.slice (some ⟨b0, off, none⟩) n0 c0, .slice a1 n1 c1, .bool false, .slice a2 n2 c2] 36)).cell? ⟨b0, off + k, none⟩ = some (.string x) := (HB.out.cell (p := ⟨b0, off + k, none⟩) HBL.out).trans hck
                have hxs : x.size ≤ 1048576 := by rw [hx]; exact F3.out _ (by rw [List.getD_eq_getElem?_getD, List.getElem?_eq_getElem (by omega)]; exact List.getElem_mem (by omega))
                have HX : Hid (x = D.S.getD k ⟨#[]⟩) := hx
                clear hx hck
                by_cases hbig : 160 < x.size
                · have E : Hid (okD D = false) := ok_no1 k (by omega) (by rw [← HX.out]; exact hbig)
                  go_wp2
                  go_ret
                  exact ⟨ret_bool E.out.symm, HB.out⟩
                · have HG : Hid (¬ 160 < x.size) := hbig
                  go_wp2
                  go_round
                  case rel => exact ⟨k + 1, by omega, by go_num, fun j hj => if e : j = k then by rw [e, ← HX.out]; have := HG.out; omega else HS.out j (by omega)⟩
                  case measure => simp [intOf]; omega
              · have e : n0 = k := by omega
                subst e
                go_wp2
                go_loopw [5] (fun i wr => ∃ k2 : Nat, k2 ≤ n1 ∧ i = .int .i64 k2 ∧ Hid (∀ j, j < k2 → goodC n0 (D.C.getD j dP) = true) ∧ Box wr w.heap.size 36 #[.slice (some ⟨b0, off, none⟩) n0 c0, .slice a1 n1 c1, .bool false, .slice a2 n2 c2] ∧ Below w.heap.size w wr) (fun i _ => n1 - (intOf i).toNat)
                case atStart => exact ⟨0, by omega, rfl, fun j h => absurd h (by omega), BX.out, HB.out⟩
                case round =>
                  obtain ⟨k2, hk2, rfl, HT, bx, hb⟩ := hrel
                  have v0 := bx.cell 0
                  have v1 := bx.cell 1
                  have v2 := bx.cell 2
                  have v3 := bx.cell 3
                  simp at v0 v1 v2 v3
                  by_cases hlt2 : k2 < n1
                  · obtain ⟨bb, off1, rfl, hbl, hc⟩ := R1.out.2 (by omega)
                    obtain ⟨⟨xa, xt⟩, hx⟩ : ∃ x, x = D.C.getD k2 dP := ⟨_, rfl⟩
                    obtain ⟨d0, d1⟩ := hc k2 hlt2
                    rw [← hx] at d0 d1
                    have e0 : wr.cell? ⟨bb, off1 + k2 * 2, none⟩ = some (.int .i64 xa) := (hb.cell (p := ⟨bb, off1 + k2 * 2, none⟩) hbl).trans d0
                    have e1 : wr.cell? ⟨bb, off1 + k2 * 2 + 1, none⟩ = some (.string xt) := (hb.cell (p := ⟨bb, off1 + k2 * 2 + 1, none⟩) hbl).trans d1
                    have hxs : xt.size ≤ 1048576 := by
                      have := F4.out (D.C.getD k2 dP) (by rw [List.getD_eq_getElem?_getD, List.getElem?_eq_getElem (by omega)]; exact List.getElem_mem (by omega))
                      rw [← hx] at this
                      exact this
                    have HX : Hid ((xa, xt) = D.C.getD k2 dP) := hx
                    have HB' : Hid (Below w.heap.size w wr) := hb
                    have HBX : Hid (Box wr w.heap.size 36 _) := bx
                    have hsz : w.heap.size < wr.heap.size := bx.lt
                    clear hc hx d0 d1 hb bx
                    cases hin2 : inB xa 0 ((n0 : Int) - 1)
                    · have E : Hid (okD D = false) := ok_no2 k2 (by omega) (by rw [← HX.out, k0]; unfold goodC; unfold inB at hin2; rw [decide_eq_false (by have := of_decide_eq_false hin2; omega)]; rfl)
                      go_wp2_with (go_at_call 26; refine (c_in _ _ _ _).mono ?_; rintro e w' ⟨rfl, rfl⟩)
                      go_ret
                      exact ⟨ret_bool E.out.symm, HB'.out.alloc (by omega) _⟩
                    · by_cases hbig : 160 < xt.size
                      · have E : Hid (okD D = false) := ok_no2 k2 (by omega) (by rw [← HX.out]; unfold goodC; rw [decide_eq_false (p := xt.size ≤ 160) (by omega), Bool.and_false])
                        go_wp2_with (go_at_call 26; refine (c_in _ _ _ _).mono ?_; rintro e w' ⟨rfl, rfl⟩)
                        go_ret
                        exact ⟨ret_bool E.out.symm, HB'.out.alloc (by omega) _⟩
                      · have HG : Hid (goodC n0 (xa, xt) = true) := by unfold Hid goodC; unfold inB at hin2; rw [decide_eq_true (by have := of_decide_eq_true hin2; omega), decide_eq_true (p := xt.size ≤ 160) (by omega)]; rfl
                        go_wp2_with (go_at_call 26; refine (c_in _ _ _ _).mono ?_; rintro e w' ⟨rfl, rfl⟩)
                        go_roundw
                        case rel => exact ⟨k2 + 1, by omega, by go_num, fun j hj => if e : j = k2 then by rw [e, ← HX.out]; exact HG.out else HT.out j (by omega), HBX.out.alloc _, HB'.out.alloc (by omega) _⟩
                        case measure => simp [intOf]; omega
                  · have e : n1 = k2 := by omega
                    subst e
                    have E : Hid (okD D = true) := ok_yes ⟨by omega, by omega, by omega, by omega⟩ (by rw [k0]; exact HS.out) (by rw [k0, k1]; exact HT.out) HA.out
                    go_wp2
                    go_ret
                    exact ⟨ret_bool E.out.symm, hb⟩
        · have HA : Hid (D.A = true ∨ D.K = []) := .inl rb.symm
          obtain ⟨b0, off, rfl, hbl, hc0⟩ := r0.2 (by omega)
          have HBL : Hid (b0 < w.heap.size) := hbl
          have HC0 : Hid (∀ i, i < n0 → w.cell? ⟨b0, off + i, none⟩ = (D.S.map Value.string)[i]?) := hc0
          have R1 : Hid (RdP w a1 n1 D.C) := r1
          have F3 : Hid (∀ s ∈ D.S, s.size ≤ 1048576) := f3
          have F4 : Hid (∀ p ∈ D.C, p.2.size ≤ 1048576) := f4
          have RB : Hid (true = D.A) := rb
          clear r0 r1 r2 f3 f4 rb hbl hc0
          go_enter Tryd.func25, Tryd.ntmps25
          go_wp2_with (go_at_call 26; refine (c_in _ _ _ _).mono ?_; rintro e w' ⟨rfl, rfl⟩)
          go_loop [4] (fun i => ∃ k : Nat, k ≤ n0 ∧ i = .int .i64 k ∧ Hid (∀ j, j < k → (D.S.getD j ⟨#[]⟩).size ≤ 160)) (fun i => n0 - (intOf i).toNat)
          case atStart => exact ⟨0, by omega, rfl, fun j h => absurd h (by omega)⟩
          case round =>
            obtain ⟨k, hk, rfl, HS⟩ := hrel
            by_cases hlt : k < n0
            · obtain ⟨x, hx⟩ : ∃ x, x = D.S.getD k ⟨#[]⟩ := ⟨_, rfl⟩
              have hck : w.cell? ⟨b0, off + k, none⟩ = some (.string x) := by rw [hx, HC0.out k hlt]; exact map_get _ _ _ _ (by omega)
              have hck2 : (w.alloc (.cells #[.slice (some ⟨b0, off, none⟩) n0 c0, .slice a1 n1 c1, .bool true, .slice a2 n2 c2] 36)).cell? ⟨b0, off + k, none⟩ = some (.string x) := (HB.out.cell (p := ⟨b0, off + k, none⟩) HBL.out).trans hck
              have hxs : x.size ≤ 1048576 := by rw [hx]; exact F3.out _ (by rw [List.getD_eq_getElem?_getD, List.getElem?_eq_getElem (by omega)]; exact List.getElem_mem (by omega))
              have HX : Hid (x = D.S.getD k ⟨#[]⟩) := hx
              clear hx hck
              by_cases hbig : 160 < x.size
              · have E : Hid (okD D = false) := ok_no1 k (by omega) (by rw [← HX.out]; exact hbig)
                go_wp2
                go_ret
                exact ⟨ret_bool E.out.symm, HB.out⟩
              · have HG : Hid (¬ 160 < x.size) := hbig
                go_wp2
                go_round
                case rel => exact ⟨k + 1, by omega, by go_num, fun j hj => if e : j = k then by rw [e, ← HX.out]; have := HG.out; omega else HS.out j (by omega)⟩
                case measure => simp [intOf]; omega
            · have e : n0 = k := by omega
              subst e
              go_wp2
              go_loopw [5] (fun i wr => ∃ k2 : Nat, k2 ≤ n1 ∧ i = .int .i64 k2 ∧ Hid (∀ j, j < k2 → goodC n0 (D.C.getD j dP) = true) ∧ Box wr w.heap.size 36 #[.slice (some ⟨b0, off, none⟩) n0 c0, .slice a1 n1 c1, .bool true, .slice a2 n2 c2] ∧ Below w.heap.size w wr) (fun i _ => n1 - (intOf i).toNat)
              case atStart => exact ⟨0, by omega, rfl, fun j h => absurd h (by omega), BX.out, HB.out⟩
              case round =>
                obtain ⟨k2, hk2, rfl, HT, bx, hb⟩ := hrel
                have v0 := bx.cell 0
                have v1 := bx.cell 1
                have v2 := bx.cell 2
                have v3 := bx.cell 3
                simp at v0 v1 v2 v3
                by_cases hlt2 : k2 < n1
                · obtain ⟨bb, off1, rfl, hbl, hc⟩ := R1.out.2 (by omega)
                  obtain ⟨⟨xa, xt⟩, hx⟩ : ∃ x, x = D.C.getD k2 dP := ⟨_, rfl⟩
                  obtain ⟨d0, d1⟩ := hc k2 hlt2
                  rw [← hx] at d0 d1
                  have e0 : wr.cell? ⟨bb, off1 + k2 * 2, none⟩ = some (.int .i64 xa) := (hb.cell (p := ⟨bb, off1 + k2 * 2, none⟩) hbl).trans d0
                  have e1 : wr.cell? ⟨bb, off1 + k2 * 2 + 1, none⟩ = some (.string xt) := (hb.cell (p := ⟨bb, off1 + k2 * 2 + 1, none⟩) hbl).trans d1
                  have hxs : xt.size ≤ 1048576 := by
                    have := F4.out (D.C.getD k2 dP) (by rw [List.getD_eq_getElem?_getD, List.getElem?_eq_getElem (by omega)]; exact List.getElem_mem (by omega))
                    rw [← hx] at this
                    exact this
                  have HX : Hid ((xa, xt) = D.C.getD k2 dP) := hx
                  have HB' : Hid (Below w.heap.size w wr) := hb
                  have HBX : Hid (Box wr w.heap.size 36 _) := bx
                  have hsz : w.heap.size < wr.heap.size := bx.lt
                  clear hc hx d0 d1 hb bx
                  cases hin2 : inB xa 0 ((n0 : Int) - 1)
                  · have E : Hid (okD D = false) := ok_no2 k2 (by omega) (by rw [← HX.out, k0]; unfold goodC; unfold inB at hin2; rw [decide_eq_false (by have := of_decide_eq_false hin2; omega)]; rfl)
                    go_wp2_with (go_at_call 26; refine (c_in _ _ _ _).mono ?_; rintro e w' ⟨rfl, rfl⟩)
                    go_ret
                    exact ⟨ret_bool E.out.symm, HB'.out.alloc (by omega) _⟩
                  · by_cases hbig : 160 < xt.size
                    · have E : Hid (okD D = false) := ok_no2 k2 (by omega) (by rw [← HX.out]; unfold goodC; rw [decide_eq_false (p := xt.size ≤ 160) (by omega), Bool.and_false])
                      go_wp2_with (go_at_call 26; refine (c_in _ _ _ _).mono ?_; rintro e w' ⟨rfl, rfl⟩)
                      go_ret
                      exact ⟨ret_bool E.out.symm, HB'.out.alloc (by omega) _⟩
                    · have HG : Hid (goodC n0 (xa, xt) = true) := by unfold Hid goodC; unfold inB at hin2; rw [decide_eq_true (by have := of_decide_eq_true hin2; omega), decide_eq_true (p := xt.size ≤ 160) (by omega)]; rfl
                      go_wp2_with (go_at_call 26; refine (c_in _ _ _ _).mono ?_; rintro e w' ⟨rfl, rfl⟩)
                      go_roundw
                      case rel => exact ⟨k2 + 1, by omega, by go_num, fun j hj => if e : j = k2 then by rw [e, ← HX.out]; exact HG.out else HT.out j (by omega), HBX.out.alloc _, HB'.out.alloc (by omega) _⟩
                      case measure => simp [intOf]; omega
                · have e : n1 = k2 := by omega
                  subst e
                  have E : Hid (okD D = true) := ok_yes ⟨by omega, by omega, by omega, by omega⟩ (by rw [k0]; exact HS.out) (by rw [k0, k1]; exact HT.out) HA.out
                  go_wp2
                  go_ret
                  exact ⟨ret_bool E.out.symm, hb⟩

end Go.Proofs.YtcokbogicbdoaaaDoor
