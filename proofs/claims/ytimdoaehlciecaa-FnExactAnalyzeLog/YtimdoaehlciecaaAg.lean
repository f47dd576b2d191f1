/-
  AnalyzeLog of the program: the walk over the log.
-/
import Derived.Test.YtimdoaehlciecaaAf
import Derived.Test.YtimdoaehlciecaaLr
namespace Go.Proofs.Ytimdoaehlciecaa
open Go Go.RowKit
attribute [local go_sem ↓] Go.wp_at_zero Go.wp_at_succ

set_option maxRecDepth 100000 in
set_option maxHeartbeats 8000000 in
theorem c_analyzed (a : Option Addr) (n cap : Nat) (L : List DR) (w : World) (hr : RdQ w a n L) (hn : n ≤ 60) (hs : ∀ v ∈ L, v.b.size ≤ maxLen ∧ v.a.size ≤ maxLen) (H : ∀ j, j < L.length → okLR (L.getD j zeroR) = true ∧ (L.getD j zeroR).l = (j : Int) + 1) :
    Calls Try.prog 29 #[.slice a n cap] w fun e w' => (∃ w0, w.heap.size ≤ w0.heap.size ∧ AnsTo w0 (anR L) e w') ∧ Below w.heap.size w w' := by
  have HOK : Hid (∀ j, j < L.length → okLR (L.getD j zeroR) = true ∧ (L.getD j zeroR).l = (j : Int) + 1) := H
  have HS : Hid (∀ v ∈ L, v.b.size ≤ maxLen ∧ v.a.size ≤ maxLen) := hs
  have hl := hr.1
  have RL : Hid (RdQ w a n L) := hr
  clear hr H hs
  have hz69 := zero69
  obtain ⟨V, hV⟩ : ∃ Q, w.alloc (.cells #[.int .i64 0, .int .i64 0, .int .i64 0, .int .i64 0, .int .i64 0, .int .i64 0, .int .i64 0, .int .i64 0, .int .i64 0, .int .i64 0, .int .i64 0, .int .i64 0, .int .i64 0, .int .i64 0, .int .i64 0, .int .i64 0, .int .i64 0, .int .i64 0, .int .i64 0, .int .i64 0, .int .i64 0, .int .i64 0, .int .i64 0, .int .i64 0, .int .i64 0, .int .i64 0, .int .i64 0, .int .i64 0, .int .i64 0, .int .i64 0, .int .i64 0, .int .i64 0, .int .i64 0, .int .i64 0, .int .i64 0, .int .i64 0, .int .i64 0, .int .i64 0, .int .i64 0, .int .i64 0, .int .i64 0, .int .i64 0, .int .i64 0, .int .i64 0, .int .i64 0, .int .i64 0, .int .i64 0, .int .i64 0, .int .i64 0, .int .i64 0, .int .i64 0, .int .i64 0, .int .i64 0, .int .i64 0, .int .i64 0, .int .i64 0, .int .i64 0, .int .i64 0, .int .i64 0, .int .i64 0, .int .i64 0, .int .i64 0, .int .i64 0, .int .i64 0, .int .i64 0, .int .i64 0, .int .i64 0, .int .i64 0, .int .i64 0] 69) = Q := ⟨_, rfl⟩
  have BV : Hid (Below w.heap.size w V) := by unfold Hid; rw [← hV]; exact (Below.refl _ _).alloc (Nat.le_refl _) _
  have AV : Hid (AnB V w.heap.size (anR (L.take 0))) := by unfold Hid; rw [← hV]; exact anB0 w
  go_enter Try.func29, Try.ntmps29
  go_wp2
  go_loopw [9] (fun i wr => ∃ k : Nat, k ≤ n ∧ i = .int .i64 k ∧ Hid (AnB wr w.heap.size (anR (L.take k))) ∧ Hid (Below w.heap.size w wr)) (fun i _ => n - (intOf i).toNat)
  case atStart => exact ⟨0, by omega, rfl, AV, BV⟩
  case round =>
    clear AV BV
    obtain ⟨k, hk, rfl, HA, BW⟩ := hrel
    by_cases hlt : k < n
    · have RQ := RL.out.below BW.out
      obtain ⟨b, off, hla, hbl, hc⟩ := RQ.2 (by omega)
      subst hla
      obtain ⟨⟨ve, vl, vt, vk, vp, vn, vg, vz, vb, va⟩, hv⟩ : ∃ v, v = L.getD k zeroR := ⟨_, rfl⟩
      obtain ⟨e0, e1, e2, e3, e4, e5, e6, e7, e8, e9⟩ := RdQ.at hc hlt hv
      dsimp only at e0 e1 e2 e3 e4 e5 e6 e7 e8 e9
      have HAT := anR_take (L := L) (k := k) (by omega)
      have HO := HOK.out k (by omega)
      have hss := getD_of (d := zeroR) HS.out (show k < L.length by omega)
      rw [← hv] at HAT HO hss
      have HAT' : Hid (_ = _) := HAT
      have HO' : Hid (_ ∧ _) := HO
      have hva : va.size ≤ maxLen := hss.2
      have g1 : (0 : Int) ≤ (k : Int) := by omega
      have g2 : (k : Int) < (n : Int) := by omega
      obtain ⟨W, hW⟩ : ∃ W, wr.alloc (.cells #[.int .i64 ve, .int .i64 vl, .int .i64 vt, .int .i64 vk, .int .i64 vp, .int .i64 vn, .int .i64 vg, .int .i64 vz, .string vb, .string va] 43) = W := ⟨_, rfl⟩
      have hbA : Below wr.heap.size wr W := by rw [← hW]; exact (Below.refl _ _).alloc (Nat.le_refl _) _
      have BX : Hid (Below w.heap.size w W) := BW.out.trans (hbA.mono BW.out.size)
      have AW : Hid (AnB W w.heap.size (anR (L.take k))) := Box.belowS HA.out hbA
      have NW : Hid (Box W wr.heap.size 43 #[.int .i64 ve, .int .i64 vl, .int .i64 vt, .int .i64 vk, .int .i64 vp, .int .i64 vn, .int .i64 vg, .int .i64 vz, .string vb, .string va]) := by unfold Hid; rw [← hW]; exact Box.new _ _ _
      have nb : Hid (w.heap.size < wr.heap.size) := HA.out.lt
      clear hc hv HAT HO hbA HA RQ hss
      obtain ⟨y0, y1, y2, y3, y4, y5, y6, y7, y8, y9⟩ := box10 NW.out
      by_cases k6 : vk = 6
      · have C := c_ckd ve vl vt vk vp vn vg vz vb va W HO'.out.1 k6 hva
        have E : Hid (anR (L.take (k + 1)) = anC ⟨ve, vl, vt, vk, vp, vn, vg, vz, vb, va⟩) := by unfold Hid; rw [HAT'.out]; unfold anS; rw [if_pos k6]
        have c1 : (vk == 6) = true := by simpa using k6
        clear HAT' HO' k6 hva
        go_wp2_with fail
        refine C.mono ?_
        rintro e w3 ⟨rfl, hb3⟩
        have A3 : Hid (AnB w3 w.heap.size (anR (L.take k))) := Box.belowS AW.out hb3
        have B3 : Hid (Below w.heap.size w w3) := BX.out.trans (hb3.mono BX.out.size)
        have A4 : Hid (AnB (w3.setRow w.heap.size (anA (anC ⟨ve, vl, vt, vk, vp, vn, vg, vz, vb, va⟩))) w.heap.size (anR (L.take (k + 1)))) := by unfold Hid; rw [E.out]; exact A3.out.row _
        have B4 : Hid (Below w.heap.size w (w3.setRow w.heap.size (anA (anC ⟨ve, vl, vt, vk, vp, vn, vg, vz, vb, va⟩)))) := row_below B3.out (Nat.le_refl _) _
        clear hb3 C y0 y1 y2 y3 y4 y5 y6 y7 y8 y9 e0 e1 e2 e3 e4 e5 e6 e7 e8 e9 hW
        go_wp2_with (first | (refine wpList_store_row rfl 69 (.tmp 4) (.tmp 17) rfl w.heap.size (anA (anC ⟨ve, vl, vt, vk, vp, vn, vg, vz, vb, va⟩)) rfl rfl 69 (anA (anR (L.take k))) A3.out (info69 _) (by rw [anA_size, anA_size]) (anA_one _) ?_))
        go_roundw
        case rel => exact ⟨k + 1, by omega, by go_num, A4, B4⟩
        case measure => simp [intOf]; omega
      have c1 : (vk == 6) = false := by simpa using k6
      have HT := okLR_t HO'.out.1 k6
      have HG := rec_g HO'.out.1
      dsimp only at HT HG
      obtain ⟨m, rfl⟩ : ∃ m : Nat, vt = (m : Int) := ⟨vt.toNat, by omega⟩
      obtain ⟨p, rfl⟩ : ∃ p : Nat, vg = (p : Int) := ⟨vg.toNat, by omega⟩
      have C := c_meet w.heap.size (anR (L.take k)) ve vl vk vp vn vz m p vb va W AW.out (by omega) (by omega)
      have E : Hid (anR (L.take (k + 1)) = anM (anR (L.take k)) ⟨ve, vl, (m : Int), vk, vp, vn, (p : Int), vz, vb, va⟩) := by unfold Hid; rw [HAT'.out]; unfold anS; rw [if_neg k6]
      clear HAT' HO' k6 hva HT HG
      go_wp2_with fail
      refine C.mono ?_
      rintro e w3 ⟨rfl, ha3, hb3⟩
      have A4 : Hid (AnB w3 w.heap.size (anR (L.take (k + 1)))) := by unfold Hid; rw [E.out]; exact ha3
      have B4 : Hid (Below w.heap.size w w3) := BX.out.trans hb3
      clear ha3 hb3 C y0 y1 y2 y3 y4 y5 y6 y7 y8 y9 e0 e1 e2 e3 e4 e5 e6 e7 e8 e9 hW
      go_wp2
      go_roundw
      case rel => exact ⟨k + 1, by omega, by go_num, A4, B4⟩
      case measure => simp [intOf]; omega
    · have e : k = n := by omega
      have HA2 : Hid (AnB wr w.heap.size (anR L)) := by have := HA.out; rw [List.take_of_length_le (by omega)] at this; exact this
      have hnl : ¬ ((k : Nat) : Int) < (n : Int) := by omega
      clear HA e hlt hk
      have CT := c_told w.heap.size (anR L) wr HA2.out
      go_wp2_with fail
      refine CT.mono ?_
      rintro e w3 ⟨⟨ad, cd, at', ct, rfl, od, ot⟩, hb3⟩
      have OD : Hid (w3.ownsRow wr.heap.size 54 2 (.slice ad (drS (anR L)).length cd) (drS (anR L)).length (cellsD (toD (drS (anR L))))) := od
      have OT : Hid (w3.ownsRow wr.heap.size 57 2 (.slice at' (txS (anR L)).length ct) (txS (anR L)).length (cellsT (toT (txS (anR L))))) := ot
      have B3 : Hid (Below w.heap.size w w3) := BW.out.trans (hb3.mono BW.out.size)
      clear od ot hb3 CT
      go_wp2
      go_ret2
      exact ⟨⟨wr, BW.out.size, ad, cd, at', ct, rfl, OD.out, OT.out⟩, B3.out⟩
/-- The answers of AnalyzeLog. -/
def anlC (n : Nat) (L : List DR) : Int := if 4096 < n then 2 else if 60 < n then 6 else if inPl 0 L then 0 else 1
def anlG (n : Nat) (L : List DR) : Nat → Int := if 60 < n then fun _ => 0 else if inPl 0 L then anR L else fun _ => 0
def AnsAL (w : World) (n : Nat) (L : List DR) (e : Ending) (w' : World) : Prop :=
  ∃ ad cd at' ct, e = .returned (.tuple #[.slice ad (drS (anlG n L)).length cd, .slice at' (txS (anlG n L)).length ct, .int .i64 (anlC n L)]) ∧ w'.ownsRow w.heap.size 54 2 (.slice ad (drS (anlG n L)).length cd) (drS (anlG n L)).length (cellsD (toD (drS (anlG n L)))) ∧ w'.ownsRow w.heap.size 57 2 (.slice at' (txS (anlG n L)).length ct) (txS (anlG n L)).length (cellsT (toT (txS (anlG n L))))
theorem drS0 : drS (fun _ => 0) = [] := seg_zero 8 0 (fun _ _ _ => rfl)
theorem txS0 : txS (fun _ => 0) = [] := seg_zero 61 0 (fun _ _ _ => rfl)
theorem ansAL_nil {w w' : World} {n : Nat} {L : List DR} {c : Int} (h : anlG n L = fun _ => 0) (hc : anlC n L = c) : AnsAL w n L (.returned (.tuple #[.slice none 0 0, .slice none 0 0, .int .i64 c])) w' := by
  subst hc
  unfold AnsAL
  rw [h, drS0, txS0]
  exact ⟨none, 0, none, 0, rfl, World.ownsRow_nil _ _ _ _, World.ownsRow_nil _ _ _ _⟩
set_option maxRecDepth 100000 in
set_option maxHeartbeats 8000000 in
theorem c_implAL (a : Option Addr) (n cap : Nat) (L : List DR) (w : World) (hr : RdQ w a n L) (hn : n ≤ 1048576) (hs : ∀ v ∈ L, v.b.size ≤ maxLen ∧ v.a.size ≤ maxLen) :
    Calls Try.prog 12 #[.slice a n cap] w fun e w' => AnsAL w n L e w' ∧ Below w.heap.size w w' := by
  by_cases h1 : 4096 < n
  · have E : Hid (anlG n L = (fun _ => 0) ∧ anlC n L = 2) := by unfold Hid anlG anlC; rw [if_pos (by omega), if_pos h1]; exact ⟨rfl, rfl⟩
    clear hr hs
    go_enter Try.func12, Try.ntmps12
    go_wp2
    go_ret3
    exact ⟨ansAL_nil E.out.1 E.out.2, Below.refl _ _⟩
  by_cases h2 : 60 < n
  · have E : Hid (anlG n L = (fun _ => 0) ∧ anlC n L = 6) := by unfold Hid anlG anlC; rw [if_pos h2, if_neg h1, if_pos h2]; exact ⟨rfl, rfl⟩
    clear hr hs
    go_enter Try.func12, Try.ntmps12
    go_wp2
    go_ret3
    exact ⟨ansAL_nil E.out.1 E.out.2, Below.refl _ _⟩
  have CP := c_inPlace a n cap L w hr (by omega) hs
  cases hip : inPl 0 L
  · have E : Hid (anlG n L = (fun _ => 0) ∧ anlC n L = 1) := by unfold Hid anlG anlC; rw [if_neg h2, if_neg h1, if_neg h2, hip]; exact ⟨rfl, rfl⟩
    rw [hip] at CP
    clear hr hs hip
    go_enter Try.func12, Try.ntmps12
    go_wp2_with fail
    refine CP.mono ?_
    rintro e w1 ⟨rfl, hb⟩
    go_wp2
    go_ret3
    exact ⟨ansAL_nil E.out.1 E.out.2, hb⟩
  have E : Hid (anlG n L = anR L ∧ anlC n L = 0) := by unfold Hid anlG anlC; rw [if_neg h2, if_neg h1, if_neg h2, hip]; exact ⟨rfl, rfl⟩
  have HOK : Hid (∀ j, j < L.length → okLR (L.getD j zeroR) = true ∧ (L.getD j zeroR).l = (j : Int) + 1) := fun j hj => by
    have := inPl_all L 0 hip j hj
    exact ⟨this.1, by have := this.2; omega⟩
  have HS : Hid (∀ v ∈ L, v.b.size ≤ maxLen ∧ v.a.size ≤ maxLen) := hs
  rw [hip] at CP
  have RL : Hid (RdQ w a n L) := hr
  clear hr hs hip
  go_enter Try.func12, Try.ntmps12
  go_wp2_with fail
  refine CP.mono ?_
  rintro e w1 ⟨rfl, hb⟩
  have B1 : Hid (Below w.heap.size w w1) := hb
  have CA := c_analyzed a n cap L w1 (RL.out.below hb) (by omega) HS.out HOK.out
  clear hb CP
  go_wp2_with fail
  refine CA.mono ?_
  rintro e w2 ⟨⟨w0, l0, ad, cd, at', ct, rfl, od, ot⟩, hb⟩
  have B2 : Hid (Below w.heap.size w w2) := B1.out.trans (hb.mono B1.out.size)
  have OD := od.down (Nat.le_trans B1.out.size l0)
  have OT := ot.down (Nat.le_trans B1.out.size l0)
  have F : Hid (AnsAL w n L (.returned (.tuple #[.slice ad (drS (anR L)).length cd, .slice at' (txS (anR L)).length ct, .int .i64 0])) w2) := by
    unfold Hid AnsAL
    rw [E.out.1, E.out.2]
    exact ⟨ad, cd, at', ct, rfl, OD, OT⟩
  clear hb CA od ot OD OT l0
  go_wp2
  go_ret3
  exact ⟨F.out, B2.out⟩

end Go.Proofs.Ytimdoaehlciecaa
