/-
  LogLinks of the specification, and the law.
-/
import Derived.Test.YtimdoaehlciecaaLt
import Derived.Test.YtimdoaehlciecaaYta
import Derived.Deep.RegionHeld3
namespace Go.Proofs.Ytimdoaehlciecaa
open Go Go.RowKit
attribute [local go_sem ↓] Go.wp_at_zero Go.wp_at_succ

set_option maxRecDepth 100000 in
set_option maxHeartbeats 8000000 in
theorem c_specLL (a : Option Addr) (n cap : Nat) (L : List DR) (w : World) (hr : RdQ w a n L) (hn : n ≤ 1048576) (hs : ∀ v ∈ L, v.b.size ≤ 1048576 ∧ v.a.size ≤ 1048576) :
    Calls Try.prog 7 #[.slice a n cap] w fun e w' => e = .returned (.tuple #[.bool (llR n L), .int .i64 (llC n L)]) ∧ Below w.heap.size w w' := by
  by_cases h1 : 4096 < n
  · have E : Hid (llR n L = false ∧ llC n L = 2) := by unfold Hid llR llC; rw [if_pos (by omega), if_pos h1]; exact ⟨rfl, rfl⟩
    clear hr hs
    go_enter Try.func7, Try.ntmps7
    go_wp2
    go_ret2
    exact ⟨ret_bi E.out.1.symm E.out.2.symm, Below.refl _ _⟩
  by_cases h2 : 60 < n
  · have E : Hid (llR n L = false ∧ llC n L = 6) := by unfold Hid llR llC; rw [if_pos h2, if_neg h1, if_pos h2]; exact ⟨rfl, rfl⟩
    clear hr hs
    go_enter Try.func7, Try.ntmps7
    go_wp2
    go_ret2
    exact ⟨ret_bi E.out.1.symm E.out.2.symm, Below.refl _ _⟩
  have E0 : Hid ((inPl 0 L = true → llR n L = lnkS L (fun _ => 0) (fun _ => false) L ∧ llC n L = 0) ∧ (inPl 0 L = false → llR n L = false ∧ llC n L = 1)) := by
    unfold Hid llR llC
    refine ⟨fun h => ?_, fun h => ?_⟩
    · rw [if_neg h2, if_neg h1, if_neg h2, h, ← lnk_eq h]; exact ⟨rfl, rfl⟩
    · rw [if_neg h2, if_neg h1, if_neg h2, h]; exact ⟨rfl, rfl⟩
  have HS : Hid (∀ v ∈ L, v.b.size ≤ 1048576 ∧ v.a.size ≤ 1048576) := hs
  have hl := hr.1
  have RL : Hid (RdQ w a n L) := hr
  clear hr hs
  go_enter Try.func7, Try.ntmps7
  go_wp2
  go_loopw [4] (fun i wr => ∃ k : Nat, k ≤ n ∧ i = .int .i64 k ∧ Hid (inPl k (L.drop k) = inPl 0 L) ∧ Hid (Below w.heap.size w wr)) (fun i _ => n - (intOf i).toNat)
  case atStart => exact ⟨0, by omega, rfl, rfl, Below.refl _ _⟩
  case round =>
    obtain ⟨k, hk, rfl, HI, BW⟩ := hrel
    by_cases hlt : k < n
    · have RQ := RL.out.below BW.out
      obtain ⟨b, off, hla, hbl, hc⟩ := RQ.2 (by omega)
      subst hla
      obtain ⟨⟨ve, vl, vt, vk, vp, vn, vg, vz, vb, va⟩, hv⟩ : ∃ v, v = L.getD k zeroR := ⟨_, rfl⟩
      obtain ⟨e0, e1, e2, e3, e4, e5, e6, e7, e8, e9⟩ := RdQ.at hc hlt hv
      dsimp only at e0 e1 e2 e3 e4 e5 e6 e7 e8 e9
      have HAT := inPl_at (vs := L) (k := k) (by omega)
      have hss := getD_of (d := zeroR) HS.out (show k < L.length by omega)
      rw [← hv] at HAT hss
      have HAT' : Hid (_ = _) := HAT
      have C := c_specLR ve vl vt vk vp vn vg vz vb va wr hss.1 hss.2
      rw [okLS_eq] at C
      have g1 : (0 : Int) ≤ (k : Int) := by omega
      have g2 : (k : Int) < (n : Int) := by omega
      clear hc hv HAT RQ hss
      cases hok : okLR ⟨ve, vl, vt, vk, vp, vn, vg, vz, vb, va⟩
      case false =>
        have E : Hid (inPl 0 L = false) := by unfold Hid; rw [← HI.out, HAT'.out, hok]; rfl
        have E1 := E0.out.2 E.out
        have E2 : Hid (_ ∧ _) := E1
        rw [hok] at C
        clear hok HAT' E E1
        go_wp2_with fail
        refine C.mono ?_
        rintro e w1 ⟨rfl, hb⟩
        have B1 : Hid (Below w.heap.size w w1) := BW.out.trans (hb.mono BW.out.size)
        clear hb C
        go_wp2
        go_ret2
        exact ⟨ret_bi E2.out.1.symm E2.out.2.symm, B1.out⟩
      rw [hok] at C
      by_cases hq : vl = (k : Int) + 1
      · have c1 : (vl != (k : Int) + 1) = false := by simpa using hq
        have E : Hid (inPl (k + 1) (L.drop (k + 1)) = inPl 0 L) := by unfold Hid; rw [← HI.out, HAT'.out, hok, decide_eq_true hq]; rfl
        clear hok hq HAT'
        go_wp2_with fail
        refine C.mono ?_
        rintro e w1 ⟨rfl, hb⟩
        have B1 : Hid (Below w.heap.size w w1) := BW.out.trans (hb.mono BW.out.size)
        have z1 := far6 hb e1
        clear hb C e0 e1 e2 e3 e4 e5 e6 e7 e8 e9
        go_wp2
        go_roundw
        case rel => exact ⟨k + 1, by omega, by go_num, E, B1⟩
        case measure => simp [intOf]; omega
      · have c1 : (vl != (k : Int) + 1) = true := by simpa using hq
        have E : Hid (inPl 0 L = false) := by unfold Hid; rw [← HI.out, HAT'.out, hok, decide_eq_false hq]; rfl
        have E1 := E0.out.2 E.out
        have E2 : Hid (_ ∧ _) := E1
        clear hok hq HAT' E E1
        go_wp2_with fail
        refine C.mono ?_
        rintro e w1 ⟨rfl, hb⟩
        have B1 : Hid (Below w.heap.size w w1) := BW.out.trans (hb.mono BW.out.size)
        have z1 := far6 hb e1
        clear hb C e0 e1 e2 e3 e4 e5 e6 e7 e8 e9
        go_wp2
        go_ret2
        exact ⟨ret_bi E2.out.1.symm E2.out.2.symm, B1.out⟩
    · have e : k = n := by omega
      subst e
      have E : Hid (inPl 0 L = true) := by unfold Hid; rw [← HI.out, List.drop_eq_nil_of_le (by omega)]; rfl
      have E1 := E0.out.1 E.out
      have E2 : Hid (_ ∧ _) := E1
      have C := c_links a k cap L wr (RL.out.below BW.out) (by omega) (fun j hj => by
        have := inPl_all L 0 E.out j hj
        exact ⟨this.1, by have := this.2; omega⟩)
      clear E E1
      go_wp2_with fail
      refine C.mono ?_
      rintro e w1 ⟨rfl, hb⟩
      have B1 : Hid (Below w.heap.size w w1) := BW.out.trans (hb.mono BW.out.size)
      clear hb C
      go_wp2
      go_ret2
      exact ⟨ret_bi E2.out.1.symm E2.out.2.symm, B1.out⟩
set_option maxRecDepth 100000 in
set_option maxHeartbeats 8000000 in
theorem law_FnExactLogLinks (a : Option Addr) (n cap : Nat) (L : List DR) (w : World) (hr : RdQ w a n L) (hm : n ≤ maxLen) (hs : ∀ v ∈ L, v.b.size ≤ maxLen ∧ v.a.size ≤ maxLen) :
    Calls Try.prog 3 #[.slice a n cap] w fun e w' => e = .returned (.bool true) ∧ Below w.heap.size w w' := by
  have C1 := c_szQ a n cap L 1048576 w hr hm hs (by omega) (by omega)
  have RL : Hid (RdQ w a n L) := hr
  have HL : Hid (L.length = n) := hr.1
  clear hr hm hs
  go_enter Try.func3, Try.ntmps3
  go_wp2_with fail
  refine C1.mono ?_
  rintro e w1 ⟨⟨z, rfl, hz, hf⟩, hb⟩
  have B1 : Hid (Below w.heap.size w w1) := hb
  clear hb C1
  by_cases hneg : z < 0
  · clear hf
    go_wp2
    go_ret
    exact ⟨rfl, B1.out⟩
  have FS : Hid (n ≤ 1048576 ∧ ∀ v ∈ L, v.b.size ≤ 1048576 ∧ v.a.size ≤ 1048576) := hf (by omega)
  clear hf
  have CT : Hid (∀ W, Below w.heap.size w W → Calls Try.prog 8 #[.slice a n cap] W fun e w' => e = .returned (.slice (some ⟨W.heap.size, 0, none⟩) n n) ∧ w'.ownsRow W.heap.size 43 10 (.slice (some ⟨W.heap.size, 0, none⟩) n n) n (cellsQ L) ∧ Below W.heap.size W w') := fun W hW => c_toQ a n cap L W (RL.out.below hW) FS.out.1
  go_wp2_with fail
  refine (CT.out w1 B1.out).mono ?_
  rintro e w2 ⟨rfl, ho2, hb⟩
  have B2 : Hid (Below w.heap.size w w2) := B1.out.trans (hb.mono B1.out.size)
  have C3 := c_specLL _ n n L w2 (RdQ.own ho2) FS.out.1 FS.out.2
  clear ho2 hb B1
  go_wp2_with fail
  refine C3.mono ?_
  rintro e w3 ⟨rfl, hb⟩
  have B3 : Hid (Below w.heap.size w w3) := B2.out.trans (hb.mono B2.out.size)
  obtain ⟨R, hR⟩ : ∃ x, x = llR n L := ⟨_, rfl⟩
  obtain ⟨K, hK⟩ : ∃ x, x = llC n L := ⟨_, rfl⟩
  rw [← hR, ← hK]
  have HR : Hid (R = llR n L ∧ K = llC n L) := ⟨hR, hK⟩
  clear hb C3 B2 hR hK
  go_wp2_with fail
  refine (CT.out w3 B3.out).mono ?_
  rintro e w4 ⟨rfl, ho4, hb⟩
  have B4 : Hid (Below w.heap.size w w4) := B3.out.trans (hb.mono B3.out.size)
  have R4 : Hid (RdQ w4 (some ⟨w3.heap.size, 0, none⟩) n L) := RdQ.own ho4
  have C5 := c_implLL _ n n L w4 R4.out FS.out.1 (fun v hv => by have := FS.out.2 v hv; unfold maxLen; omega)
  rw [← HR.out.1, ← HR.out.2] at C5
  clear ho4 hb B3 HR
  go_wp2_with fail
  refine C5.mono ?_
  rintro e w5 ⟨rfl, hb⟩
  have B5 : Hid (Below w.heap.size w w5) := B4.out.trans (hb.mono B4.out.size)
  have R5 : Hid (RdQ w5 (some ⟨w3.heap.size, 0, none⟩) n L) := R4.out.below hb
  clear hb B4 R4 C5
  have nb : (R != R) = false := by simp
  have nk : (K != K) = false := by simp
  go_wp2_with fail
  refine (CT.out w5 B5.out).mono ?_
  rintro e w6 ⟨rfl, ho6, hb⟩
  have B6 : Hid (Below w.heap.size w w6) := B5.out.trans (hb.mono B5.out.size)
  have C7 := c_eqQ _ _ n n n L w6 (R5.out.below hb) (RdQ.own ho6) FS.out.1
  clear ho6 hb B5 R5
  go_wp2_with fail
  refine C7.mono ?_
  rintro e w7 ⟨rfl, hb⟩
  have B7 : Hid (Below w.heap.size w w7) := B6.out.trans (hb.mono B6.out.size)
  clear hb B6 C7
  go_wp2
  go_ret
  exact ⟨rfl, B7.out⟩

end Go.Proofs.Ytimdoaehlciecaa
