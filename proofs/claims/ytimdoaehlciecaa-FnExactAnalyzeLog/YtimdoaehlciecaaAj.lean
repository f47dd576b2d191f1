/-
  AnalyzeLog of the specification (the outer part).
-/
import Derived.Test.YtimdoaehlciecaaAg
import Derived.Test.YtimdoaehlciecaaRz
import Derived.Test.YtimdoaehlciecaaRn
import Derived.Test.YtimdoaehlciecaaYta
import Derived.Deep.RegionHeld3
namespace Go.Proofs.Ytimdoaehlciecaa
open Go Go.RowKit
attribute [local go_sem ↓] Go.wp_at_zero Go.wp_at_succ

theorem emp_ow2 {w : World} {g base size : Nat} {t : TypeId} (h : Box w g t #[]) (hb : base ≤ g) : w.ownsRow base t size (.slice (some ⟨g, 0, none⟩) 0 0) 0 [] := by
  refine ⟨by simp, .inr ⟨g, 0, #[], rfl, hb, ?_, ?_⟩⟩
  all_goals first | exact h | simp
theorem ansAL_lit {w W : World} {n : Nat} {L : List DR} {c : Int} {g h : Nat} (hG : anlG n L = fun _ => 0) (hc : anlC n L = c) (h1 : Box W g 54 #[]) (hg : w.heap.size ≤ g) (h2 : Box W h 57 #[]) (hh : w.heap.size ≤ h) : AnsAL w n L (.returned (.tuple #[.slice (some ⟨g, 0, none⟩) 0 0, .slice (some ⟨h, 0, none⟩) 0 0, .int .i64 c])) W := by
  subst hc
  unfold AnsAL
  rw [hG, drS0, txS0]
  exact ⟨_, 0, _, 0, rfl, emp_ow2 h1 hg, emp_ow2 h2 hh⟩
set_option maxRecDepth 100000 in
set_option maxHeartbeats 8000000 in
theorem c_specAL (CAN : ∀ (a : Option Addr) (n cap : Nat) (L : List DR) (w : World), RdQ w a n L → n ≤ 60 → (∀ v ∈ L, v.b.size ≤ 1048576 ∧ v.a.size ≤ 1048576) → (∀ j, j < L.length → okLR (L.getD j zeroR) = true ∧ (L.getD j zeroR).l = (j : Int) + 1) →
    Calls Try.prog 28 #[.slice a n cap] w fun e w' => AnsTo w (anR L) e w' ∧ Below w.heap.size w w') (a : Option Addr) (n cap : Nat) (L : List DR) (w : World) (hr : RdQ w a n L) (hn : n ≤ 1048576) (hs : ∀ v ∈ L, v.b.size ≤ 1048576 ∧ v.a.size ≤ 1048576) :
    Calls Try.prog 11 #[.slice a n cap] w fun e w' => AnsAL w n L e w' ∧ Below w.heap.size w w' := by
  have B0 : Below w.heap.size w w := Below.refl _ _
  by_cases h1 : 4096 < n
  · have E : Hid (anlG n L = (fun _ => 0) ∧ anlC n L = 2) := by unfold Hid anlG anlC; rw [if_pos (by omega), if_pos h1]; exact ⟨rfl, rfl⟩
    clear hr hs
    obtain ⟨V1, hV1⟩ : ∃ Q, w.alloc (.cells #[] 54) = Q := ⟨_, rfl⟩
    have b1 : Below w.heap.size w V1 := by rw [← hV1]; exact (Below.refl _ _).alloc (Nat.le_refl _) _
    have E1 : Box V1 w.heap.size 54 #[] := by rw [← hV1]; exact Box.new _ _ _
    obtain ⟨V2, hV2⟩ : ∃ Q, V1.alloc (.cells #[] 57) = Q := ⟨_, rfl⟩
    have b2 : Below V1.heap.size V1 V2 := by rw [← hV2]; exact (Below.refl _ _).alloc (Nat.le_refl _) _
    have E2 : Box V2 V1.heap.size 57 #[] := by rw [← hV2]; exact Box.new _ _ _
    have LT : Hid (AnsAL w n L (.returned (.tuple #[.slice (some ⟨w.heap.size, 0, none⟩) 0 0, .slice (some ⟨V1.heap.size, 0, none⟩) 0 0, .int .i64 2])) V2 ∧ Below w.heap.size w V2) := ⟨ansAL_lit E.out.1 E.out.2 (E1.belowS b2) B0.size E2 (Nat.le_trans B0.size b1.size), B0.trans ((b1.trans (b2.mono b1.size)).mono B0.size)⟩
    clear b1 b2 E1 E2
    go_enter Try.func11, Try.ntmps11
    go_wp2
    go_ret3
    exact LT.out
  by_cases h2 : 60 < n
  · have E : Hid (anlG n L = (fun _ => 0) ∧ anlC n L = 6) := by unfold Hid anlG anlC; rw [if_pos h2, if_neg h1, if_pos h2]; exact ⟨rfl, rfl⟩
    clear hr hs
    obtain ⟨V1, hV1⟩ : ∃ Q, w.alloc (.cells #[] 54) = Q := ⟨_, rfl⟩
    have b1 : Below w.heap.size w V1 := by rw [← hV1]; exact (Below.refl _ _).alloc (Nat.le_refl _) _
    have E1 : Box V1 w.heap.size 54 #[] := by rw [← hV1]; exact Box.new _ _ _
    obtain ⟨V2, hV2⟩ : ∃ Q, V1.alloc (.cells #[] 57) = Q := ⟨_, rfl⟩
    have b2 : Below V1.heap.size V1 V2 := by rw [← hV2]; exact (Below.refl _ _).alloc (Nat.le_refl _) _
    have E2 : Box V2 V1.heap.size 57 #[] := by rw [← hV2]; exact Box.new _ _ _
    have LT : Hid (AnsAL w n L (.returned (.tuple #[.slice (some ⟨w.heap.size, 0, none⟩) 0 0, .slice (some ⟨V1.heap.size, 0, none⟩) 0 0, .int .i64 6])) V2 ∧ Below w.heap.size w V2) := ⟨ansAL_lit E.out.1 E.out.2 (E1.belowS b2) B0.size E2 (Nat.le_trans B0.size b1.size), B0.trans ((b1.trans (b2.mono b1.size)).mono B0.size)⟩
    clear b1 b2 E1 E2
    go_enter Try.func11, Try.ntmps11
    go_wp2
    go_ret3
    exact LT.out
  have E0 : Hid ((inPl 0 L = true → anlG n L = anR L ∧ anlC n L = 0) ∧ (inPl 0 L = false → anlG n L = (fun _ => 0) ∧ anlC n L = 1)) := by
    unfold Hid anlG anlC
    refine ⟨fun h => ?_, fun h => ?_⟩
    · rw [if_neg h2, if_neg h1, if_neg h2, h]; exact ⟨rfl, rfl⟩
    · rw [if_neg h2, if_neg h1, if_neg h2, h]; exact ⟨rfl, rfl⟩
  have HS : Hid (∀ v ∈ L, v.b.size ≤ 1048576 ∧ v.a.size ≤ 1048576) := hs
  have HC : Hid (_) := CAN
  have hl := hr.1
  have RL : Hid (RdQ w a n L) := hr
  clear hr hs CAN
  go_enter Try.func11, Try.ntmps11
  go_wp2
  go_loopw [5] (fun i wr => ∃ k : Nat, k ≤ n ∧ i = .int .i64 k ∧ Hid (inPl k (L.drop k) = inPl 0 L) ∧ Hid (Below w.heap.size w wr)) (fun i _ => n - (intOf i).toNat)
  case atStart => exact ⟨0, by omega, rfl, rfl, B0⟩
  case round =>
    obtain ⟨k, hk, rfl, HI, BW⟩ := hrel
    by_cases hlt : k < n
    · have RQ := RL.out.below BW.out
      obtain ⟨b, off, hla, hbl, hc⟩ := RQ.2 (by omega)
      subst hla
      obtain ⟨⟨ve, vl, vt, vk, vp, vn, vg, vz, vb, va⟩, hv⟩ : ∃ v, v = L.getD k zeroR := ⟨_, rfl⟩
      obtain ⟨e0, e1, e2, e3, e4, e5, e6, e7, e8, e9⟩ := RdQ.at hc hlt hv
      dsimp only at e0 e1 e2 e3 e4 e5 e6 e7 e8 e9
      have HAT := inPl_at (vs := L) (k := k) (by omega)
      have hss := getD_of (d := zeroR) HS.out (show k < L.length by omega)
      rw [← hv] at HAT hss
      have HAT' : Hid (_ = _) := HAT
      have C := c_specLR ve vl vt vk vp vn vg vz vb va wr hss.1 hss.2
      rw [okLS_eq] at C
      have g1 : (0 : Int) ≤ (k : Int) := by omega
      have g2 : (k : Int) < (n : Int) := by omega
      clear hc hv HAT RQ hss
      cases hok : okLR ⟨ve, vl, vt, vk, vp, vn, vg, vz, vb, va⟩
      case false =>
        have E1 : Hid (inPl 0 L = false) := by unfold Hid; rw [← HI.out, HAT'.out, hok]; rfl
        have E : Hid (_ ∧ _) := E0.out.2 E1.out
        rw [hok] at C
        clear hok HAT' E1
        go_wp2_with fail
        refine C.mono ?_
        rintro e w1 ⟨rfl, hb⟩
        have B1 : Below w.heap.size w w1 := BW.out.trans (hb.mono BW.out.size)
        clear hb C
        obtain ⟨V1, hV1⟩ : ∃ Q, w1.alloc (.cells #[] 54) = Q := ⟨_, rfl⟩
        have b1 : Below w1.heap.size w1 V1 := by rw [← hV1]; exact (Below.refl _ _).alloc (Nat.le_refl _) _
        have E1 : Box V1 w1.heap.size 54 #[] := by rw [← hV1]; exact Box.new _ _ _
        obtain ⟨V2, hV2⟩ : ∃ Q, V1.alloc (.cells #[] 57) = Q := ⟨_, rfl⟩
        have b2 : Below V1.heap.size V1 V2 := by rw [← hV2]; exact (Below.refl _ _).alloc (Nat.le_refl _) _
        have E2 : Box V2 V1.heap.size 57 #[] := by rw [← hV2]; exact Box.new _ _ _
        have LT : Hid (AnsAL w n L (.returned (.tuple #[.slice (some ⟨w1.heap.size, 0, none⟩) 0 0, .slice (some ⟨V1.heap.size, 0, none⟩) 0 0, .int .i64 1])) V2 ∧ Below w.heap.size w V2) := ⟨ansAL_lit E.out.1 E.out.2 (E1.belowS b2) B1.size E2 (Nat.le_trans B1.size b1.size), B1.trans ((b1.trans (b2.mono b1.size)).mono B1.size)⟩
        clear b1 b2 E1 E2
        go_wp2
        go_ret3
        exact LT.out
      rw [hok] at C
      by_cases hq : vl = (k : Int) + 1
      · have c1 : (vl != (k : Int) + 1) = false := by simpa using hq
        have E : Hid (inPl (k + 1) (L.drop (k + 1)) = inPl 0 L) := by unfold Hid; rw [← HI.out, HAT'.out, hok, decide_eq_true hq]; rfl
        clear hok hq HAT'
        go_wp2_with fail
        refine C.mono ?_
        rintro e w1 ⟨rfl, hb⟩
        have B1 : Hid (Below w.heap.size w w1) := BW.out.trans (hb.mono BW.out.size)
        have z1 := far6 hb e1
        clear hb C e0 e1 e2 e3 e4 e5 e6 e7 e8 e9
        go_wp2
        go_roundw
        case rel => exact ⟨k + 1, by omega, by go_num, E, B1⟩
        case measure => simp [intOf]; omega
      · have c1 : (vl != (k : Int) + 1) = true := by simpa using hq
        have E1 : Hid (inPl 0 L = false) := by unfold Hid; rw [← HI.out, HAT'.out, hok, decide_eq_false hq]; rfl
        have E : Hid (_ ∧ _) := E0.out.2 E1.out
        clear hok hq HAT' E1
        go_wp2_with fail
        refine C.mono ?_
        rintro e w1 ⟨rfl, hb⟩
        have B1 : Below w.heap.size w w1 := BW.out.trans (hb.mono BW.out.size)
        have z1 := far6 hb e1
        clear hb C e0 e1 e2 e3 e4 e5 e6 e7 e8 e9
        obtain ⟨V1, hV1⟩ : ∃ Q, w1.alloc (.cells #[] 54) = Q := ⟨_, rfl⟩
        have b1 : Below w1.heap.size w1 V1 := by rw [← hV1]; exact (Below.refl _ _).alloc (Nat.le_refl _) _
        have E1 : Box V1 w1.heap.size 54 #[] := by rw [← hV1]; exact Box.new _ _ _
        obtain ⟨V2, hV2⟩ : ∃ Q, V1.alloc (.cells #[] 57) = Q := ⟨_, rfl⟩
        have b2 : Below V1.heap.size V1 V2 := by rw [← hV2]; exact (Below.refl _ _).alloc (Nat.le_refl _) _
        have E2 : Box V2 V1.heap.size 57 #[] := by rw [← hV2]; exact Box.new _ _ _
        have LT : Hid (AnsAL w n L (.returned (.tuple #[.slice (some ⟨w1.heap.size, 0, none⟩) 0 0, .slice (some ⟨V1.heap.size, 0, none⟩) 0 0, .int .i64 1])) V2 ∧ Below w.heap.size w V2) := ⟨ansAL_lit E.out.1 E.out.2 (E1.belowS b2) B1.size E2 (Nat.le_trans B1.size b1.size), B1.trans ((b1.trans (b2.mono b1.size)).mono B1.size)⟩
        clear b1 b2 E1 E2
        go_wp2
        go_ret3
        exact LT.out
    · have e : k = n := by omega
      subst e
      have E : Hid (inPl 0 L = true) := by unfold Hid; rw [← HI.out, List.drop_eq_nil_of_le (by omega)]; rfl
      have E2 : Hid (_ ∧ _) := E0.out.1 E.out
      have C := HC.out a k cap L wr (RL.out.below BW.out) (by omega) HS.out (fun j hj => by
        have := inPl_all L 0 E.out j hj
        exact ⟨this.1, by have := this.2; omega⟩)
      clear E
      go_wp2_with fail
      refine C.mono ?_
      rintro e w1 ⟨⟨ad, cd, at', ct, rfl, od, ot⟩, hb⟩
      have B1 : Hid (Below w.heap.size w w1) := BW.out.trans (hb.mono BW.out.size)
      have FN : Hid (AnsAL w k L (.returned (.tuple #[.slice ad (drS (anR L)).length cd, .slice at' (txS (anR L)).length ct, .int .i64 0])) w1) := by
        unfold Hid AnsAL
        rw [E2.out.1, E2.out.2]
        exact ⟨ad, cd, at', ct, rfl, od.down BW.out.size, ot.down BW.out.size⟩
      clear hb C od ot
      go_wp2
      go_ret3
      exact ⟨FN.out, B1.out⟩

end Go.Proofs.Ytimdoaehlciecaa
