/-
  DiskRead: the program's and the specification's.
-/
import Derived.Test.YtefbaemcdfmhpaaRd
namespace Go.Proofs.Ytefbaemcdfmhpaa
open Go Go.RowKit
attribute [local go_sem ↓] Go.wp_at_zero Go.wp_at_succ

theorem c_in3 (n lo hi : Int) (w : World) : Calls Try.prog 46 #[.int .i64 n, .int .i64 lo, .int .i64 hi] w fun e w' => e = .returned (.bool (inB n lo hi)) ∧ w = w' := (c_in n lo hi w).mono fun _ _ h => ⟨h.1, h.2.symm⟩
theorem bkL_at {C : List PP} {n p : Nat} {xa : Int} {xt : ByteArray} (hp : p < n) (hx : (xa, xt) = C.getD p dP) : bkL C n (n - 1 - p + 1) = bkL C n (n - 1 - p) ++ [(p, xa, xt)] := by
  rw [bkL_succ]
  congr 2
  unfold bkF
  rw [show n - 1 - (n - 1 - p) = p by omega, ← hx]
set_option maxHeartbeats 2000000 in
theorem c_l02Read (a0 : Option Addr) (n0 c0 : Nat) (a1 : Option Addr) (n1 c1 : Nat) (b : Bool) (a2 : Option Addr) (n2 c2 : Nat) (S : List ByteArray) (C : List PP) (j : Nat) (w : World)
    (r0 : RdV w a0 n0 (S.map Value.string)) (r1 : RdP w a1 n1 C) (hj : j < n0) (hn0 : n0 ≤ 1048576) (hn1 : n1 ≤ 1048576) :
    Calls Try.prog 70 #[.agg #[.slice a0 n0 c0, .slice a1 n1 c1, .bool b, .slice a2 n2 c2], .int .i64 (j : Int)] w fun e W' => e = .returned (.string (rdS S C j)) ∧ Below w.heap.size w W' := by
  have l0 : S.length = n0 := by simpa using r0.1
  have l1 := r1.1
  have R0 : Hid (RdV w a0 n0 (S.map Value.string)) := r0
  have R1 : Hid (RdP w a1 n1 C) := r1
  obtain ⟨V, hV⟩ : ∃ V, w.alloc (.cells #[.slice a0 n0 c0, .slice a1 n1 c1, .bool b, .slice a2 n2 c2] 27) = V := ⟨_, rfl⟩
  have HB : Hid (Below w.heap.size w V) := by unfold Hid; rw [← hV]; exact (Below.refl _ _).alloc (Nat.le_refl _) _
  have bx : Box V w.heap.size 27 #[.slice a0 n0 c0, .slice a1 n1 c1, .bool b, .slice a2 n2 c2] := by rw [← hV]; exact Box.new _ _ _
  obtain ⟨v0, v1, v2, v3⟩ := box4 bx
  clear r0 r1 bx
  go_enter Try.func70, Try.ntmps70
  go_wp2
  go_loop [5] (fun i => (∃ p : Nat, i = .int .i64 p ∧ p < n1 ∧ Hid (fdB (bkL C n1 (n1 - 1 - p)) j = none)) ∨ (i = .int .i64 (-1) ∧ Hid (fdB (bkL C n1 n1) j = none))) (fun i => (intOf i + 1).toNat)
  case atStart =>
    rcases Nat.eq_zero_or_pos n1 with h | h
    · subst h
      exact .inr ⟨rfl, rfl⟩
    · refine .inl ⟨n1 - 1, by go_num, by omega, ?_⟩
      rw [show n1 - 1 - (n1 - 1) = 0 by omega]
      exact rfl
  case round =>
    rcases hrel with ⟨p, rfl, hp, HN⟩ | ⟨rfl, HN⟩
    · obtain ⟨bb, off, ha, hbl, hc⟩ := R1.out.2 (by omega)
      obtain ⟨⟨xa, xt⟩, hx⟩ : ∃ x, x = C.getD p dP := ⟨_, rfl⟩
      obtain ⟨d0, d1⟩ := hc p hp
      rw [← hx] at d0 d1
      have e0 : V.cell? ⟨bb, off + p * 2, none⟩ = some (.int .i64 xa) := (HB.out.cell (p := ⟨bb, off + p * 2, none⟩) hbl).trans d0
      have e1 : V.cell? ⟨bb, off + p * 2 + 1, none⟩ = some (.string xt) := (HB.out.cell (p := ⟨bb, off + p * 2 + 1, none⟩) hbl).trans d1
      rw [ha] at v1
      have HA : Hid (bkL C n1 (n1 - 1 - p + 1) = bkL C n1 (n1 - 1 - p) ++ [(p, xa, xt)]) := bkL_at hp hx
      clear hc hx d0 d1 ha
      by_cases he : xa = (j : Int)
      · have hbe : (xa == (j : Int)) = true := by simpa using he
        have E : Hid (rdS S C j = xt) := by
          have h2 : fdB (bkL C n1 (n1 - 1 - p + 1)) j = some (p, xa, xt) := by rw [HA.out]; exact fdB_yes HN.out he
          exact rdS_hit (S := S) (C := C) (k := n1 - 1 - p + 1) (show n1 - 1 - p + 1 ≤ C.length by omega) (by rw [l1]; exact h2)
        clear he
        go_wp2
        go_ret
        exact ⟨ret_str E.out.symm, HB.out⟩
      · have hbe : (xa == (j : Int)) = false := by simpa using he
        have HN2 : Hid (fdB (bkL C n1 (n1 - 1 - p + 1)) j = none) := by unfold Hid; rw [HA.out]; exact fdB_no HN.out he
        clear he
        go_wp2
        go_round
        case rel =>
          rcases Nat.eq_zero_or_pos p with h | h
          · subst h
            refine .inr ⟨by go_num, ?_⟩
            have h2 := HN2.out
            rw [show n1 - 1 - 0 + 1 = n1 by omega] at h2
            exact h2
          · refine .inl ⟨p - 1, by go_num, by omega, ?_⟩
            rw [show n1 - 1 - (p - 1) = n1 - 1 - p + 1 by omega]
            exact HN2.out
        case measure => simp [intOf]
    · obtain ⟨b0, off0, ha, hbl, hc⟩ := R0.out.2 (by omega)
      obtain ⟨s, hs⟩ : ∃ s, s = S.getD j ⟨#[]⟩ := ⟨_, rfl⟩
      have cS : V.cell? ⟨b0, off0 + j, none⟩ = some (.string s) := by rw [HB.out.cell (p := ⟨b0, off0 + j, none⟩) hbl, hc j hj, hs]; exact map_get _ _ _ _ (by omega)
      have E : Hid (rdS S C j = s) := by unfold Hid; rw [hs]; exact rdS_miss (by rw [l1]; exact HN.out)
      rw [ha] at v0
      clear hc hs ha
      go_wp2
      go_ret
      exact ⟨ret_str E.out.symm, HB.out⟩
def readT (D : DD) (x : Int) : ByteArray := if okD D = true then (if 0 ≤ x ∧ x < D.S.length then rdS D.S D.C x.toNat else ⟨#[]⟩) else ⟨#[]⟩
def readC (D : DD) (x : Int) : Int := if okD D = true then (if 0 ≤ x ∧ x < D.S.length then 0 else 4) else 1

set_option maxHeartbeats 4000000 in
theorem c_implRead (D : DD) (x : Int) (hf : Fit D) (w : World) (h : HD) (r : RdD w h D) :
    Calls Try.prog 17 #[.agg #[.slice h.a0 h.n0 h.c0, .slice h.a1 h.n1 h.c1, .bool h.b, .slice h.a2 h.n2 h.c2], .int .i64 x] w fun e w' => e = .returned (.tuple #[.string (readT D x), .int .i64 (readC D x)]) ∧ Below w.heap.size w w' := by
  have k0 := r.l0
  have k1 := r.l1
  have f0 := hf.1
  have f1 := hf.2.1
  have F : Hid (Fit D) := hf
  have R : Hid (RdD w h D) := r
  obtain ⟨V, hV⟩ : ∃ V, w.alloc (.cells #[.slice h.a0 h.n0 h.c0, .slice h.a1 h.n1 h.c1, .bool h.b, .slice h.a2 h.n2 h.c2] 27) = V := ⟨_, rfl⟩
  have HB : Hid (Below w.heap.size w V) := by unfold Hid; rw [← hV]; exact (Below.refl _ _).alloc (Nat.le_refl _) _
  have BX : Hid (Box V w.heap.size 27 #[.slice h.a0 h.n0 h.c0, .slice h.a1 h.n1 h.c1, .bool h.b, .slice h.a2 h.n2 h.c2]) := by unfold Hid; rw [← hV]; exact Box.new _ _ _
  obtain ⟨v0, v1, v2, v3⟩ := box4 BX.out
  clear r hf
  go_enter Try.func17, Try.ntmps17
  go_wp2_with fail
  refine (c_implOK h D V (R.out.below HB.out) F.out).mono ?_
  rintro e w1 ⟨rfl, hb⟩
  have B1 : Hid (Below w.heap.size w w1) := HB.out.trans (hb.mono HB.out.size)
  have X1 : Hid (Box w1 w.heap.size 27 #[.slice h.a0 h.n0 h.c0, .slice h.a1 h.n1 h.c1, .bool h.b, .slice h.a2 h.n2 h.c2]) := BX.out.belowS hb
  clear hb v0 v1 v2 v3 BX
  obtain ⟨v0, v1, v2, v3⟩ := box4 X1.out
  cases hok : okD D
  · have E1 : Hid (readT D x = ⟨#[]⟩) := by unfold Hid readT; rw [if_neg (by rw [hok]; decide)]
    have E2 : Hid (readC D x = 1) := by unfold Hid readC; rw [if_neg (by rw [hok]; decide)]
    clear hok
    go_wp2
    go_ret2
    exact ⟨by rw [E1.out, E2.out]; rfl, B1.out⟩
  · have E0 : Hid (readT D x = (if 0 ≤ x ∧ x < D.S.length then rdS D.S D.C x.toNat else ⟨#[]⟩)) := by unfold Hid readT; rw [if_pos hok]
    have E9 : Hid (readC D x = (if 0 ≤ x ∧ x < D.S.length then 0 else 4)) := by unfold Hid readC; rw [if_pos hok]
    clear hok
    obtain ⟨t, ht⟩ : ∃ t, t = decide (0 ≤ x ∧ x < (h.n0 : Int)) := ⟨_, rfl⟩
    have HT : Hid (t = decide (0 ≤ x ∧ x < (h.n0 : Int))) := ht
    clear ht
    go_wp2_with fail
    refine (c_has h.a0 h.n0 h.c0 h.a1 h.n1 h.c1 h.b h.a2 h.n2 h.c2 x w1).mono ?_
    rintro e w2 ⟨rfl, hb⟩
    rw [← HT.out]
    have B2 : Hid (Below w.heap.size w w2) := B1.out.trans (hb.mono B1.out.size)
    have X2 : Hid (Box w2 w.heap.size 27 #[.slice h.a0 h.n0 h.c0, .slice h.a1 h.n1 h.c1, .bool h.b, .slice h.a2 h.n2 h.c2]) := X1.out.belowS hb
    clear hb v0 v1 v2 v3 X1
    obtain ⟨v0, v1, v2, v3⟩ := box4 X2.out
    cases t
    · have hno : ¬ (0 ≤ x ∧ x < (h.n0 : Int)) := of_decide_eq_false HT.out.symm
      have E1 : Hid (readT D x = ⟨#[]⟩) := by unfold Hid; rw [E0.out, if_neg (by rw [k0]; exact hno)]
      have E2 : Hid (readC D x = 4) := by unfold Hid; rw [E9.out, if_neg (by rw [k0]; exact hno)]
      clear E0 E9 hno
      go_wp2
      go_ret2
      exact ⟨by rw [E1.out, E2.out]; rfl, B2.out⟩
    · have hyes : 0 ≤ x ∧ x < (h.n0 : Int) := of_decide_eq_true HT.out.symm
      have E1 : Hid (readT D x = rdS D.S D.C x.toNat) := by unfold Hid; rw [E0.out, if_pos (by omega)]
      have E2 : Hid (readC D x = 0) := by unfold Hid; rw [E9.out, if_pos (by omega)]
      obtain ⟨j, hxj⟩ : ∃ j : Nat, x = (j : Int) := ⟨x.toNat, by omega⟩
      have hj : j < h.n0 := by omega
      have E3 : Hid (rdS D.S D.C x.toNat = rdS D.S D.C j) := by unfold Hid; rw [hxj]; rfl
      subst hxj
      clear E0 E9
      clear hyes
      go_wp2_with fail
      refine (c_readSector h.a0 h.n0 h.c0 h.a1 h.n1 h.c1 h.b h.a2 h.n2 h.c2 D.S D.C j w2 (R.out.below B2.out).2.1 (R.out.below B2.out).2.2.1 hj (by omega) (by omega)).mono ?_
      rintro e w3 ⟨rfl, hb⟩
      have B3 : Hid (Below w.heap.size w w3) := B2.out.trans (hb.mono B2.out.size)
      clear hb
      go_wp2
      go_ret2
      exact ⟨by rw [E1.out, E2.out, E3.out]; rfl, B3.out⟩

set_option maxHeartbeats 4000000 in
theorem c_specRead (D : DD) (x : Int) (hf : Fit D) (w : World) (h : HD) (r : RdD w h D) :
    Calls Try.prog 34 #[.agg #[.slice h.a0 h.n0 h.c0, .slice h.a1 h.n1 h.c1, .bool h.b, .slice h.a2 h.n2 h.c2], .int .i64 x] w fun e w' => e = .returned (.tuple #[.string (readT D x), .int .i64 (readC D x)]) ∧ Below w.heap.size w w' := by
  have k0 := r.l0
  have k1 := r.l1
  have f0 := hf.1
  have f1 := hf.2.1
  have F : Hid (Fit D) := hf
  have R : Hid (RdD w h D) := r
  obtain ⟨V, hV⟩ : ∃ V, w.alloc (.cells #[.slice h.a0 h.n0 h.c0, .slice h.a1 h.n1 h.c1, .bool h.b, .slice h.a2 h.n2 h.c2] 27) = V := ⟨_, rfl⟩
  have HB : Hid (Below w.heap.size w V) := by unfold Hid; rw [← hV]; exact (Below.refl _ _).alloc (Nat.le_refl _) _
  have BX : Hid (Box V w.heap.size 27 #[.slice h.a0 h.n0 h.c0, .slice h.a1 h.n1 h.c1, .bool h.b, .slice h.a2 h.n2 h.c2]) := by unfold Hid; rw [← hV]; exact Box.new _ _ _
  obtain ⟨v0, v1, v2, v3⟩ := box4 BX.out
  clear r hf
  go_enter Try.func34, Try.ntmps34
  go_wp2_with fail
  refine (c_specOK h D V (R.out.below HB.out) F.out).mono ?_
  rintro e w1 ⟨rfl, hb⟩
  have B1 : Hid (Below w.heap.size w w1) := HB.out.trans (hb.mono HB.out.size)
  have X1 : Hid (Box w1 w.heap.size 27 #[.slice h.a0 h.n0 h.c0, .slice h.a1 h.n1 h.c1, .bool h.b, .slice h.a2 h.n2 h.c2]) := BX.out.belowS hb
  clear hb v0 v1 v2 v3 BX
  obtain ⟨v0, v1, v2, v3⟩ := box4 X1.out
  cases hok : okD D
  · have E1 : Hid (readT D x = ⟨#[]⟩) := by unfold Hid readT; rw [if_neg (by rw [hok]; decide)]
    have E2 : Hid (readC D x = 1) := by unfold Hid readC; rw [if_neg (by rw [hok]; decide)]
    clear hok
    go_wp2
    go_ret2
    exact ⟨by rw [E1.out, E2.out]; rfl, B1.out⟩
  · have E0 : Hid (readT D x = (if 0 ≤ x ∧ x < D.S.length then rdS D.S D.C x.toNat else ⟨#[]⟩)) := by unfold Hid readT; rw [if_pos hok]
    have E9 : Hid (readC D x = (if 0 ≤ x ∧ x < D.S.length then 0 else 4)) := by unfold Hid readC; rw [if_pos hok]
    clear hok
    cases hin : inB x 0 ((h.n0 : Int) - 1)
    · have hno : ¬ (0 ≤ x ∧ x < (h.n0 : Int)) := by unfold inB at hin; have := of_decide_eq_false hin; omega
      have E1 : Hid (readT D x = ⟨#[]⟩) := by unfold Hid; rw [E0.out, if_neg (by rw [k0]; exact hno)]
      have E2 : Hid (readC D x = 4) := by unfold Hid; rw [E9.out, if_neg (by rw [k0]; exact hno)]
      clear E0 E9 hno
      go_wp2_with fail
      refine (c_in3 _ _ _ _).mono ?_
      rintro e w' ⟨rfl, rfl⟩
      go_wp2
      go_ret2
      exact ⟨by rw [E1.out, E2.out]; rfl, B1.out⟩
    · have hyes : 0 ≤ x ∧ x < (h.n0 : Int) := by unfold inB at hin; have := of_decide_eq_true hin; omega
      have E1 : Hid (readT D x = rdS D.S D.C x.toNat) := by unfold Hid; rw [E0.out, if_pos (by omega)]
      have E2 : Hid (readC D x = 0) := by unfold Hid; rw [E9.out, if_pos (by omega)]
      obtain ⟨j, hxj⟩ : ∃ j : Nat, x = (j : Int) := ⟨x.toNat, by omega⟩
      have hj : j < h.n0 := by omega
      have E3 : Hid (rdS D.S D.C x.toNat = rdS D.S D.C j) := by unfold Hid; rw [hxj]; rfl
      subst hxj
      clear E0 E9
      clear hyes
      go_wp2_with fail
      refine (c_in3 _ _ _ _).mono ?_
      rintro e w' ⟨rfl, rfl⟩
      go_wp2_with fail
      refine (c_l02Read h.a0 h.n0 h.c0 h.a1 h.n1 h.c1 h.b h.a2 h.n2 h.c2 D.S D.C j w1 (R.out.below B1.out).2.1 (R.out.below B1.out).2.2.1 hj (by omega) (by omega)).mono ?_
      rintro e w3 ⟨rfl, hb⟩
      have B3 : Hid (Below w.heap.size w w3) := B1.out.trans (hb.mono B1.out.size)
      clear hb
      go_wp2
      go_ret2
      exact ⟨by rw [E1.out, E2.out, E3.out]; rfl, B3.out⟩
end Go.Proofs.Ytefbaemcdfmhpaa
