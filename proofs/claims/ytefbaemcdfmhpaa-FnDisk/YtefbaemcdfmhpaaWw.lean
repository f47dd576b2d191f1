/-
  DiskWrite: the specification's.
-/
import Derived.Test.YtefbaemcdfmhpaaWl
namespace Go.Proofs.Ytefbaemcdfmhpaa
open Go Go.RowKit
attribute [local go_sem ↓] Go.wp_at_zero Go.wp_at_succ


set_option maxHeartbeats 4000000 in
theorem c_specWrite2 (D : DD) (x : Int) (s : ByteArray) (hf : Fit D) (hs : s.size ≤ 1048576) (w : World) (h : HD) (r : RdD w h D) (hk : HOK h) :
    Calls Try.prog 16 #[.agg #[.slice h.a0 h.n0 h.c0, .slice h.a1 h.n1 h.c1, .bool h.b, .slice h.a2 h.n2 h.c2], .int .i64 x, .string s] w fun e w' => (∃ h' : HD, e = .returned (.tuple #[.agg #[.slice h'.a0 h'.n0 h'.c0, .slice h'.a1 h'.n1 h'.c1, .bool h'.b, .slice h'.a2 h'.n2 h'.c2], .int .i64 (wrC D x s)]) ∧ OwnD w' w.heap.size w'.heap.size h' (wrR D x s)) ∧ Below w.heap.size w w' := by
  have k0 := r.l0
  have k1 := r.l1
  have F : Hid (Fit D) := hf
  have R : Hid (RdD w h D) := r
  have HK : Hid (HOK h) := hk
  have HB : Hid (Below w.heap.size w ((w.alloc (.cells #[.slice h.a0 h.n0 h.c0, .slice h.a1 h.n1 h.c1, .bool h.b, .slice h.a2 h.n2 h.c2] 27)).alloc (.cells #[.slice none 0 0, .slice none 0 0, .bool false, .slice none 0 0] 27))) := ((Below.refl _ _).alloc (Nat.le_refl _) _).alloc (by simp) _
  have BX : Hid (Box ((w.alloc (.cells #[.slice h.a0 h.n0 h.c0, .slice h.a1 h.n1 h.c1, .bool h.b, .slice h.a2 h.n2 h.c2] 27)).alloc (.cells #[.slice none 0 0, .slice none 0 0, .bool false, .slice none 0 0] 27)) w.heap.size 27 #[.slice h.a0 h.n0 h.c0, .slice h.a1 h.n1 h.c1, .bool h.b, .slice h.a2 h.n2 h.c2]) := (Box.new _ _ _).alloc _
  have BR : Hid (Box ((w.alloc (.cells #[.slice h.a0 h.n0 h.c0, .slice h.a1 h.n1 h.c1, .bool h.b, .slice h.a2 h.n2 h.c2] 27)).alloc (.cells #[.slice none 0 0, .slice none 0 0, .bool false, .slice none 0 0] 27)) (w.heap.size + 1) 27 #[.slice none 0 0, .slice none 0 0, .bool false, .slice none 0 0]) := Box.new2 _ _ _ _
  clear r hk hf
  by_cases hlong : 65536 < s.size
  · have E1 : Hid (wrR D x s = eD) := by unfold Hid wrR; rw [if_pos hlong]
    have E2 : Hid (wrC D x s = 2) := by unfold Hid wrC; rw [if_pos hlong]
    go_enter Try.func16, Try.ntmps16
    go_wp2
    refine ret_box2 (v := .int .i64 2) Try.results16 rfl rfl rfl BR.out ⟨⟨⟨none, 0, 0, none, 0, 0, false, none, 0, 0⟩, by rw [E2.out], by rw [E1.out]; exact own_eD _ _⟩, HB.out⟩
  · go_enter Try.func16, Try.ntmps16
    go_wp2_with fail
    refine (c_specOK h D _ (R.out.below HB.out) F.out).mono ?_
    rintro e w1 ⟨rfl, hb⟩
    have B1 : Hid (Below w.heap.size w w1) := HB.out.trans (hb.mono HB.out.size)
    have x1 := BX.out.belowS hb
    have y1 := BR.out.belowS hb
    have l1 := y1.lt
    obtain ⟨v0, v1, v2, v3⟩ := box4 x1
    obtain ⟨y0, yy1, y2, y3⟩ := box4 y1
    have z0 := y1.thaw 0
    have z1 := y1.thaw 1
    have z2 := y1.thaw 2
    have z3 := y1.thaw 3
    have BX1 : Hid (Box w1 w.heap.size 27 #[.slice h.a0 h.n0 h.c0, .slice h.a1 h.n1 h.c1, .bool h.b, .slice h.a2 h.n2 h.c2]) := x1
    have BR1 : Hid (Box w1 (w.heap.size + 1) 27 #[.slice none 0 0, .slice none 0 0, .bool false, .slice none 0 0]) := y1
    have s1 : w.heap.size ≤ w1.heap.size := B1.out.size
    clear x1 y1 hb HB BX BR
    cases hok : okD D
    · have E1 : Hid (wrR D x s = eD) := by unfold Hid wrR; rw [if_neg hlong, if_neg (by rw [hok]; decide)]
      have E2 : Hid (wrC D x s = 1) := by unfold Hid wrC; rw [if_neg hlong, if_neg (by rw [hok]; decide)]
      clear hok
      go_wp2
      refine ret_box2 (v := .int .i64 1) Try.results16 rfl rfl rfl (put4_box BR1.out _ _ _ _) ⟨⟨⟨none, 0, 0, none, 0, 0, false, none, 0, 0⟩, by rw [E2.out], by rw [E1.out]; exact own_eD _ _⟩, put4_below B1.out (by omega) _ _ _ _⟩
    · have hlen := ok_len hok
      have E0 : Hid (wrR D x s = (if wrBad D x s = true then eD else if D.C.length = 500 then D else wrD D x s)) := by unfold Hid wrR; rw [if_neg hlong, if_pos hok]
      have E9 : Hid (wrC D x s = (if wrBad D x s = true then 4 else if D.C.length = 500 then 7 else 0)) := by unfold Hid wrC; rw [if_neg hlong, if_pos hok]
      clear hok
      cases hin : inB x 0 ((h.n0 : Int) - 1)
      · have HBAD : Hid (wrBad D x s = true) := by unfold Hid wrBad; unfold inB at hin; rw [decide_eq_false (by have := of_decide_eq_false hin; omega)]; rfl
        have E1 : Hid (wrR D x s = eD) := by unfold Hid; rw [E0.out, if_pos HBAD.out]
        have E2 : Hid (wrC D x s = 4) := by unfold Hid; rw [E9.out, if_pos HBAD.out]
        clear E0 E9
        go_wp2_with (go_at_call 46; refine (c_in2 _ _ _ _).mono ?_; rintro e w' ⟨rfl, rfl⟩)
        refine ret_box2 (v := .int .i64 4) Try.results16 rfl rfl rfl (put4_box BR1.out _ _ _ _) ⟨⟨⟨none, 0, 0, none, 0, 0, false, none, 0, 0⟩, by rw [E2.out], by rw [E1.out]; exact own_eD _ _⟩, put4_below B1.out (by omega) _ _ _ _⟩
      · by_cases hbig : 160 < s.size
        · have HBAD : Hid (wrBad D x s = true) := by unfold Hid wrBad; rw [decide_eq_true hbig, Bool.or_true]
          have E1 : Hid (wrR D x s = eD) := by unfold Hid; rw [E0.out, if_pos HBAD.out]
          have E2 : Hid (wrC D x s = 4) := by unfold Hid; rw [E9.out, if_pos HBAD.out]
          clear E0 E9
          go_wp2_with (go_at_call 46; refine (c_in2 _ _ _ _).mono ?_; rintro e w' ⟨rfl, rfl⟩)
          refine ret_box2 (v := .int .i64 4) Try.results16 rfl rfl rfl (put4_box BR1.out _ _ _ _) ⟨⟨⟨none, 0, 0, none, 0, 0, false, none, 0, 0⟩, by rw [E2.out], by rw [E1.out]; exact own_eD _ _⟩, put4_below B1.out (by omega) _ _ _ _⟩
        · have HBAD : Hid (¬ wrBad D x s = true) := by unfold Hid wrBad; unfold inB at hin; rw [decide_eq_true (by have := of_decide_eq_true hin; omega), decide_eq_false hbig]; decide
          by_cases hfull : h.n1 = 500
          · have E1 : Hid (wrR D x s = D) := by unfold Hid; rw [E0.out, if_neg HBAD.out, if_pos (by omega)]
            have E2 : Hid (wrC D x s = 7) := by unfold Hid; rw [E9.out, if_neg HBAD.out, if_pos (by omega)]
            have hfi : ((h.n1 : Int) == 500) = true := by simp; omega
            clear E0 E9 hfull
            go_wp2_with fail
            refine (c_in2 _ _ _ _).mono ?_
            rintro e w' ⟨rfl, rfl⟩
            go_wp2_with fail
            refine (c_own h D w1 (R.out.below B1.out) HK.out F.out).mono ?_
            rintro e w2 ⟨⟨h', rfl, o⟩, hb⟩
            have O : Hid (OwnD w2 w1.heap.size w2.heap.size h' D) := o
            have B2 : Hid (Below w.heap.size w w2) := B1.out.trans (hb.mono B1.out.size)
            have y1 := BR1.out.belowS hb
            clear y0 yy1 y2 y3 z0 z1 z2 z3 v0 v1 v2 v3 hb o
            obtain ⟨y0, yy1, y2, y3⟩ := box4 y1
            have z0 := y1.thaw 0
            have z1 := y1.thaw 1
            have z2 := y1.thaw 2
            have z3 := y1.thaw 3
            have BR2 : Hid (Box w2 (w.heap.size + 1) 27 #[.slice none 0 0, .slice none 0 0, .bool false, .slice none 0 0]) := y1
            clear y1
            go_wp2
            refine ret_box2 (v := .int .i64 7) Try.results16 rfl rfl rfl (put4_box BR2.out _ _ _ _) ⟨⟨h', by rw [E2.out], by rw [E1.out]; exact O.out.put s1 (by simp) l1 (fun g hg => put4_same _ _ _ _ _ _ _ hg)⟩, put4_below B2.out (by omega) _ _ _ _⟩
          · have E1 : Hid (wrR D x s = wrD D x s) := by unfold Hid; rw [E0.out, if_neg HBAD.out, if_neg (by omega)]
            have E2 : Hid (wrC D x s = 0) := by unfold Hid; rw [E9.out, if_neg HBAD.out, if_neg (by omega)]
            have hfi : ((h.n1 : Int) == 500) = false := by simp; omega
            have FW : Hid (Fit (wrD D x s)) := fit_wrD F.out hs hlen.2.2.1
            clear E0 E9
            go_wp2_with fail
            refine (c_in2 _ _ _ _).mono ?_
            rintro e w' ⟨rfl, rfl⟩
            go_wp2_with fail
            refine (c_l02Write h D x s w1 F.out (R.out.below B1.out) HK.out).mono ?_
            rintro e w3 ⟨⟨h3, rfl, r3, hk3, hx3⟩, hb3⟩
            clear hx3
            have R3 : Hid (RdD w3 h3 (wrD D x s)) := r3
            have K3 : Hid (HOK h3) := hk3
            have B3 : Hid (Below w.heap.size w w3) := B1.out.trans (hb3.mono B1.out.size)
            have s13 : w1.heap.size ≤ w3.heap.size := hb3.size
            have BR3 : Hid (Box w3 (w.heap.size + 1) 27 #[.slice none 0 0, .slice none 0 0, .bool false, .slice none 0 0]) := BR1.out.belowS hb3
            clear r3 hk3 hb3 BR1 B1
            have B1 : Hid (Below w.heap.size w w3) := B3.out
            have BR1 : Hid (Box w3 (w.heap.size + 1) 27 #[.slice none 0 0, .slice none 0 0, .bool false, .slice none 0 0]) := BR3.out
            go_wp2_with fail
            refine (c_own h3 (wrD D x s) w3 R3.out K3.out FW.out).mono ?_
            rintro e w2 ⟨⟨h', rfl, o⟩, hb⟩
            have O : Hid (OwnD w2 w3.heap.size w2.heap.size h' (wrD D x s)) := o
            have B2 : Hid (Below w.heap.size w w2) := B1.out.trans (hb.mono B1.out.size)
            have y1 := BR1.out.belowS hb
            clear y0 yy1 y2 y3 z0 z1 z2 z3 v0 v1 v2 v3 hb o
            obtain ⟨y0, yy1, y2, y3⟩ := box4 y1
            have z0 := y1.thaw 0
            have z1 := y1.thaw 1
            have z2 := y1.thaw 2
            have z3 := y1.thaw 3
            have BR2 : Hid (Box w2 (w.heap.size + 1) 27 #[.slice none 0 0, .slice none 0 0, .bool false, .slice none 0 0]) := y1
            clear y1
            go_wp2
            refine ret_box2 (v := .int .i64 0) Try.results16 rfl rfl rfl (put4_box BR2.out _ _ _ _) ⟨⟨h', by rw [E2.out], by rw [E1.out]; exact O.out.put (by omega) (by simp) (by omega) (fun g hg => put4_same _ _ _ _ _ _ _ hg)⟩, put4_below B2.out (by omega) _ _ _ _⟩
end Go.Proofs.Ytefbaemcdfmhpaa
