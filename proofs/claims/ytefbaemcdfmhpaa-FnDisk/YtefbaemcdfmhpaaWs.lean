/-
  DiskSync: the program's and the specification's.
-/
import Derived.Test.YtefbaemcdfmhpaaSy
namespace Go.Proofs.Ytefbaemcdfmhpaa
open Go Go.RowKit
attribute [local go_sem ↓] Go.wp_at_zero Go.wp_at_succ

def syncR (D : DD) : DD := if okD D = true then syncD D else eD
def syncA (D : DD) : Bool := if okD D = true then !D.A else false
def syncC (D : DD) : Int := if okD D = true then 0 else 1
theorem sync_fit {D : DD} (hf : Fit D) : Fit (syncR D) := by
  unfold syncR
  split
  · obtain ⟨f0, f1, f2, f3, f4⟩ := hf
    unfold syncD
    split
    · exact ⟨by show (settle _ _).length ≤ _; rw [settle_len]; exact f0, Nat.zero_le _, Nat.zero_le _, settle_size f3 (fun p hp => f4 p (keptN_mem (Nat.le_refl _) p hp)), nofun⟩
    · exact ⟨by show (settle _ _).length ≤ _; rw [settle_len]; exact f0, Nat.zero_le _, Nat.zero_le _, settle_size f3 f4, nofun⟩
  · exact fit_eD

set_option maxHeartbeats 4000000 in
theorem c_specSync2 (D : DD) (hf : Fit D) (w : World) (h : HD) (r : RdD w h D) (hk : HOK h) :
    Calls Try.prog 35 #[.agg #[.slice h.a0 h.n0 h.c0, .slice h.a1 h.n1 h.c1, .bool h.b, .slice h.a2 h.n2 h.c2]] w fun e w' => (∃ h' : HD, e = .returned (.tuple #[.agg #[.slice h'.a0 h'.n0 h'.c0, .slice h'.a1 h'.n1 h'.c1, .bool h'.b, .slice h'.a2 h'.n2 h'.c2], .bool (syncA D), .int .i64 (syncC D)]) ∧ OwnD w' w.heap.size w'.heap.size h' (syncR D)) ∧ Below w.heap.size w w' := by
  have F : Hid (Fit D) := hf
  have f0 := hf.1
  have f1 := hf.2.1
  have f2 := hf.2.2.1
  have R : Hid (RdD w h D) := r
  have HK : Hid (HOK h) := hk
  have HB : Hid (Below w.heap.size w ((w.alloc (.cells #[.slice h.a0 h.n0 h.c0, .slice h.a1 h.n1 h.c1, .bool h.b, .slice h.a2 h.n2 h.c2] 27)).alloc (.cells #[.slice none 0 0, .slice none 0 0, .bool false, .slice none 0 0] 27))) := ((Below.refl _ _).alloc (Nat.le_refl _) _).alloc (by simp) _
  have BX : Hid (Box ((w.alloc (.cells #[.slice h.a0 h.n0 h.c0, .slice h.a1 h.n1 h.c1, .bool h.b, .slice h.a2 h.n2 h.c2] 27)).alloc (.cells #[.slice none 0 0, .slice none 0 0, .bool false, .slice none 0 0] 27)) w.heap.size 27 #[.slice h.a0 h.n0 h.c0, .slice h.a1 h.n1 h.c1, .bool h.b, .slice h.a2 h.n2 h.c2]) := (Box.new _ _ _).alloc _
  have BR : Hid (Box ((w.alloc (.cells #[.slice h.a0 h.n0 h.c0, .slice h.a1 h.n1 h.c1, .bool h.b, .slice h.a2 h.n2 h.c2] 27)).alloc (.cells #[.slice none 0 0, .slice none 0 0, .bool false, .slice none 0 0] 27)) (w.heap.size + 1) 27 #[.slice none 0 0, .slice none 0 0, .bool false, .slice none 0 0]) := Box.new2 _ _ _ _
  clear r hk hf
  go_enter Try.func35, Try.ntmps35
  go_wp2_with fail
  refine (c_specOK h D _ (R.out.below HB.out) F.out).mono ?_
  rintro e w1 ⟨rfl, hb⟩
  have B1 : Hid (Below w.heap.size w w1) := HB.out.trans (hb.mono HB.out.size)
  have x1 := BX.out.belowS hb
  have y1 := BR.out.belowS hb
  have l1 := y1.lt
  obtain ⟨v0, v1, v2, v3⟩ := box4 x1
  obtain ⟨y0, yy1, y2, y3⟩ := box4 y1
  have z0 := y1.thaw 0
  have z1 := y1.thaw 1
  have z2 := y1.thaw 2
  have z3 := y1.thaw 3
  have s1 : w.heap.size ≤ w1.heap.size := B1.out.size
  have BR1 : Hid (Box w1 (w.heap.size + 1) 27 #[.slice none 0 0, .slice none 0 0, .bool false, .slice none 0 0]) := y1
  clear x1 y1 hb HB BX BR
  cases hok : okD D
  · have E1 : Hid (syncR D = eD) := by unfold Hid syncR; rw [if_neg (by rw [hok]; decide)]
    have E2 : Hid (syncC D = 1) := by unfold Hid syncC; rw [if_neg (by rw [hok]; decide)]
    have E3 : Hid (syncA D = false) := by unfold Hid syncA; rw [if_neg (by rw [hok]; decide)]
    clear hok
    go_wp2
    refine ret_box3 (v := .bool false) (v' := .int .i64 1) Try.results35 rfl rfl rfl rfl (put4_box BR1.out _ _ _ _) ⟨⟨⟨none, 0, 0, none, 0, 0, false, none, 0, 0⟩, by rw [E2.out, E3.out], by rw [E1.out]; exact own_eD _ _⟩, put4_below B1.out (by omega) _ _ _ _⟩
  · have E1 : Hid (syncR D = syncD D) := by unfold Hid syncR; rw [if_pos hok]
    have E2 : Hid (syncC D = 0) := by unfold Hid syncC; rw [if_pos hok]
    have E3 : Hid (syncA D = !D.A) := by unfold Hid syncA; rw [if_pos hok]
    have G : Hid (goodD D) := ok_good hok
    have HOKD : Hid (okD D = true) := hok
    clear hok
    go_wp2_with fail
    refine (c_specSync h D w1 (R.out.below B1.out) HK.out F.out HOKD.out).mono ?_
    rintro e w2 ⟨⟨h', rfl, o⟩, hb⟩
    have B2 : Hid (Below w.heap.size w (w2.alloc (.cells #[.slice h'.a0 h'.n0 h'.c0, .slice h'.a1 h'.n1 h'.c1, .bool h'.b, .slice h'.a2 h'.n2 h'.c2] 27))) := (B1.out.trans (hb.mono B1.out.size)).alloc (Nat.le_trans s1 hb.size) _
    have y1 := (BR1.out.belowS hb).alloc (.cells #[.slice h'.a0 h'.n0 h'.c0, .slice h'.a1 h'.n1 h'.c1, .bool h'.b, .slice h'.a2 h'.n2 h'.c2] 27)
    have l2 := (BR1.out.belowS hb).lt
    have O : Hid (OwnD (w2.alloc (.cells #[.slice h'.a0 h'.n0 h'.c0, .slice h'.a1 h'.n1 h'.c1, .bool h'.b, .slice h'.a2 h'.n2 h'.c2] 27)) w1.heap.size w2.heap.size h' (syncD D)) := o.below ((Below.refl _ _).alloc (Nat.le_refl _) _)
    clear y0 yy1 y2 y3 z0 z1 z2 z3 v0 v1 v2 v3 hb o
    obtain ⟨W, hW⟩ : ∃ W, w2.alloc (.cells #[.slice h'.a0 h'.n0 h'.c0, .slice h'.a1 h'.n1 h'.c1, .bool h'.b, .slice h'.a2 h'.n2 h'.c2] 27) = W := ⟨_, rfl⟩
    have x9 := Box.new w2 #[.slice h'.a0 h'.n0 h'.c0, .slice h'.a1 h'.n1 h'.c1, .bool h'.b, .slice h'.a2 h'.n2 h'.c2] 27
    rw [hW] at y1 B2 O x9
    obtain ⟨v0, v1, v2, v3⟩ := box4 x9
    obtain ⟨y0, yy1, y2, y3⟩ := box4 y1
    have z0 := y1.thaw 0
    have z1 := y1.thaw 1
    have z2 := y1.thaw 2
    have z3 := y1.thaw 3
    have BR2 : Hid (Box W (w.heap.size + 1) 27 #[.slice none 0 0, .slice none 0 0, .bool false, .slice none 0 0]) := y1
    clear y1 x9
    go_wp2
    refine ret_box3 (v := .bool (!D.A)) (v' := .int .i64 0) Try.results35 rfl rfl rfl rfl (put4_box BR2.out _ _ _ _) ⟨⟨h', by rw [E2.out, E3.out], by rw [E1.out]; exact O.out.put s1 (by simp) l1 (fun g hg => put4_same _ _ _ _ _ _ _ hg)⟩, put4_below B2.out (by omega) _ _ _ _⟩

set_option maxHeartbeats 4000000 in
theorem c_synced (D : DD) (hf : Fit D) (w : World) (h : HD) (r : RdD w h D) (hk : HOK h) (hok : okD D = true) :
    Calls Try.prog 50 #[.agg #[.slice h.a0 h.n0 h.c0, .slice h.a1 h.n1 h.c1, .bool h.b, .slice h.a2 h.n2 h.c2]] w fun e w' => (∃ h' : HD, e = .returned (.tuple #[.agg #[.slice h'.a0 h'.n0 h'.c0, .slice h'.a1 h'.n1 h'.c1, .bool h'.b, .slice h'.a2 h'.n2 h'.c2], .bool (!D.A)]) ∧ OwnD w' w.heap.size w'.heap.size h' (syncD D)) ∧ Below w.heap.size w w' := by
  have F : Hid (Fit D) := hf
  have f0 := hf.1
  have f1 := hf.2.1
  have f2 := hf.2.2.1
  have R : Hid (RdD w h D) := r
  have HK : Hid (HOK h) := hk
  have G : Hid (goodD D) := ok_good hok
  obtain ⟨V0, hV0⟩ : ∃ V, w.alloc (.cells #[.slice h.a0 h.n0 h.c0, .slice h.a1 h.n1 h.c1, .bool h.b, .slice h.a2 h.n2 h.c2] 27) = V := ⟨_, rfl⟩
  obtain ⟨V, hV⟩ : ∃ V, V0.alloc (.cells #[.slice none 0 0, .slice none 0 0, .bool false, .slice none 0 0] 27) = V := ⟨_, rfl⟩
  have hb0 : Below w.heap.size w V0 := by rw [← hV0]; exact (Below.refl _ _).alloc (Nat.le_refl _) _
  have hb1 : Below V0.heap.size V0 V := by rw [← hV]; exact (Below.refl _ _).alloc (Nat.le_refl _) _
  have B1 : Hid (Below w.heap.size w V) := hb0.trans (hb1.mono hb0.size)
  have e0 : V0.heap.size = w.heap.size + 1 := by rw [← hV0]; simp
  have x1 : Box V w.heap.size 27 #[.slice h.a0 h.n0 h.c0, .slice h.a1 h.n1 h.c1, .bool h.b, .slice h.a2 h.n2 h.c2] := (show Box V0 w.heap.size 27 #[.slice h.a0 h.n0 h.c0, .slice h.a1 h.n1 h.c1, .bool h.b, .slice h.a2 h.n2 h.c2] by rw [← hV0]; exact Box.new _ _ _).belowS hb1
  have y1 : Box V (w.heap.size + 1) 27 #[.slice none 0 0, .slice none 0 0, .bool false, .slice none 0 0] := by rw [← e0, ← hV]; exact Box.new _ _ _
  rw [e0] at hb1
  have l1 := y1.lt
  obtain ⟨v0, v1, v2, v3⟩ := box4 x1
  obtain ⟨y0, yy1, y2, y3⟩ := box4 y1
  have z0 := y1.thaw 0
  have z1 := y1.thaw 1
  have z2 := y1.thaw 2
  have z3 := y1.thaw 3
  have s1 : w.heap.size ≤ V.heap.size := B1.out.size
  have BR1 : Hid (Box V (w.heap.size + 1) 27 #[.slice none 0 0, .slice none 0 0, .bool false, .slice none 0 0]) := y1
  clear x1 y1 hb0 hb1 r hk hf
  obtain ⟨A, hA⟩ : ∃ A, A = h.b := ⟨_, rfl⟩
  have HA : Hid (A = h.b) := hA
  have HAD : Hid (h.b = D.A) := R.out.1
  rw [← hA] at v2
  cases A
  · have HSD : Hid (syncD D = ⟨settle D.S D.C, [], false, []⟩) := by unfold Hid syncD; rw [if_neg (by rw [← HAD.out, ← HA.out]; decide)]
    have HNA : Hid ((!D.A) = true) := by unfold Hid; rw [← HAD.out, ← HA.out]; rfl
    have k0 := R.out.l0
    have k1 := R.out.l1
    clear hA
    go_enter Try.func50, Try.ntmps50
    go_wp2_with fail
    refine (c_settled _ h.n0 _ _ h.n1 _ _ _ _ _ D.S D.C V (R.out.below B1.out).2.1 (R.out.below B1.out).2.2.1 HK.out.1 (by omega) (by omega) G.out).mono ?_
    rintro e w2 ⟨⟨a', c', rfl, o, rng⟩, hb⟩
    have B2 : Hid (Below w.heap.size w w2) := B1.out.trans (hb.mono B1.out.size)
    have y1 := BR1.out.belowS hb
    have O : Hid (OwnD w2 V.heap.size w2.heap.size ⟨a', h.n0, c', none, 0, 0, false, none, 0, 0⟩ ⟨settle D.S D.C, [], false, []⟩) := oneD o
    clear y0 yy1 y2 y3 z0 z1 z2 z3 v0 v1 v2 v3 hb o rng
    obtain ⟨y0, yy1, y2, y3⟩ := box4 y1
    have z0 := y1.thaw 0
    have z1 := y1.thaw 1
    have z2 := y1.thaw 2
    have z3 := y1.thaw 3
    have BR2 : Hid (Box w2 (w.heap.size + 1) 27 #[.slice none 0 0, .slice none 0 0, .bool false, .slice none 0 0]) := y1
    clear y1
    go_wp2
    refine ret_box2 (v := .bool true) Try.results50 rfl rfl rfl (put4_box BR2.out _ _ _ _) ⟨⟨⟨a', h.n0, c', none, 0, 0, false, none, 0, 0⟩, by rw [HNA.out], by rw [HSD.out]; exact O.out.put s1 (by simp) l1 (fun g hg => put4_same _ _ _ _ _ _ _ hg)⟩, put4_below B2.out (by omega) _ _ _ _⟩
  · have HSD : Hid (syncD D = crashD D D.K) := by unfold Hid syncD; rw [if_pos (by rw [← HAD.out, ← HA.out])]
    have HNA : Hid ((!D.A) = false) := by unfold Hid; rw [← HAD.out, ← HA.out]; rfl
    have k2 := R.out.l2
    have hAE : Hid (h.b = true) := HA.out.symm
    have R3 : Hid (RdD V ⟨h.a0, h.n0, h.c0, h.a1, h.n1, h.c1, true, h.a2, h.n2, h.c2⟩ D) := by have := R.out.below B1.out; unfold Hid; rw [HA.out]; exact this
    clear hA
    go_enter Try.func50, Try.ntmps50
    go_wp2_with fail
    refine (c_crashed ⟨h.a0, h.n0, h.c0, h.a1, h.n1, h.c1, true, h.a2, h.n2, h.c2⟩ D h.a2 h.n2 h.c2 D.K V R3.out HK.out F.out G.out (R.out.below B1.out).2.2.2 (by omega)).mono ?_
    rintro e w2 ⟨⟨h', rfl, o⟩, hb⟩
    have B2 : Hid (Below w.heap.size w w2) := B1.out.trans (hb.mono B1.out.size)
    have y1 := BR1.out.belowS hb
    have O : Hid (OwnD w2 V.heap.size w2.heap.size h' (crashD D D.K)) := o
    clear y0 yy1 y2 y3 z0 z1 z2 z3 v0 v1 v2 v3 hb o
    obtain ⟨y0, yy1, y2, y3⟩ := box4 y1
    have z0 := y1.thaw 0
    have z1 := y1.thaw 1
    have z2 := y1.thaw 2
    have z3 := y1.thaw 3
    have BR2 : Hid (Box w2 (w.heap.size + 1) 27 #[.slice none 0 0, .slice none 0 0, .bool false, .slice none 0 0]) := y1
    clear y1
    go_wp2
    refine ret_box2 (v := .bool false) Try.results50 rfl rfl rfl (put4_box BR2.out _ _ _ _) ⟨⟨h', by rw [HNA.out], by rw [HSD.out]; exact O.out.put s1 (by simp) l1 (fun g hg => put4_same _ _ _ _ _ _ _ hg)⟩, put4_below B2.out (by omega) _ _ _ _⟩
set_option maxHeartbeats 4000000 in
theorem c_implSync2 (D : DD) (hf : Fit D) (w : World) (h : HD) (r : RdD w h D) (hk : HOK h) :
    Calls Try.prog 18 #[.agg #[.slice h.a0 h.n0 h.c0, .slice h.a1 h.n1 h.c1, .bool h.b, .slice h.a2 h.n2 h.c2]] w fun e w' => (∃ h' : HD, e = .returned (.tuple #[.agg #[.slice h'.a0 h'.n0 h'.c0, .slice h'.a1 h'.n1 h'.c1, .bool h'.b, .slice h'.a2 h'.n2 h'.c2], .bool (syncA D), .int .i64 (syncC D)]) ∧ OwnD w' w.heap.size w'.heap.size h' (syncR D)) ∧ Below w.heap.size w w' := by
  have F : Hid (Fit D) := hf
  have f0 := hf.1
  have f1 := hf.2.1
  have f2 := hf.2.2.1
  have R : Hid (RdD w h D) := r
  have HK : Hid (HOK h) := hk
  have HB : Hid (Below w.heap.size w ((w.alloc (.cells #[.slice h.a0 h.n0 h.c0, .slice h.a1 h.n1 h.c1, .bool h.b, .slice h.a2 h.n2 h.c2] 27)).alloc (.cells #[.slice none 0 0, .slice none 0 0, .bool false, .slice none 0 0] 27))) := ((Below.refl _ _).alloc (Nat.le_refl _) _).alloc (by simp) _
  have BX : Hid (Box ((w.alloc (.cells #[.slice h.a0 h.n0 h.c0, .slice h.a1 h.n1 h.c1, .bool h.b, .slice h.a2 h.n2 h.c2] 27)).alloc (.cells #[.slice none 0 0, .slice none 0 0, .bool false, .slice none 0 0] 27)) w.heap.size 27 #[.slice h.a0 h.n0 h.c0, .slice h.a1 h.n1 h.c1, .bool h.b, .slice h.a2 h.n2 h.c2]) := (Box.new _ _ _).alloc _
  have BR : Hid (Box ((w.alloc (.cells #[.slice h.a0 h.n0 h.c0, .slice h.a1 h.n1 h.c1, .bool h.b, .slice h.a2 h.n2 h.c2] 27)).alloc (.cells #[.slice none 0 0, .slice none 0 0, .bool false, .slice none 0 0] 27)) (w.heap.size + 1) 27 #[.slice none 0 0, .slice none 0 0, .bool false, .slice none 0 0]) := Box.new2 _ _ _ _
  clear r hk hf
  go_enter Try.func18, Try.ntmps18
  go_wp2_with fail
  refine (c_implOK h D _ (R.out.below HB.out) F.out).mono ?_
  rintro e w1 ⟨rfl, hb⟩
  have B1 : Hid (Below w.heap.size w w1) := HB.out.trans (hb.mono HB.out.size)
  have x1 := BX.out.belowS hb
  have y1 := BR.out.belowS hb
  have l1 := y1.lt
  obtain ⟨v0, v1, v2, v3⟩ := box4 x1
  obtain ⟨y0, yy1, y2, y3⟩ := box4 y1
  have z0 := y1.thaw 0
  have z1 := y1.thaw 1
  have z2 := y1.thaw 2
  have z3 := y1.thaw 3
  have s1 : w.heap.size ≤ w1.heap.size := B1.out.size
  have BR1 : Hid (Box w1 (w.heap.size + 1) 27 #[.slice none 0 0, .slice none 0 0, .bool false, .slice none 0 0]) := y1
  have BX1 : Hid (Box w1 w.heap.size 27 #[.slice h.a0 h.n0 h.c0, .slice h.a1 h.n1 h.c1, .bool h.b, .slice h.a2 h.n2 h.c2]) := x1
  clear x1 y1 hb HB BX BR
  cases hok : okD D
  · have E1 : Hid (syncR D = eD) := by unfold Hid syncR; rw [if_neg (by rw [hok]; decide)]
    have E2 : Hid (syncC D = 1) := by unfold Hid syncC; rw [if_neg (by rw [hok]; decide)]
    have E3 : Hid (syncA D = false) := by unfold Hid syncA; rw [if_neg (by rw [hok]; decide)]
    clear hok
    go_wp2
    refine ret_box3 (v := .bool false) (v' := .int .i64 1) Try.results18 rfl rfl rfl rfl (put4_box BR1.out _ _ _ _) ⟨⟨⟨none, 0, 0, none, 0, 0, false, none, 0, 0⟩, by rw [E2.out, E3.out], by rw [E1.out]; exact own_eD _ _⟩, put4_below B1.out (by omega) _ _ _ _⟩
  · have E1 : Hid (syncR D = syncD D) := by unfold Hid syncR; rw [if_pos hok]
    have E2 : Hid (syncC D = 0) := by unfold Hid syncC; rw [if_pos hok]
    have E3 : Hid (syncA D = !D.A) := by unfold Hid syncA; rw [if_pos hok]
    have G : Hid (goodD D) := ok_good hok
    have HOKD : Hid (okD D = true) := hok
    clear hok
    have C : Hid (Calls Try.prog 50 #[.agg #[.slice h.a0 h.n0 h.c0, .slice h.a1 h.n1 h.c1, .bool h.b, .slice h.a2 h.n2 h.c2]] w1 fun e w' => (∃ h' : HD, e = .returned (.tuple #[.agg #[.slice h'.a0 h'.n0 h'.c0, .slice h'.a1 h'.n1 h'.c1, .bool h'.b, .slice h'.a2 h'.n2 h'.c2], .bool (!D.A)]) ∧ OwnD w' w1.heap.size w'.heap.size h' (syncD D)) ∧ Below w1.heap.size w1 w') := c_synced D F.out w1 h (R.out.below B1.out) HK.out HOKD.out
    go_wp2_with fail
    refine C.out.mono ?_
    rintro e w2 ⟨⟨h', rfl, o⟩, hb⟩
    have B2 : Hid (Below w.heap.size w w2) := B1.out.trans (hb.mono B1.out.size)
    have x2 := BX1.out.belowS hb
    have y1 := BR1.out.belowS hb
    have O : Hid (OwnD w2 w1.heap.size w2.heap.size h' (syncD D)) := o
    have s2 : w1.heap.size ≤ w2.heap.size := hb.size
    clear y0 yy1 y2 y3 z0 z1 z2 z3 v0 v1 v2 v3 hb o
    obtain ⟨w3, hp3⟩ : ∃ W, (((w2.setCell ⟨w.heap.size, 0, none⟩ (.slice h'.a0 h'.n0 h'.c0)).setCell ⟨w.heap.size, 1, none⟩ (.slice h'.a1 h'.n1 h'.c1)).setCell ⟨w.heap.size, 2, none⟩ (.bool h'.b)).setCell ⟨w.heap.size, 3, none⟩ (.slice h'.a2 h'.n2 h'.c2) = W := ⟨_, rfl⟩
    obtain ⟨v0, v1, v2, v3⟩ := box4 x2
    have t0 := x2.thaw 0
    have t1 := x2.thaw 1
    have t2 := x2.thaw 2
    have t3 := x2.thaw 3
    have x3 : Box w3 w.heap.size 27 #[.slice h'.a0 h'.n0 h'.c0, .slice h'.a1 h'.n1 h'.c1, .bool h'.b, .slice h'.a2 h'.n2 h'.c2] := by rw [← hp3]; exact put4_box x2 _ _ _ _
    have y3b : Box w3 (w.heap.size + 1) 27 #[.slice none 0 0, .slice none 0 0, .bool false, .slice none 0 0] := by rw [← hp3]; exact (put4_same _ _ _ _ _ _ _ (by omega)).trans y1
    have B3 : Hid (Below w.heap.size w w3) := by unfold Hid; rw [← hp3]; exact put4_below B2.out (Nat.le_refl _) _ _ _ _
    have lx : w.heap.size < w1.heap.size := by omega
    have O3 : Hid (OwnD w3 w1.heap.size w3.heap.size h' (syncD D)) := O.out.put (Nat.le_refl _) (by rw [← hp3]; simp) lx (fun g hg => by rw [← hp3]; exact put4_same _ _ _ _ _ _ _ hg)
    obtain ⟨u0, u1, u2, u3⟩ := box4 x3
    obtain ⟨y0, yy1, y2, y3⟩ := box4 y3b
    have z0 := y3b.thaw 0
    have z1 := y3b.thaw 1
    have z2 := y3b.thaw 2
    have z3 := y3b.thaw 3
    have BR2 : Hid (Box w3 (w.heap.size + 1) 27 #[.slice none 0 0, .slice none 0 0, .bool false, .slice none 0 0]) := y3b
    clear y1 x2 x3 y3b
    go_wp2
    refine ret_box3 (v := .bool (!D.A)) (v' := .int .i64 0) Try.results18 rfl rfl rfl rfl (put4_box BR2.out _ _ _ _) ⟨⟨h', by rw [E2.out, E3.out], by rw [E1.out]; exact O3.out.put s1 (by simp) l1 (fun g hg => put4_same _ _ _ _ _ _ _ hg)⟩, put4_below B3.out (by omega) _ _ _ _⟩
end Go.Proofs.Ytefbaemcdfmhpaa
