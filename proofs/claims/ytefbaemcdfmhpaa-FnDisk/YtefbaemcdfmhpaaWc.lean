/-
  DiskCrash: the program's and the specification's.
-/
import Derived.Test.YtefbaemcdfmhpaaSc
namespace Go.Proofs.Ytefbaemcdfmhpaa
open Go Go.RowKit
attribute [local go_sem ↓] Go.wp_at_zero Go.wp_at_succ

def eD : DD := ⟨[], [], false, []⟩
theorem own_eD (w : World) (B : Nat) : OwnD w B w.heap.size ⟨none, 0, 0, none, 0, 0, false, none, 0, 0⟩ eD :=
  ⟨rfl, World.ownsRow_nil w _ _ _, World.ownsRow_nil w _ _ _, World.ownsRow_nil w _ _ _, Nat.le_refl _, nofun, nofun, nofun⟩
theorem fit_eD : Fit eD := ⟨Nat.zero_le _, Nat.zero_le _, Nat.zero_le _, nofun, nofun⟩
/-- A disk that is stored into a result. -/
theorem OwnD.put {w V : World} {B E r b : Nat} {h : HD} {D : DD} (o : OwnD w B E h D) (hb : b ≤ B) (hs : V.heap.size = w.heap.size) (hr : r < B) (hV : ∀ g, g ≠ r → V.heap[g]? = w.heap[g]?) : OwnD V b V.heap.size h D :=
  (o.same (by omega) fun g h1 _ => hV g (by omega)).wide hb
def crashR (D : DD) (K : List Int) : DD := if 4096 < K.length then eD else if okD D = true then crashD D K else eD
def crashC (D : DD) (K : List Int) : Int := if 4096 < K.length then 2 else if okD D = true then 0 else 1
theorem crash_fit {D : DD} {K : List Int} (hf : Fit D) : Fit (crashR D K) := by
  unfold crashR
  split
  · exact fit_eD
  · split
    · obtain ⟨f0, f1, f2, f3, f4⟩ := hf
      exact ⟨by show (settle _ _).length ≤ _; rw [settle_len]; exact f0, Nat.zero_le _, Nat.zero_le _, settle_size f3 (fun p hp => f4 p (keptN_mem (Nat.le_refl _) p hp)), nofun⟩
    · exact fit_eD

set_option maxHeartbeats 4000000 in
theorem c_implCrash2 (D : DD) (K : List Int) (kn : Nat) (hf : Fit D) (hkn : kn ≤ 1048576) (w : World) (h : HD) (ka : Option Addr) (kc : Nat) (r : RdD w h D) (hk : HOK h) (rk : RdV w ka kn (K.map (Value.int .i64))) (_hs : ka = none → kc = 0) :
    Calls Try.prog 19 #[.agg #[.slice h.a0 h.n0 h.c0, .slice h.a1 h.n1 h.c1, .bool h.b, .slice h.a2 h.n2 h.c2], .slice ka kn kc] w fun e w' => (∃ h' : HD, e = .returned (.tuple #[.agg #[.slice h'.a0 h'.n0 h'.c0, .slice h'.a1 h'.n1 h'.c1, .bool h'.b, .slice h'.a2 h'.n2 h'.c2], .int .i64 (crashC D K)]) ∧ OwnD w' w.heap.size w'.heap.size h' (crashR D K)) ∧ Below w.heap.size w w' := by
  have lk : K.length = kn := by simpa using rk.1
  have F : Hid (Fit D) := hf
  have R : Hid (RdD w h D) := r
  have HK : Hid (HOK h) := hk
  have RK : Hid (RdV w ka kn (K.map (Value.int .i64))) := rk
  have HB : Hid (Below w.heap.size w ((w.alloc (.cells #[.slice h.a0 h.n0 h.c0, .slice h.a1 h.n1 h.c1, .bool h.b, .slice h.a2 h.n2 h.c2] 27)).alloc (.cells #[.slice none 0 0, .slice none 0 0, .bool false, .slice none 0 0] 27))) := ((Below.refl _ _).alloc (Nat.le_refl _) _).alloc (by simp) _
  have BX : Hid (Box ((w.alloc (.cells #[.slice h.a0 h.n0 h.c0, .slice h.a1 h.n1 h.c1, .bool h.b, .slice h.a2 h.n2 h.c2] 27)).alloc (.cells #[.slice none 0 0, .slice none 0 0, .bool false, .slice none 0 0] 27)) w.heap.size 27 #[.slice h.a0 h.n0 h.c0, .slice h.a1 h.n1 h.c1, .bool h.b, .slice h.a2 h.n2 h.c2]) := (Box.new _ _ _).alloc _
  have BR : Hid (Box ((w.alloc (.cells #[.slice h.a0 h.n0 h.c0, .slice h.a1 h.n1 h.c1, .bool h.b, .slice h.a2 h.n2 h.c2] 27)).alloc (.cells #[.slice none 0 0, .slice none 0 0, .bool false, .slice none 0 0] 27)) (w.heap.size + 1) 27 #[.slice none 0 0, .slice none 0 0, .bool false, .slice none 0 0]) := Box.new2 _ _ _ _
  clear r hk rk hf
  by_cases hlong : 4096 < kn
  · have E1 : Hid (crashR D K = eD) := by unfold Hid crashR; rw [if_pos (by omega)]
    have E2 : Hid (crashC D K = 2) := by unfold Hid crashC; rw [if_pos (by omega)]
    go_enter Try.func19, Try.ntmps19
    go_wp2
    refine ret_box2 (v := .int .i64 2) Try.results19 rfl rfl rfl BR.out ⟨⟨⟨none, 0, 0, none, 0, 0, false, none, 0, 0⟩, by rw [E2.out], by rw [E1.out]; exact own_eD _ _⟩, HB.out⟩
  · go_enter Try.func19, Try.ntmps19
    go_wp2_with fail
    refine (c_implOK h D _ (R.out.below HB.out) F.out).mono ?_
    rintro e w1 ⟨rfl, hb⟩
    have B1 : Hid (Below w.heap.size w w1) := HB.out.trans (hb.mono HB.out.size)
    have x1 := BX.out.belowS hb
    have y1 := BR.out.belowS hb
    have l1 := y1.lt
    obtain ⟨v0, v1, v2, v3⟩ := box4 x1
    obtain ⟨y0, yy1, y2, y3⟩ := box4 y1
    have z0 := y1.thaw 0
    have z1 := y1.thaw 1
    have z2 := y1.thaw 2
    have z3 := y1.thaw 3
    have BR1 : Hid (Box w1 (w.heap.size + 1) 27 #[.slice none 0 0, .slice none 0 0, .bool false, .slice none 0 0]) := y1
    clear x1 y1 hb HB BX BR
    cases hok : okD D
    · have E1 : Hid (crashR D K = eD) := by unfold Hid crashR; rw [if_neg (by omega), if_neg (by rw [hok]; decide)]
      have E2 : Hid (crashC D K = 1) := by unfold Hid crashC; rw [if_neg (by omega), if_neg (by rw [hok]; decide)]
      clear hok
      go_wp2
      refine ret_box2 (v := .int .i64 1) Try.results19 rfl rfl rfl (put4_box BR1.out _ _ _ _) ⟨⟨⟨none, 0, 0, none, 0, 0, false, none, 0, 0⟩, by rw [E2.out], by rw [E1.out]; exact own_eD _ _⟩, put4_below B1.out (by omega) _ _ _ _⟩
    · have E1 : Hid (crashR D K = crashD D K) := by unfold Hid crashR; rw [if_neg (by omega), if_pos hok]
      have E2 : Hid (crashC D K = 0) := by unfold Hid crashC; rw [if_neg (by omega), if_pos hok]
      have G : Hid (goodD D) := ok_good hok
      clear hok
      go_wp2_with fail
      refine (c_crashed h D ka kn kc K w1 (R.out.below B1.out) HK.out F.out G.out (RK.out.below B1.out) hkn).mono ?_
      rintro e w2 ⟨⟨h', rfl, o⟩, hb⟩
      have B2 : Hid (Below w.heap.size w w2) := B1.out.trans (hb.mono B1.out.size)
      have y1 := BR1.out.belowS hb
      have s1 : w.heap.size ≤ w1.heap.size := B1.out.size
      have O : Hid (OwnD w2 w1.heap.size w2.heap.size h' (crashD D K)) := o
      clear y0 yy1 y2 y3 z0 z1 z2 z3 v0 v1 v2 v3 hb o
      obtain ⟨y0, yy1, y2, y3⟩ := box4 y1
      have z0 := y1.thaw 0
      have z1 := y1.thaw 1
      have z2 := y1.thaw 2
      have z3 := y1.thaw 3
      have BR2 : Hid (Box w2 (w.heap.size + 1) 27 #[.slice none 0 0, .slice none 0 0, .bool false, .slice none 0 0]) := y1
      clear y1
      go_wp2
      refine ret_box2 (v := .int .i64 0) Try.results19 rfl rfl rfl (put4_box BR2.out _ _ _ _) ⟨⟨h', by rw [E2.out], by rw [E1.out]; exact O.out.put s1 (by simp) l1 (fun g hg => put4_same _ _ _ _ _ _ _ hg)⟩, put4_below B2.out (by omega) _ _ _ _⟩

set_option maxHeartbeats 4000000 in
theorem c_specCrash2 (D : DD) (K : List Int) (kn : Nat) (hf : Fit D) (hkn : kn ≤ 1048576) (w : World) (h : HD) (ka : Option Addr) (kc : Nat) (r : RdD w h D) (hk : HOK h) (rk : RdV w ka kn (K.map (Value.int .i64))) (_hs : ka = none → kc = 0) :
    Calls Try.prog 21 #[.agg #[.slice h.a0 h.n0 h.c0, .slice h.a1 h.n1 h.c1, .bool h.b, .slice h.a2 h.n2 h.c2], .slice ka kn kc] w fun e w' => (∃ h' : HD, e = .returned (.tuple #[.agg #[.slice h'.a0 h'.n0 h'.c0, .slice h'.a1 h'.n1 h'.c1, .bool h'.b, .slice h'.a2 h'.n2 h'.c2], .int .i64 (crashC D K)]) ∧ OwnD w' w.heap.size w'.heap.size h' (crashR D K)) ∧ Below w.heap.size w w' := by
  have lk : K.length = kn := by simpa using rk.1
  have F : Hid (Fit D) := hf
  have R : Hid (RdD w h D) := r
  have HK : Hid (HOK h) := hk
  have RK : Hid (RdV w ka kn (K.map (Value.int .i64))) := rk
  have HB : Hid (Below w.heap.size w ((w.alloc (.cells #[.slice h.a0 h.n0 h.c0, .slice h.a1 h.n1 h.c1, .bool h.b, .slice h.a2 h.n2 h.c2] 27)).alloc (.cells #[.slice none 0 0, .slice none 0 0, .bool false, .slice none 0 0] 27))) := ((Below.refl _ _).alloc (Nat.le_refl _) _).alloc (by simp) _
  have BX : Hid (Box ((w.alloc (.cells #[.slice h.a0 h.n0 h.c0, .slice h.a1 h.n1 h.c1, .bool h.b, .slice h.a2 h.n2 h.c2] 27)).alloc (.cells #[.slice none 0 0, .slice none 0 0, .bool false, .slice none 0 0] 27)) w.heap.size 27 #[.slice h.a0 h.n0 h.c0, .slice h.a1 h.n1 h.c1, .bool h.b, .slice h.a2 h.n2 h.c2]) := (Box.new _ _ _).alloc _
  have BR : Hid (Box ((w.alloc (.cells #[.slice h.a0 h.n0 h.c0, .slice h.a1 h.n1 h.c1, .bool h.b, .slice h.a2 h.n2 h.c2] 27)).alloc (.cells #[.slice none 0 0, .slice none 0 0, .bool false, .slice none 0 0] 27)) (w.heap.size + 1) 27 #[.slice none 0 0, .slice none 0 0, .bool false, .slice none 0 0]) := Box.new2 _ _ _ _
  clear r hk rk hf
  by_cases hlong : 4096 < kn
  · have E1 : Hid (crashR D K = eD) := by unfold Hid crashR; rw [if_pos (by omega)]
    have E2 : Hid (crashC D K = 2) := by unfold Hid crashC; rw [if_pos (by omega)]
    go_enter Try.func21, Try.ntmps21
    go_wp2
    refine ret_box2 (v := .int .i64 2) Try.results21 rfl rfl rfl BR.out ⟨⟨⟨none, 0, 0, none, 0, 0, false, none, 0, 0⟩, by rw [E2.out], by rw [E1.out]; exact own_eD _ _⟩, HB.out⟩
  · go_enter Try.func21, Try.ntmps21
    go_wp2_with fail
    refine (c_specOK h D _ (R.out.below HB.out) F.out).mono ?_
    rintro e w1 ⟨rfl, hb⟩
    have B1 : Hid (Below w.heap.size w w1) := HB.out.trans (hb.mono HB.out.size)
    have x1 := BX.out.belowS hb
    have y1 := BR.out.belowS hb
    have l1 := y1.lt
    obtain ⟨v0, v1, v2, v3⟩ := box4 x1
    obtain ⟨y0, yy1, y2, y3⟩ := box4 y1
    have z0 := y1.thaw 0
    have z1 := y1.thaw 1
    have z2 := y1.thaw 2
    have z3 := y1.thaw 3
    have BR1 : Hid (Box w1 (w.heap.size + 1) 27 #[.slice none 0 0, .slice none 0 0, .bool false, .slice none 0 0]) := y1
    clear x1 y1 hb HB BX BR
    cases hok : okD D
    · have E1 : Hid (crashR D K = eD) := by unfold Hid crashR; rw [if_neg (by omega), if_neg (by rw [hok]; decide)]
      have E2 : Hid (crashC D K = 1) := by unfold Hid crashC; rw [if_neg (by omega), if_neg (by rw [hok]; decide)]
      clear hok
      go_wp2
      refine ret_box2 (v := .int .i64 1) Try.results21 rfl rfl rfl (put4_box BR1.out _ _ _ _) ⟨⟨⟨none, 0, 0, none, 0, 0, false, none, 0, 0⟩, by rw [E2.out], by rw [E1.out]; exact own_eD _ _⟩, put4_below B1.out (by omega) _ _ _ _⟩
    · have E1 : Hid (crashR D K = crashD D K) := by unfold Hid crashR; rw [if_neg (by omega), if_pos hok]
      have E2 : Hid (crashC D K = 0) := by unfold Hid crashC; rw [if_neg (by omega), if_pos hok]
      have G : Hid (goodD D) := ok_good hok
      clear hok
      go_wp2_with fail
      refine (c_specCrash h D ka kn kc K w1 (R.out.below B1.out) HK.out F.out G.out (RK.out.below B1.out) hkn).mono ?_
      rintro e w2 ⟨⟨h', rfl, o⟩, hb⟩
      have B2 : Hid (Below w.heap.size w w2) := B1.out.trans (hb.mono B1.out.size)
      have y1 := BR1.out.belowS hb
      have s1 : w.heap.size ≤ w1.heap.size := B1.out.size
      have O : Hid (OwnD w2 w1.heap.size w2.heap.size h' (crashD D K)) := o
      clear y0 yy1 y2 y3 z0 z1 z2 z3 v0 v1 v2 v3 hb o
      obtain ⟨y0, yy1, y2, y3⟩ := box4 y1
      have z0 := y1.thaw 0
      have z1 := y1.thaw 1
      have z2 := y1.thaw 2
      have z3 := y1.thaw 3
      have BR2 : Hid (Box w2 (w.heap.size + 1) 27 #[.slice none 0 0, .slice none 0 0, .bool false, .slice none 0 0]) := y1
      clear y1
      go_wp2
      refine ret_box2 (v := .int .i64 0) Try.results21 rfl rfl rfl (put4_box BR2.out _ _ _ _) ⟨⟨h', by rw [E2.out], by rw [E1.out]; exact O.out.put s1 (by simp) l1 (fun g hg => put4_same _ _ _ _ _ _ _ hg)⟩, put4_below B2.out (by omega) _ _ _ _⟩
end Go.Proofs.Ytefbaemcdfmhpaa
