/-
  DiskArm: the program's and the specification's.
-/
import Derived.Test.YtefbaemcdfmhpaaWc
import Derived.Test.YtefbaemcdfmhpaaCd
namespace Go.Proofs.Ytefbaemcdfmhpaa
open Go Go.RowKit
attribute [local go_sem ↓] Go.wp_at_zero Go.wp_at_succ

def armD (D : DD) (K : List Int) : DD := ⟨D.S, D.C, true, K⟩
def armR (D : DD) (K : List Int) : DD := if 4096 < K.length then eD else if okD D = true then (if 500 < K.length then eD else armD D K) else eD
def armC (D : DD) (K : List Int) : Int := if 4096 < K.length then 2 else if okD D = true then (if 500 < K.length then 6 else 0) else 1
theorem arm_fit {D : DD} {K : List Int} (hf : Fit D) : Fit (armR D K) := by
  unfold armR
  split
  · exact fit_eD
  · split
    · split
      · exact fit_eD
      · obtain ⟨f0, f1, f2, f3, f4⟩ := hf
        exact ⟨f0, f1, by show K.length ≤ _; omega, f3, f4⟩
    · exact fit_eD
theorem stageA {w V w3 : World} {go g e : Nat} {c z : Array Value} (i : Nat) (v : Value) (BX : Box V go 27 c) (BR : Box V (g + 1) 27 z) (HB : Below g w V) (hgo : g + 1 < go) (hg : (V.alloc (.cells #[] e)).grownBy w3 (some V.heap.size)) :
    ∃ W, w3.setCell ⟨go, i, none⟩ v = W ∧ W.heap.size = w3.heap.size ∧ Box W go 27 (c.setIfInBounds i v) ∧ Box W (g + 1) 27 z ∧ Below g w W ∧ w3.cell? ⟨go, i, none⟩ = c[i]? ∧ w3.frozen? ⟨go, i, none⟩ = false ∧ V.heap.size < w3.heap.size ∧ (∀ k, k ≠ go → W.heap[k]? = w3.heap[k]?) ∧ ∀ k, k < V.heap.size → w3.heap[k]? = V.heap[k]? := by
  have l1 := BX.lt
  have l2 := BR.lt
  have b1 := (BX.alloc (.cells #[] e)).grown hg (by simp; omega)
  have b2 := (BR.alloc (.cells #[] e)).grown hg (by simp; omega)
  have hb : Below g w w3 := (HB.alloc (by omega) (.cells #[] e)).grown hg (by simp; omega) (fun k h => by cases h; omega)
  have hs : V.heap.size < w3.heap.size := by have := hg.size; simp at this; omega
  exact ⟨_, rfl, by simp, b1.set i v, b2.setOther _ _ (show g + 1 ≠ go by omega), hb.setCell (show g ≤ go by omega) _, b1.cell i, b1.thaw i, hs, fun k h => Below.heap_setCell _ _ _ _ h, fun k h => (hg.block k (by simp; omega) (by simp; omega)).trans (Below.heap_alloc _ _ _ h)⟩
/-- The own copy with another list of numbers, armed. -/
theorem arm_own {w V : World} {B b E : Nat} {u0 u1 u2 a' : Option Addr} {m0 d0 m1 d1 m2 d2 kn c' r : Nat} {ub : Bool} {D : DD} {K : List Int} (o : OwnD w B E ⟨u0, m0, d0, u1, m1, d1, ub, u2, m2, d2⟩ D) (k : w.ownsRow b 3 1 (.slice a' kn c') kn (K.map (Value.int .i64))) (hg : ∀ g, ob a' = some g → E < g) (hb : b ≤ B) (hs : V.heap.size = w.heap.size) (hV : ∀ g, g ≠ r → V.heap[g]? = w.heap[g]?) (hr : r < B) (hB : B ≤ E) : OwnD V b V.heap.size ⟨u0, m0, d0, u1, m1, d1, true, a', kn, c'⟩ (armD D K) := by
  obtain ⟨h1, h2, h3, h4, h5, h6, h7, h8⟩ := o
  refine ⟨rfl, (own_same h2 fun g e => ?_).down hb, (own_same h3 fun g e => ?_).down hb, own_same k fun g e => ?_, Nat.le_refl _, fun g e => ?_, fun g e => ?_, fun g e => ?_⟩
  · rw [ob_slice] at e; have := h6 g e; exact hV g (by omega)
  · rw [ob_slice] at e; have := h7 g e; exact hV g (by omega)
  · rw [ob_slice] at e; have := hg g e; exact hV g (by omega)
  · have := h6 g e; exact ⟨by omega, by omega, this.2.2.1, fun e' => by have := hg g e'; omega⟩
  · have := h7 g e; exact ⟨by omega, by omega, fun e' => by have := hg g e'; omega⟩
  · have e' : ob a' = some g := e
    have h := k.lt g (by rw [ob_slice]; exact e')
    exact ⟨h.1, by omega⟩
/-- The own copy with another list of numbers, armed. -/
theorem arm_own' {w V : World} {B b E : Nat} {u0 u1 u2 a' : Option Addr} {m0 d0 m1 d1 m2 d2 kn c' r : Nat} {ub : Bool} {D : DD} {K : List Int} (o : OwnD w B E ⟨u0, m0, d0, u1, m1, d1, ub, u2, m2, d2⟩ D) (k : w.ownsRow b 3 1 (.slice a' kn c') kn (K.map (Value.int .i64))) (hg : ∀ g, ob a' = some g → E ≤ g) (hb : b ≤ B) (hs : V.heap.size = w.heap.size) (hV : ∀ g, g ≠ r → V.heap[g]? = w.heap[g]?) (hr : r < B) (hB : B ≤ E) : OwnD V b V.heap.size ⟨u0, m0, d0, u1, m1, d1, true, a', kn, c'⟩ (armD D K) := by
  obtain ⟨h1, h2, h3, h4, h5, h6, h7, h8⟩ := o
  refine ⟨rfl, (own_same h2 fun g e => ?_).down hb, (own_same h3 fun g e => ?_).down hb, own_same k fun g e => ?_, Nat.le_refl _, fun g e => ?_, fun g e => ?_, fun g e => ?_⟩
  · rw [ob_slice] at e; have := h6 g e; exact hV g (by omega)
  · rw [ob_slice] at e; have := h7 g e; exact hV g (by omega)
  · rw [ob_slice] at e; have := hg g e; exact hV g (by omega)
  · have := h6 g e; exact ⟨by omega, by omega, this.2.2.1, fun e' => by have := hg g e'; omega⟩
  · have := h7 g e; exact ⟨by omega, by omega, fun e' => by have := hg g e'; omega⟩
  · have e' : ob a' = some g := e
    have h := k.lt g (by rw [ob_slice]; exact e')
    exact ⟨h.1, by omega⟩

set_option maxHeartbeats 4000000 in
theorem c_l02Arm (h : HD) (D : DD) (K : List Int) (ka : Option Addr) (kn kc : Nat) (w : World) (hf : Fit D) (hkn : kn ≤ 1048576) (r : RdD w h D) (hk : HOK h) (rk : RdV w ka kn (K.map (Value.int .i64))) (hs : ka = none → kc = 0) :
    Calls Try.prog 72 #[.agg #[.slice h.a0 h.n0 h.c0, .slice h.a1 h.n1 h.c1, .bool h.b, .slice h.a2 h.n2 h.c2], .slice ka kn kc] w fun e w' => (∃ h' : HD, e = .returned (.agg #[.slice h'.a0 h'.n0 h'.c0, .slice h'.a1 h'.n1 h'.c1, .bool h'.b, .slice h'.a2 h'.n2 h'.c2]) ∧ OwnD w' w.heap.size w'.heap.size h' (armD D K)) ∧ Below w.heap.size w w' := by
  have lk : K.length = kn := by simpa using rk.1
  obtain ⟨i3, hi3, hz30, hz31, hz32⟩ := info_parts infoI
  have F : Hid (Fit D) := hf
  have R : Hid (RdD w h D) := r
  have HK : Hid (HOK h) := hk
  have NK : Hid (ka = none → kn = 0 ∧ kc = 0) := rdV_none rk hs
  have RK : Hid (RdV w ka kn (K.map (Value.int .i64))) := rk
  have HB : Hid (Below w.heap.size w ((w.alloc (.cells #[.slice h.a0 h.n0 h.c0, .slice h.a1 h.n1 h.c1, .bool h.b, .slice h.a2 h.n2 h.c2] 27)).alloc (.cells #[.slice none 0 0, .slice none 0 0, .bool false, .slice none 0 0] 27))) := ((Below.refl _ _).alloc (Nat.le_refl _) _).alloc (by simp) _
  have BR : Hid (Box ((w.alloc (.cells #[.slice h.a0 h.n0 h.c0, .slice h.a1 h.n1 h.c1, .bool h.b, .slice h.a2 h.n2 h.c2] 27)).alloc (.cells #[.slice none 0 0, .slice none 0 0, .bool false, .slice none 0 0] 27)) (w.heap.size + 1) 27 #[.slice none 0 0, .slice none 0 0, .bool false, .slice none 0 0]) := Box.new2 _ _ _ _
  clear r hk rk hf hs
  go_enter Try.func72, Try.ntmps72
  go_wp2_with fail
  refine (c_own h D _ (R.out.below HB.out) HK.out F.out).mono ?_
  rintro e w1 ⟨⟨⟨u0, m0, d0, u1, m1, d1, ub, u2, m2, d2⟩, rfl, o1⟩, hb⟩
  have o1' : OwnD w1 (w.heap.size + 1 + 1) w1.heap.size ⟨u0, m0, d0, u1, m1, d1, ub, u2, m2, d2⟩ D := by have := o1; simp at this; exact this
  have B1 : Below w.heap.size w w1 := HB.out.trans (hb.mono HB.out.size)
  have y1 := BR.out.belowS hb
  have L1 : w.heap.size + 1 < w1.heap.size := y1.lt
  clear hb o1 HB BR R HK
  obtain ⟨V1, hV1⟩ : ∃ V, w1.alloc (.cells #[.slice u0 m0 d0, .slice u1 m1 d1, .bool ub, .slice u2 m2 d2] 27) = V := ⟨_, rfl⟩
  have x2 := Box.new w1 #[.slice u0 m0 d0, .slice u1 m1 d1, .bool ub, .slice u2 m2 d2] 27
  rw [hV1] at x2
  obtain ⟨V, hV⟩ : ∃ V, V1.setCell ⟨w1.heap.size, 2, none⟩ (.bool true) = V := ⟨_, rfl⟩
  have x3 := x2.set 2 (.bool true)
  have y3 := (y1.alloc (.cells #[.slice u0 m0 d0, .slice u1 m1 d1, .bool ub, .slice u2 m2 d2] 27)).setOther ⟨w1.heap.size, 2, none⟩ (.bool true) (show w.heap.size + 1 ≠ w1.heap.size by omega)
  have SV : V.heap.size = w1.heap.size + 1 := by rw [← hV, ← hV1]; simp
  have KV : ∀ g, g < w1.heap.size → V.heap[g]? = w1.heap[g]? := fun g hg => by rw [← hV, Below.heap_setCell _ _ _ _ (show g ≠ w1.heap.size by omega), ← hV1, Below.heap_alloc _ _ _ hg]
  have BV : Below w.heap.size w V := by rw [← hV, ← hV1]; exact (B1.alloc B1.size _).setCell (show w.heap.size ≤ w1.heap.size by omega) _
  rw [hV1, hV] at y3
  rw [hV] at x3
  simp at x3
  have HO : Hid (OwnD V (w.heap.size + 1 + 1) w1.heap.size ⟨u0, m0, d0, u1, m1, d1, ub, u2, m2, d2⟩ D) := o1'.same (by omega) fun g _ h2 => KV g h2
  have HBV : Hid (Below w.heap.size w V) := BV
  have HX : Hid (Box V w1.heap.size 27 _) := x3
  have HY : Hid (Box V (w.heap.size + 1) 27 _) := y3
  have HSV : Hid (V.heap.size = w1.heap.size + 1) := SV
  obtain ⟨v0, v1, v2, v3⟩ := box4 x3
  have v5 := x2.cell 2
  have v6 := x2.thaw 2
  simp at v5
  have l3 := x3.lt
  have l4 := y3.lt
  clear x2 x3 y1 y3 SV KV BV o1'
  go_wp2_with (first
    | (at_builtin; refine app_any _ rfl (.tmp 9) (.tmp 10) 25 rfl w.heap.size 3 i3 (.int .i64 0) 1 8 Try.underlying25 hi3 hz30 hz31 hz32 rfl (by omega) (.slice (some ⟨V.heap.size, 0, none⟩) 0 0) 0 [] rfl (World.ownsRow_lit V #[] 0 HBV.out.size (Nat.zero_le _) rfl) ka kn kc (K.map (Value.int .i64)) rfl NK.out (by simp [lk]) (fun ad e => src1 (e ▸ (RK.out.below (HBV.out.alloc HBV.out.size _)))) (map_one _ (fun _ => rfl) _) (by unfold maxLen; omega) (by omega) (by have := HBV.out.size; simp; omega) ?_
       intro a' c' w3 ho hg hk
       rw [Nat.zero_add, List.nil_append] at ho
       have hge : ∀ g, ob a' = some g → V.heap.size ≤ g := fun g e => by rcases hk g e with h | h; exact Nat.le_of_eq (Option.some.inj h); rw [h]; simp
       obtain ⟨W4, hW4, S5, x5, y5, B5, s3, s4, hs3, K5, hsm⟩ := stageA 3 (.slice a' kn c') HX.out HY.out HBV.out L1 hg
       have ho3 : OwnD w3 (w.heap.size + 1 + 1) w1.heap.size ⟨u0, m0, d0, u1, m1, d1, ub, u2, m2, d2⟩ D := HO.out.same (Nat.le_of_lt hs3) fun g _ h2 => hsm g (Nat.lt_trans h2 l3)
       simp at x5 s3
       have HO5 : Hid (OwnD W4 (w.heap.size + 1 + 1) w1.heap.size ⟨u0, m0, d0, u1, m1, d1, ub, u2, m2, d2⟩ D) := ho3.same (Nat.le_of_eq S5.symm) fun g _ h2 => K5 g (Nat.ne_of_lt h2)
       have HK5 : Hid (W4.ownsRow w.heap.size 3 1 (.slice a' kn c') kn (K.map (Value.int .i64))) := own_same ho fun g e => K5 g (by rw [ob_slice] at e; have := hge g e; have := HSV.out; omega)
       have HG5 : Hid (∀ g, ob a' = some g → w1.heap.size < g) := fun g e => by have := hge g e; have := HSV.out; omega
       have HB5 : Hid (Below w.heap.size w W4) := B5
       have HY5 : Hid (Box W4 (w.heap.size + 1) 27 _) := y5
       clear v0 v1 v2 v3 v5 v6
       obtain ⟨v0, v1, v2, v3⟩ := box4 x5
       obtain ⟨y0, yy1, y2, yy3⟩ := box4 y5
       have z0 := y5.thaw 0
       have z1 := y5.thaw 1
       have z2 := y5.thaw 2
       have z3 := y5.thaw 3
       clear ho hg hk hge hs3 hsm ho3 x5 y5 K5 S5 B5))
  refine ret_box1 Try.results72 rfl rfl (put4_box HY5.out _ _ _ _) ⟨⟨⟨u0, m0, d0, u1, m1, d1, true, a', kn, c'⟩, rfl, ?_⟩, put4_below HB5.out (by omega) _ _ _ _⟩
  exact arm_own HO5.out HK5.out HG5.out (by omega) (by simp) (fun g hg => put4_same _ _ _ _ _ _ _ hg) (by omega) (by omega)

set_option maxHeartbeats 4000000 in
theorem c_specArm2 (D : DD) (K : List Int) (kn : Nat) (hf : Fit D) (_hkn : kn ≤ 1048576) (w : World) (h : HD) (ka : Option Addr) (kc : Nat) (r : RdD w h D) (hk : HOK h) (rk : RdV w ka kn (K.map (Value.int .i64))) (hs : ka = none → kc = 0) :
    Calls Try.prog 41 #[.agg #[.slice h.a0 h.n0 h.c0, .slice h.a1 h.n1 h.c1, .bool h.b, .slice h.a2 h.n2 h.c2], .slice ka kn kc] w fun e w' => (∃ h' : HD, e = .returned (.tuple #[.agg #[.slice h'.a0 h'.n0 h'.c0, .slice h'.a1 h'.n1 h'.c1, .bool h'.b, .slice h'.a2 h'.n2 h'.c2], .int .i64 (armC D K)]) ∧ OwnD w' w.heap.size w'.heap.size h' (armR D K)) ∧ Below w.heap.size w w' := by
  have lk : K.length = kn := by simpa using rk.1
  have F : Hid (Fit D) := hf
  have R : Hid (RdD w h D) := r
  have HK : Hid (HOK h) := hk
  have HS : Hid (ka = none → kc = 0) := hs
  have RK : Hid (RdV w ka kn (K.map (Value.int .i64))) := rk
  have HB : Hid (Below w.heap.size w ((w.alloc (.cells #[.slice h.a0 h.n0 h.c0, .slice h.a1 h.n1 h.c1, .bool h.b, .slice h.a2 h.n2 h.c2] 27)).alloc (.cells #[.slice none 0 0, .slice none 0 0, .bool false, .slice none 0 0] 27))) := ((Below.refl _ _).alloc (Nat.le_refl _) _).alloc (by simp) _
  have BX : Hid (Box ((w.alloc (.cells #[.slice h.a0 h.n0 h.c0, .slice h.a1 h.n1 h.c1, .bool h.b, .slice h.a2 h.n2 h.c2] 27)).alloc (.cells #[.slice none 0 0, .slice none 0 0, .bool false, .slice none 0 0] 27)) w.heap.size 27 #[.slice h.a0 h.n0 h.c0, .slice h.a1 h.n1 h.c1, .bool h.b, .slice h.a2 h.n2 h.c2]) := (Box.new _ _ _).alloc _
  have BR : Hid (Box ((w.alloc (.cells #[.slice h.a0 h.n0 h.c0, .slice h.a1 h.n1 h.c1, .bool h.b, .slice h.a2 h.n2 h.c2] 27)).alloc (.cells #[.slice none 0 0, .slice none 0 0, .bool false, .slice none 0 0] 27)) (w.heap.size + 1) 27 #[.slice none 0 0, .slice none 0 0, .bool false, .slice none 0 0]) := Box.new2 _ _ _ _
  clear r hk rk hf hs
  by_cases hlong : 4096 < kn
  · have E1 : Hid (armR D K = eD) := by unfold Hid armR; rw [if_pos (by omega)]
    have E2 : Hid (armC D K = 2) := by unfold Hid armC; rw [if_pos (by omega)]
    go_enter Try.func41, Try.ntmps41
    go_wp2
    refine ret_box2 (v := .int .i64 2) Try.results41 rfl rfl rfl BR.out ⟨⟨⟨none, 0, 0, none, 0, 0, false, none, 0, 0⟩, by rw [E2.out], by rw [E1.out]; exact own_eD _ _⟩, HB.out⟩
  · go_enter Try.func41, Try.ntmps41
    go_wp2_with fail
    refine (c_specOK h D _ (R.out.below HB.out) F.out).mono ?_
    rintro e w1 ⟨rfl, hb⟩
    have B1 : Hid (Below w.heap.size w w1) := HB.out.trans (hb.mono HB.out.size)
    have x1 := BX.out.belowS hb
    have y1 := BR.out.belowS hb
    have l1 := y1.lt
    obtain ⟨v0, v1, v2, v3⟩ := box4 x1
    obtain ⟨y0, yy1, y2, y3⟩ := box4 y1
    have z0 := y1.thaw 0
    have z1 := y1.thaw 1
    have z2 := y1.thaw 2
    have z3 := y1.thaw 3
    have BX1 : Hid (Box w1 w.heap.size 27 #[.slice h.a0 h.n0 h.c0, .slice h.a1 h.n1 h.c1, .bool h.b, .slice h.a2 h.n2 h.c2]) := x1
    have BR1 : Hid (Box w1 (w.heap.size + 1) 27 #[.slice none 0 0, .slice none 0 0, .bool false, .slice none 0 0]) := y1
    have s1 : w.heap.size ≤ w1.heap.size := B1.out.size
    clear x1 y1 hb HB BX BR
    cases hok : okD D
    · have E1 : Hid (armR D K = eD) := by unfold Hid armR; rw [if_neg (by omega), if_neg (by rw [hok]; decide)]
      have E2 : Hid (armC D K = 1) := by unfold Hid armC; rw [if_neg (by omega), if_neg (by rw [hok]; decide)]
      clear hok
      go_wp2
      refine ret_box2 (v := .int .i64 1) Try.results41 rfl rfl rfl (put4_box BR1.out _ _ _ _) ⟨⟨⟨none, 0, 0, none, 0, 0, false, none, 0, 0⟩, by rw [E2.out], by rw [E1.out]; exact own_eD _ _⟩, put4_below B1.out (by omega) _ _ _ _⟩
    · by_cases hmany : 500 < kn
      · have E1 : Hid (armR D K = eD) := by unfold Hid armR; rw [if_neg (by omega), if_pos hok, if_pos (by omega)]
        have E2 : Hid (armC D K = 6) := by unfold Hid armC; rw [if_neg (by omega), if_pos hok, if_pos (by omega)]
        clear hok
        go_wp2
        refine ret_box2 (v := .int .i64 6) Try.results41 rfl rfl rfl (put4_box BR1.out _ _ _ _) ⟨⟨⟨none, 0, 0, none, 0, 0, false, none, 0, 0⟩, by rw [E2.out], by rw [E1.out]; exact own_eD _ _⟩, put4_below B1.out (by omega) _ _ _ _⟩
      · have E1 : Hid (armR D K = armD D K) := by unfold Hid armR; rw [if_neg (by omega), if_pos hok, if_neg (by omega)]
        have E2 : Hid (armC D K = 0) := by unfold Hid armC; rw [if_neg (by omega), if_pos hok, if_neg (by omega)]
        clear hok
        go_wp2_with fail
        refine (c_l02Arm h D K ka kn kc w1 F.out (by omega) (R.out.below B1.out) HK.out (RK.out.below B1.out) HS.out).mono ?_
        rintro e w2 ⟨⟨h', rfl, o⟩, hb⟩
        have B2 : Hid (Below w.heap.size w w2) := B1.out.trans (hb.mono B1.out.size)
        have y1 := BR1.out.belowS hb
        have O : Hid (OwnD w2 w1.heap.size w2.heap.size h' (armD D K)) := o
        clear y0 yy1 y2 y3 z0 z1 z2 z3 v0 v1 v2 v3 hb o
        obtain ⟨y0, yy1, y2, y3⟩ := box4 y1
        have z0 := y1.thaw 0
        have z1 := y1.thaw 1
        have z2 := y1.thaw 2
        have z3 := y1.thaw 3
        have BR2 : Hid (Box w2 (w.heap.size + 1) 27 #[.slice none 0 0, .slice none 0 0, .bool false, .slice none 0 0]) := y1
        clear y1
        go_wp2
        refine ret_box2 (v := .int .i64 0) Try.results41 rfl rfl rfl (put4_box BR2.out _ _ _ _) ⟨⟨h', by rw [E2.out], by rw [E1.out]; exact O.out.put s1 (by simp) l1 (fun g hg => put4_same _ _ _ _ _ _ _ hg)⟩, put4_below B2.out (by omega) _ _ _ _⟩

set_option maxHeartbeats 4000000 in
theorem c_implArm2 (D : DD) (K : List Int) (kn : Nat) (hf : Fit D) (_hkn : kn ≤ 1048576) (w : World) (h : HD) (ka : Option Addr) (kc : Nat) (r : RdD w h D) (hk : HOK h) (rk : RdV w ka kn (K.map (Value.int .i64))) (hs : ka = none → kc = 0) :
    Calls Try.prog 25 #[.agg #[.slice h.a0 h.n0 h.c0, .slice h.a1 h.n1 h.c1, .bool h.b, .slice h.a2 h.n2 h.c2], .slice ka kn kc] w fun e w' => (∃ h' : HD, e = .returned (.tuple #[.agg #[.slice h'.a0 h'.n0 h'.c0, .slice h'.a1 h'.n1 h'.c1, .bool h'.b, .slice h'.a2 h'.n2 h'.c2], .int .i64 (armC D K)]) ∧ OwnD w' w.heap.size w'.heap.size h' (armR D K)) ∧ Below w.heap.size w w' := by
  have lk : K.length = kn := by simpa using rk.1
  have F : Hid (Fit D) := hf
  have R : Hid (RdD w h D) := r
  have HK : Hid (HOK h) := hk
  have HS : Hid (ka = none → kc = 0) := hs
  have RK : Hid (RdV w ka kn (K.map (Value.int .i64))) := rk
  have HB : Hid (Below w.heap.size w ((w.alloc (.cells #[.slice h.a0 h.n0 h.c0, .slice h.a1 h.n1 h.c1, .bool h.b, .slice h.a2 h.n2 h.c2] 27)).alloc (.cells #[.slice none 0 0, .slice none 0 0, .bool false, .slice none 0 0] 27))) := ((Below.refl _ _).alloc (Nat.le_refl _) _).alloc (by simp) _
  have BX : Hid (Box ((w.alloc (.cells #[.slice h.a0 h.n0 h.c0, .slice h.a1 h.n1 h.c1, .bool h.b, .slice h.a2 h.n2 h.c2] 27)).alloc (.cells #[.slice none 0 0, .slice none 0 0, .bool false, .slice none 0 0] 27)) w.heap.size 27 #[.slice h.a0 h.n0 h.c0, .slice h.a1 h.n1 h.c1, .bool h.b, .slice h.a2 h.n2 h.c2]) := (Box.new _ _ _).alloc _
  have BR : Hid (Box ((w.alloc (.cells #[.slice h.a0 h.n0 h.c0, .slice h.a1 h.n1 h.c1, .bool h.b, .slice h.a2 h.n2 h.c2] 27)).alloc (.cells #[.slice none 0 0, .slice none 0 0, .bool false, .slice none 0 0] 27)) (w.heap.size + 1) 27 #[.slice none 0 0, .slice none 0 0, .bool false, .slice none 0 0]) := Box.new2 _ _ _ _
  clear r hk rk hf hs
  by_cases hlong : 4096 < kn
  · have E1 : Hid (armR D K = eD) := by unfold Hid armR; rw [if_pos (by omega)]
    have E2 : Hid (armC D K = 2) := by unfold Hid armC; rw [if_pos (by omega)]
    go_enter Try.func25, Try.ntmps25
    go_wp2
    refine ret_box2 (v := .int .i64 2) Try.results25 rfl rfl rfl BR.out ⟨⟨⟨none, 0, 0, none, 0, 0, false, none, 0, 0⟩, by rw [E2.out], by rw [E1.out]; exact own_eD _ _⟩, HB.out⟩
  · go_enter Try.func25, Try.ntmps25
    go_wp2_with fail
    refine (c_implOK h D _ (R.out.below HB.out) F.out).mono ?_
    rintro e w1 ⟨rfl, hb⟩
    have B1 : Hid (Below w.heap.size w w1) := HB.out.trans (hb.mono HB.out.size)
    have x1 := BX.out.belowS hb
    have y1 := BR.out.belowS hb
    have l1 := y1.lt
    obtain ⟨v0, v1, v2, v3⟩ := box4 x1
    obtain ⟨y0, yy1, y2, y3⟩ := box4 y1
    have z0 := y1.thaw 0
    have z1 := y1.thaw 1
    have z2 := y1.thaw 2
    have z3 := y1.thaw 3
    have BX1 : Hid (Box w1 w.heap.size 27 #[.slice h.a0 h.n0 h.c0, .slice h.a1 h.n1 h.c1, .bool h.b, .slice h.a2 h.n2 h.c2]) := x1
    have BR1 : Hid (Box w1 (w.heap.size + 1) 27 #[.slice none 0 0, .slice none 0 0, .bool false, .slice none 0 0]) := y1
    have s1 : w.heap.size ≤ w1.heap.size := B1.out.size
    clear x1 y1 hb HB BX BR
    cases hok : okD D
    · have E1 : Hid (armR D K = eD) := by unfold Hid armR; rw [if_neg (by omega), if_neg (by rw [hok]; decide)]
      have E2 : Hid (armC D K = 1) := by unfold Hid armC; rw [if_neg (by omega), if_neg (by rw [hok]; decide)]
      clear hok
      go_wp2
      refine ret_box2 (v := .int .i64 1) Try.results25 rfl rfl rfl (put4_box BR1.out _ _ _ _) ⟨⟨⟨none, 0, 0, none, 0, 0, false, none, 0, 0⟩, by rw [E2.out], by rw [E1.out]; exact own_eD _ _⟩, put4_below B1.out (by omega) _ _ _ _⟩
    · by_cases hmany : 500 < kn
      · have E1 : Hid (armR D K = eD) := by unfold Hid armR; rw [if_neg (by omega), if_pos hok, if_pos (by omega)]
        have E2 : Hid (armC D K = 6) := by unfold Hid armC; rw [if_neg (by omega), if_pos hok, if_pos (by omega)]
        clear hok
        go_wp2
        refine ret_box2 (v := .int .i64 6) Try.results25 rfl rfl rfl (put4_box BR1.out _ _ _ _) ⟨⟨⟨none, 0, 0, none, 0, 0, false, none, 0, 0⟩, by rw [E2.out], by rw [E1.out]; exact own_eD _ _⟩, put4_below B1.out (by omega) _ _ _ _⟩
      · have E1 : Hid (armR D K = armD D K) := by unfold Hid armR; rw [if_neg (by omega), if_pos hok, if_neg (by omega)]
        have E2 : Hid (armC D K = 0) := by unfold Hid armC; rw [if_neg (by omega), if_pos hok, if_neg (by omega)]
        clear hok
        have x1t0 := BX1.out.thaw 0
        go_wp2_with fail
        refine (c_copyDisk h D w1 (R.out.below B1.out) HK.out F.out).mono ?_
        rintro e w2 ⟨⟨⟨u0, m0, d0, u1, m1, d1, ub, u2, m2, d2⟩, rfl, o⟩, hb⟩
        have B2 : Below w.heap.size w w2 := B1.out.trans (hb.mono B1.out.size)
        have x2 := BX1.out.belowS hb
        have y2' := BR1.out.belowS hb
        have L2 : w1.heap.size ≤ w2.heap.size := hb.size
        clear y0 yy1 y2 y3 z0 z1 z2 z3 v0 v1 v2 v3 hb x1t0
        obtain ⟨v0, v1, v2, v3⟩ := box4 x2
        have z0 := x2.thaw 0
        have z1 := x2.thaw 1
        have z2 := x2.thaw 2
        have z3 := x2.thaw 3
        obtain ⟨V, hV⟩ : ∃ V, (((w2.setCell ⟨w.heap.size, 0, none⟩ (.slice u0 m0 d0)).setCell ⟨w.heap.size, 1, none⟩ (.slice u1 m1 d1)).setCell ⟨w.heap.size, 2, none⟩ (.bool ub)).setCell ⟨w.heap.size, 3, none⟩ (.slice u2 m2 d2) = V := ⟨_, rfl⟩
        have xV := put4_box x2 (.slice u0 m0 d0) (.slice u1 m1 d1) (.bool ub) (.slice u2 m2 d2)
        have KV := fun g (hg : g ≠ w.heap.size) => put4_same w2 w.heap.size g (.slice u0 m0 d0) (.slice u1 m1 d1) (.bool ub) (.slice u2 m2 d2) hg
        have BV := put4_below B2 (Nat.le_refl _) (.slice u0 m0 d0) (.slice u1 m1 d1) (.bool ub) (.slice u2 m2 d2)
        have SV : V.heap.size = w2.heap.size := by rw [← hV]; simp
        rw [hV] at xV BV
        simp only [hV] at KV
        have yV : Box V (w.heap.size + 1) 27 _ := (KV _ (by omega)).trans y2'
        have HO : Hid (OwnD V w1.heap.size w2.heap.size ⟨u0, m0, d0, u1, m1, d1, ub, u2, m2, d2⟩ D) := o.same (by omega) fun g h1 h2 => KV g (by omega)
        have HX : Hid (Box V w.heap.size 27 _) := xV
        have HY : Hid (Box V (w.heap.size + 1) 27 _) := yV
        have HBV : Hid (Below w.heap.size w V) := BV
        have HSV : Hid (V.heap.size = w2.heap.size) := SV
        clear x2 y2' xV yV KV BV SV o B2
        go_wp2_with fail
        refine (c_cpI ka kn kc K V (RK.out.below HBV.out) HS.out (by omega)).mono ?_
        rintro e w3 ⟨⟨a', c', rfl, o3, g3⟩, hb⟩
        have B3 : Below w.heap.size w w3 := HBV.out.trans (hb.mono HBV.out.size)
        have x3 := HX.out.belowS hb
        have yy := HY.out.belowS hb
        have HO3 := HO.out.below hb
        have L3 : V.heap.size ≤ w3.heap.size := hb.size
        clear v0 v1 v2 v3 z0 z1 z2 z3 hb HX HY HO
        obtain ⟨v0, v1, v2, v3⟩ := box4 x3
        have z2 := x3.thaw 2
        have z3 := x3.thaw 3
        obtain ⟨W4, hW4⟩ : ∃ W, (w3.setCell ⟨w.heap.size, 2, none⟩ (.bool true)).setCell ⟨w.heap.size, 3, none⟩ (.slice a' kn c') = W := ⟨_, rfl⟩
        have x4 := (x3.set 2 (.bool true)).set 3 (.slice a' kn c')
        have y4 := (yy.setOther ⟨w.heap.size, 2, none⟩ (.bool true) (show w.heap.size + 1 ≠ w.heap.size by omega)).setOther ⟨w.heap.size, 3, none⟩ (.slice a' kn c') (show w.heap.size + 1 ≠ w.heap.size by omega)
        have K4 : ∀ g, g ≠ w.heap.size → W4.heap[g]? = w3.heap[g]? := fun g hg => by rw [← hW4, Below.heap_setCell _ _ _ _ hg, Below.heap_setCell _ _ _ _ hg]
        have S4 : W4.heap.size = w3.heap.size := by rw [← hW4]; simp
        have B4 : Below w.heap.size w W4 := by rw [← hW4]; exact (B3.setCell (Nat.le_refl _) _).setCell (Nat.le_refl _) _
        rw [hW4] at x4 y4
        simp at x4
        have HO4 : Hid (OwnD W4 w1.heap.size w2.heap.size ⟨u0, m0, d0, u1, m1, d1, ub, u2, m2, d2⟩ D) := HO3.same (by omega) fun g h1 h2 => K4 g (by omega)
        have HK4 : Hid (W4.ownsRow w.heap.size 3 1 (.slice a' kn c') kn (K.map (Value.int .i64))) := own_same (o3.down HBV.out.size) fun g e => K4 g (by rw [ob_slice] at e; have := g3 g e; have := HSV.out; omega)
        have HG4 : Hid (∀ g, ob a' = some g → w2.heap.size ≤ g) := fun g e => by have := g3 g e; have := HSV.out; omega
        have HB4 : Hid (Below w.heap.size w W4) := B4
        have HY4 : Hid (Box W4 (w.heap.size + 1) 27 _) := y4
        obtain ⟨t0, t1, t2, t3⟩ := box4 x4
        obtain ⟨y0, yy1, y2, y3⟩ := box4 y4
        have r0 := y4.thaw 0
        have r1 := y4.thaw 1
        have r2 := y4.thaw 2
        have r3 := y4.thaw 3
        clear x3 yy HO3 o3 g3 x4 y4 K4 B3 S4 B4
        go_wp2
        refine ret_box2 (v := .int .i64 0) Try.results25 rfl rfl rfl (put4_box HY4.out _ _ _ _) ⟨⟨⟨u0, m0, d0, u1, m1, d1, true, a', kn, c'⟩, by rw [E2.out], ?_⟩, put4_below HB4.out (by omega) _ _ _ _⟩
        rw [E1.out]
        exact arm_own' HO4.out HK4.out HG4.out s1 (by simp) (fun g hg => put4_same _ _ _ _ _ _ _ hg) l1 L2
end Go.Proofs.Ytefbaemcdfmhpaa
