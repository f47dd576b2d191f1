/-
  Who holds a thing, and what it has by that: the program's walks.
-/
import Derived.Test.YtmjacoocnkcilaaDoorLp
import Derived.Test.YtmjacoocnkcilaaDoorLo
import Derived.Deep.QuietTactic
namespace Go.Proofs.YtmjacoocnkcilaaDoor
open Go Go.RowKit
attribute [local go_sem ↓] Go.wp_at_zero Go.wp_at_succ

def stH (b r : Int) (h : HM) (v : LK) : HM := if v.b = b ∧ v.r = r then addH h v.m v.x else h
def hOf (vs : List LK) (b r : Int) (k : Nat) : HM := (vs.take k).foldl (stH b r) zeroH
theorem hOf_step (vs : List LK) (b r : Int) (k : Nat) (hk : k < vs.length) : hOf vs b r (k + 1) = stH b r (hOf vs b r k) (vs.getD k dK) := by
  unfold hOf
  rw [List.take_add_one, List.foldl_append, List.getElem?_eq_getElem hk, List.getD_eq_getElem?_getD, List.getElem?_eq_getElem hk]
  rfl
def put5 (V : World) (g : Nat) (h : HM) : World := ((((V.setCell ⟨g, 0, none⟩ (.int .u64 ((h 0).toNat : Int))).setCell ⟨g, 1, none⟩ (.int .u64 ((h 1).toNat : Int))).setCell ⟨g, 2, none⟩ (.int .u64 ((h 2).toNat : Int))).setCell ⟨g, 3, none⟩ (.int .u64 ((h 3).toNat : Int))).setCell ⟨g, 4, none⟩ (.int .u64 ((h 4).toNat : Int))
theorem put5_box {V : World} {g : Nat} {t : TypeId} {h0 : HM} (hb : Box V g t (cH h0)) (h : HM) : Box (put5 V g h) g t (cH h) := by
  have := ((((hb.set 0 (.int .u64 ((h 0).toNat : Int))).set 1 (.int .u64 ((h 1).toNat : Int))).set 2 (.int .u64 ((h 2).toNat : Int))).set 3 (.int .u64 ((h 3).toNat : Int))).set 4 (.int .u64 ((h 4).toNat : Int))
  simpa [put5, cH] using this
theorem put5_below {B : Nat} {w V : World} (hb : Below B w V) {g : Nat} (hr : B ≤ g) (h : HM) : Below B w (put5 V g h) :=
  ((((hb.setCell hr _).setCell hr _).setCell hr _).setCell hr _).setCell hr _
theorem loadVarH {w : World} {g : Nat} {h : HM} (hb : Box w g 76 (cH h)) : (loadVar 76 ⟨g, 0, none⟩).run Tryd.prog w = .ok (.agg (cH h)) w := by
  have h0 := hb.cell 0
  have h1 := hb.cell 1
  have h2 := hb.cell 2
  have h3 := hb.cell 3
  have h4 := hb.cell 4
  unfold cH at h0 h1 h2 h3 h4
  simp only [List.getElem?_toArray, List.getElem?_cons_zero, List.getElem?_cons_succ] at h0 h1 h2 h3 h4
  unfold cH
  simp [go_sem, h0, h1, h2, h3, h4]
theorem retH {fn : Func} {p : Tmp} (h : fn.results = #[.cell p 76]) {R : Ending → World → Prop} {a : Act} {w : World} {g : Nat} {hh : HM} (hp : a.tmps.getD p undef = .pointer (some ⟨g, 0, none⟩)) (hd : a.defers = []) (hb : Box w g 76 (cH hh)) (hR : R (.returned (.agg (cH hh))) w) : bodyPost Tryd.prog fn R .ret a w := by
  refine bodyPost_ret ?_ hd hR
  have hp' : a.tmps[p]?.getD undef = .pointer (some ⟨g, 0, none⟩) := by simpa using hp
  simp only [results, h]
  simp [hp', asAddr, loadVarH hb]
set_option maxRecDepth 100000 in
set_option maxHeartbeats 8000000 in
theorem c_same (ax ab ar am bx bb br bm : Int) (w : World) :
    Calls Tryd.prog 84 #[.agg #[.int .i64 ax, .int .i64 ab, .int .i64 ar, .int .i64 am], .agg #[.int .i64 bx, .int .i64 bb, .int .i64 br, .int .i64 bm]] w fun e w' => e = .returned (.bool (decide (ab = bb ∧ ar = br))) ∧ Below w.heap.size w w' := by
  by_cases h1 : ab = bb
  · subst h1
    by_cases h2 : ar = br
    · subst h2
      go_enter Tryd.func84, Tryd.ntmps84
      go_wp2
      go_ret
      exact ⟨ret_bool (by simp), ((Below.refl _ _).alloc (Nat.le_refl _) _).alloc (by simp) _⟩
    · have c2 : (ar == br) = false := by simpa using h2
      go_enter Tryd.func84, Tryd.ntmps84
      go_wp2
      go_ret
      exact ⟨ret_bool (decide_eq_false (fun h => h2 h.2)).symm, ((Below.refl _ _).alloc (Nat.le_refl _) _).alloc (by simp) _⟩
  · have c1 : (ab == bb) = false := by simpa using h1
    go_enter Tryd.func84, Tryd.ntmps84
    go_wp2
    go_ret
    exact ⟨ret_bool (decide_eq_false (fun h => h1 h.1)).symm, ((Below.refl _ _).alloc (Nat.le_refl _) _).alloc (by simp) _⟩
set_option maxRecDepth 100000 in
set_option maxHeartbeats 8000000 in
theorem c_holdersOf (a : Option Addr) (n cap : Nat) (vs : List LK) (x b r m : Int) (w : World) (hr : RdK w a n vs) (hn : n ≤ 1048576) (hall : vs.all okK = true) :
    Calls Tryd.prog 54 #[.slice a n cap, .agg #[.int .i64 x, .int .i64 b, .int .i64 r, .int .i64 m]] w fun e w' => e = .returned (.agg (cH (hOf vs b r n))) ∧ Below w.heap.size w w' := by
  obtain ⟨hl, hcs⟩ := hr
  have HALL : Hid (∀ k, k < n → okK (vs.getD k dK) = true) := fun k hk => List.all_eq_true.1 hall _ (getD_memK (by omega))
  clear hall
  obtain ⟨V0, hV0⟩ : ∃ V, w.alloc (.cells #[.int .i64 x, .int .i64 b, .int .i64 r, .int .i64 m] 55) = V := ⟨_, rfl⟩
  obtain ⟨V1, hV1⟩ : ∃ V, V0.alloc (.cells (cH zeroH) 76) = V := ⟨_, rfl⟩
  obtain ⟨V, hV⟩ : ∃ V, V1.alloc (.cells (cH zeroH) 76) = V := ⟨_, rfl⟩
  have hb0 : Below w.heap.size w V0 := by rw [← hV0]; exact (Below.refl _ _).alloc (Nat.le_refl _) _
  have hb1 : Below V0.heap.size V0 V1 := by rw [← hV1]; exact (Below.refl _ _).alloc (Nat.le_refl _) _
  have hb2 : Below V1.heap.size V1 V := by rw [← hV]; exact (Below.refl _ _).alloc (Nat.le_refl _) _
  have X : Hid (Box V w.heap.size 55 #[.int .i64 x, .int .i64 b, .int .i64 r, .int .i64 m]) := ((show Box V0 w.heap.size 55 #[.int .i64 x, .int .i64 b, .int .i64 r, .int .i64 m] by rw [← hV0]; exact Box.new _ _ _).belowS hb1).belowS hb2
  have Y : Hid (Box V V0.heap.size 76 (cH zeroH)) := (show Box V1 V0.heap.size 76 (cH zeroH) by rw [← hV1]; exact Box.new _ _ _).belowS hb2
  have O : Hid (Box V V1.heap.size 76 (cH zeroH)) := by unfold Hid; rw [← hV]; exact Box.new _ _ _
  have lx : w.heap.size < V0.heap.size := by rw [← hV0]; simp
  have ly : V0.heap.size < V1.heap.size := by rw [← hV1]; simp
  have B : Hid (Below w.heap.size w V) := (hb0.trans (hb1.mono hb0.size)).trans (hb2.mono (Nat.le_trans hb0.size hb1.size))
  have zc : cH zeroH = #[.int .u64 0, .int .u64 0, .int .u64 0, .int .u64 0, .int .u64 0] := rfl
  rw [zc] at hV1 hV
  clear hb0 hb1 hb2 zc
  go_enter Tryd.func54, Tryd.ntmps54
  go_wp2
  go_loopw [10] (fun s wr => ∃ k : Nat, k ≤ n ∧ s = .int .i64 (k : Int) ∧ Hid (Box wr V1.heap.size 76 (cH (hOf vs b r k))) ∧ Hid (Box wr V0.heap.size 76 (cH zeroH)) ∧ Hid (Box wr w.heap.size 55 #[.int .i64 x, .int .i64 b, .int .i64 r, .int .i64 m]) ∧ Hid (Below w.heap.size w wr)) (fun s _ => n - (intOf s).toNat)
  case atStart => exact ⟨0, by omega, rfl, O, Y, X, B⟩
  case round =>
    obtain ⟨k, hk, rfl, HO, HY, HX, HB⟩ := hrel
    by_cases hlt : k < n
    · obtain ⟨ba, off, ha, hbl, hc⟩ := hcs (by omega)
      subst ha
      have hok := HALL.out k hlt
      have hst := hOf_step vs b r k (by omega)
      obtain ⟨⟨vx, vb, vr, vm⟩, hv⟩ : ∃ v, v = vs.getD k dK := ⟨_, rfl⟩
      obtain ⟨d0, d1, d2, d3⟩ := hc k hlt
      rw [← hv] at d0 d1 d2 d3 hok hst
      have e0 : wr.cell? ⟨ba, off + k * 4, none⟩ = some (.int .i64 vx) := by rw [HB.out.cell (p := ⟨ba, off + k * 4, none⟩) hbl, d0]
      have e1 : wr.cell? ⟨ba, off + k * 4 + 1, none⟩ = some (.int .i64 vb) := by rw [HB.out.cell (p := ⟨ba, off + k * 4 + 1, none⟩) hbl, d1]
      have e2 : wr.cell? ⟨ba, off + k * 4 + 2, none⟩ = some (.int .i64 vr) := by rw [HB.out.cell (p := ⟨ba, off + k * 4 + 2, none⟩) hbl, d2]
      have e3 : wr.cell? ⟨ba, off + k * 4 + 3, none⟩ = some (.int .i64 vm) := by rw [HB.out.cell (p := ⟨ba, off + k * 4 + 3, none⟩) hbl, d3]
      obtain ⟨bx, _, br, bm⟩ := okK_bounds hok
      have HST : Hid (hOf vs b r (k + 1) = stH b r (hOf vs b r k) ⟨vx, vb, vr, vm⟩) := hst
      clear hc hcs d0 d1 d2 d3 hv hst hok
      obtain ⟨w2, hw2⟩ : ∃ W, wr.alloc (.cells #[.int .i64 vx, .int .i64 vb, .int .i64 vr, .int .i64 vm] 55) = W := ⟨_, rfl⟩
      have hb2 : Below wr.heap.size wr w2 := by rw [← hw2]; exact (Below.refl _ _).alloc (Nat.le_refl _) _
      have K2 : Hid (Box w2 wr.heap.size 55 #[.int .i64 vx, .int .i64 vb, .int .i64 vr, .int .i64 vm]) := by unfold Hid; rw [← hw2]; exact Box.new _ _ _
      have O2 : Hid (Box w2 V1.heap.size 76 (cH (hOf vs b r k))) := HO.out.belowS hb2
      have Y2 : Hid (Box w2 V0.heap.size 76 (cH zeroH)) := HY.out.belowS hb2
      have X2 : Hid (Box w2 w.heap.size 55 #[.int .i64 x, .int .i64 b, .int .i64 r, .int .i64 m]) := HX.out.belowS hb2
      have B2 : Hid (Below w.heap.size w w2) := HB.out.trans (hb2.mono HB.out.size)
      have lo := HO.out.lt
      have q0 := K2.out.cell 0
      have q1 := K2.out.cell 1
      have q2 := K2.out.cell 2
      have q3 := K2.out.cell 3
      simp only [List.getElem?_toArray, List.getElem?_cons_zero, List.getElem?_cons_succ] at q0 q1 q2 q3
      have p0 := X2.out.cell 0
      have p1 := X2.out.cell 1
      have p2 := X2.out.cell 2
      have p3 := X2.out.cell 3
      simp only [List.getElem?_toArray, List.getElem?_cons_zero, List.getElem?_cons_succ] at p0 p1 p2 p3
      clear hb2 HO HY HX HB
      go_wp2_with fail
      refine (c_same vx vb vr vm x b r m w2).mono ?_
      rintro e w3 ⟨rfl, hb3⟩
      have K3 := K2.out.belowS hb3
      have O3 : Hid (Box w3 V1.heap.size 76 (cH (hOf vs b r k))) := O2.out.belowS hb3
      have Y3 : Hid (Box w3 V0.heap.size 76 (cH zeroH)) := Y2.out.belowS hb3
      have X3 : Hid (Box w3 w.heap.size 55 #[.int .i64 x, .int .i64 b, .int .i64 r, .int .i64 m]) := X2.out.belowS hb3
      have B3 : Hid (Below w.heap.size w w3) := B2.out.trans (hb3.mono B2.out.size)
      clear q0 q1 q2 q3 p0 p1 p2 p3 hb3 K2 O2 Y2 X2 B2
      by_cases hs : vb = b ∧ vr = r
      · rw [decide_eq_true hs]
        have HS : Hid (hOf vs b r (k + 1) = addH (hOf vs b r k) vm vx) := by unfold Hid; rw [HST.out]; unfold stH; rw [if_pos hs]
        have q0 := K3.cell 0
        have q1 := K3.cell 1
        have q2 := K3.cell 2
        have q3 := K3.cell 3
        simp only [List.getElem?_toArray, List.getElem?_cons_zero, List.getElem?_cons_succ] at q0 q1 q2 q3
        clear K3 hs HST
        go_wp2_with fail
        refine (c_add V1.heap.size (hOf vs b r k) vx vb vr vm w3 O3.out bm bx).mono ?_
        rintro e w4 ⟨⟨v4, rfl⟩, hb4, hi4⟩
        have O4 : Hid (Box w4 V1.heap.size 76 (cH (hOf vs b r (k + 1)))) := by unfold Hid; rw [HS.out]; exact hb4
        have Y4 : Hid (Box w4 V0.heap.size 76 (cH zeroH)) := Y3.out.innO hi4 (.inl ly)
        have X4 : Hid (Box w4 w.heap.size 55 #[.int .i64 x, .int .i64 b, .int .i64 r, .int .i64 m]) := X3.out.innO hi4 (.inl (by omega))
        have B4 : Hid (Below w.heap.size w w4) := B3.out.trans (hi4.below (by omega) B3.out.size)
        clear hb4 hi4 q0 q1 q2 q3 O3 Y3 X3 B3
        go_wp2
        go_roundw
        case rel => exact ⟨k + 1, by omega, by go_num, O4, Y4, X4, B4⟩
        case measure => simp [intOf]; omega
      · rw [decide_eq_false hs]
        have HS : Hid (hOf vs b r (k + 1) = hOf vs b r k) := by unfold Hid; rw [HST.out]; unfold stH; rw [if_neg hs]
        have O4 : Hid (Box w3 V1.heap.size 76 (cH (hOf vs b r (k + 1)))) := by unfold Hid; rw [HS.out]; exact O3.out
        clear K3 hs HST
        go_wp2
        go_roundw
        case rel => exact ⟨k + 1, by omega, by go_num, O4, Y3, X3, B3⟩
        case measure => simp [intOf]; omega
    · have e : k = n := by omega
      rw [e] at HO
      have cge : ¬ (k : Int) < (n : Int) := by omega
      clear e
      have h0 := HO.out.cell 0
      have h1 := HO.out.cell 1
      have h2 := HO.out.cell 2
      have h3 := HO.out.cell 3
      have h4 := HO.out.cell 4
      unfold cH at h0 h1 h2 h3 h4
      simp only [List.getElem?_toArray, List.getElem?_cons_zero, List.getElem?_cons_succ] at h0 h1 h2 h3 h4
      have y0 := HY.out.cell 0
      have y1 := HY.out.cell 1
      have y2 := HY.out.cell 2
      have y3 := HY.out.cell 3
      have y4 := HY.out.cell 4
      unfold cH at y0 y1 y2 y3 y4
      simp only [List.getElem?_toArray, List.getElem?_cons_zero, List.getElem?_cons_succ] at y0 y1 y2 y3 y4
      have t0 := HY.out.thaw 0
      have t1 := HY.out.thaw 1
      have t2 := HY.out.thaw 2
      have t3 := HY.out.thaw 3
      have t4 := HY.out.thaw 4
      go_wp2
      exact retH Tryd.results54 rfl rfl (put5_box HY.out (hOf vs b r n)) ⟨rfl, put5_below HB.out (by omega) (hOf vs b r n)⟩
def haveS (h : HM) (m : Int) : B64 := if m = 1 then orT (orT (h m) (h 4)) (orT (h 2) (h 3)) else orT (h m) (h 4)
set_option maxRecDepth 100000 in
set_option maxHeartbeats 8000000 in
theorem c_have (h : HM) (x b r m : Int) (w : World) (hm : 1 ≤ m ∧ m ≤ 4) (hx : 1 ≤ x ∧ x ≤ 60) :
    Calls Tryd.prog 55 #[.agg (cH h), .agg #[.int .i64 x, .int .i64 b, .int .i64 r, .int .i64 m]] w fun e w' => e = .returned (.bool (inT (haveS h m) x)) ∧ Below w.heap.size w w' := by
  obtain ⟨j, hj⟩ : ∃ j : Nat, m = (j : Int) := ⟨m.toNat, by omega⟩
  subst hj
  obtain ⟨V0, hV0⟩ : ∃ V, w.alloc (.cells (cH h) 76) = V := ⟨_, rfl⟩
  obtain ⟨V, hV⟩ : ∃ V, V0.alloc (.cells #[.int .i64 x, .int .i64 b, .int .i64 r, .int .i64 (j : Int)] 55) = V := ⟨_, rfl⟩
  have hb0 : Below w.heap.size w V0 := by rw [← hV0]; exact (Below.refl _ _).alloc (Nat.le_refl _) _
  have hb1 : Below V0.heap.size V0 V := by rw [← hV]; exact (Below.refl _ _).alloc (Nat.le_refl _) _
  have BH : Hid (Box V w.heap.size 76 (cH h)) := (show Box V0 w.heap.size 76 (cH h) by rw [← hV0]; exact Box.new _ _ _).belowS hb1
  have BK : Hid (Box V V0.heap.size 55 #[.int .i64 x, .int .i64 b, .int .i64 r, .int .i64 (j : Int)]) := by unfold Hid; rw [← hV]; exact Box.new _ _ _
  have HB : Hid (Below w.heap.size w V) := hb0.trans (hb1.mono hb0.size)
  have cm := BH.out.cell j
  have hg := cH_get h (m := (j : Int)) hm
  rw [Int.toNat_natCast] at hg
  rw [hg] at cm
  have h0 := BH.out.cell 0
  have h1 := BH.out.cell 1
  have h2 := BH.out.cell 2
  have h3 := BH.out.cell 3
  have h4 := BH.out.cell 4
  unfold cH at h0 h1 h2 h3 h4
  simp only [List.getElem?_toArray, List.getElem?_cons_zero, List.getElem?_cons_succ] at h0 h1 h2 h3 h4
  have q0 := BK.out.cell 0
  have q1 := BK.out.cell 1
  have q2 := BK.out.cell 2
  have q3 := BK.out.cell 3
  simp only [List.getElem?_toArray, List.getElem?_cons_zero, List.getElem?_cons_succ] at q0 q1 q2 q3
  unfold cH at hV0
  have cj : (j : Int) < 5 := by omega
  have o1 := bits_or (h (j : Int)) (h 4)
  have o2 := bits_or (h 2) (h 3)
  have o3 := bits_or (orT (h (j : Int)) (h 4)) (orT (h 2) (h 3))
  have CH : Hid (∀ (W : World) (s : B64), Calls Tryd.prog 76 #[.int .u64 (s.toNat : Int), .int .i64 x] W fun e w' => e = .returned (.bool (inT s x)) ∧ w' = W) := fun W s => c_has s x W (by omega) (by omega)
  clear hb0 hb1 hg
  unfold cH
  by_cases h1 : (j : Int) = 1
  · have E : Hid (haveS h j = orT (orT (h (j : Int)) (h 4)) (orT (h 2) (h 3))) := by unfold Hid haveS; rw [if_pos h1]
    have c1 : ((j : Int) == 1) = true := by simpa using h1
    clear h1
    go_enter Tryd.func55, Tryd.ntmps55
    go_wp2_with fail
    go_quiet (fail)
    go_wp2_with fail
    refine (CH.out _ _).mono ?_
    rintro e w1 ⟨rfl, hw1⟩
    go_wp2
    go_ret
    exact ⟨ret_bool (by rw [E.out]), below_drewN HB.out _⟩
  · have E : Hid (haveS h j = orT (h (j : Int)) (h 4)) := by unfold Hid haveS; rw [if_neg h1]
    have c1 : ((j : Int) == 1) = false := by simpa using h1
    clear h1
    go_enter Tryd.func55, Tryd.ntmps55
    go_wp2_with fail
    go_quiet (fail)
    go_wp2_with fail
    refine (CH.out _ _).mono ?_
    rintro e w1 ⟨rfl, hw1⟩
    go_wp2
    go_ret
    exact ⟨ret_bool (by rw [E.out]), below_drewN HB.out _⟩

end Go.Proofs.YtmjacoocnkcilaaDoor
