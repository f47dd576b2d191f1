/-
  Rows sorted: the program.
-/
import Derived.Test.YtlapmidiakaimaaIn
import Derived.Test.YtlapmidiakaimaaSg
import Derived.Test.YtlapmidiakaimaaXm
import Derived.Test.YtlapmidiakaimaaSc
import Derived.Deep.RegionHeld3
import Derived.Deep.QuietTactic
import Derived.BigQuiet
import Derived.Laws.EntriesVeiled
namespace Go.Proofs.Ytlapmidiakaimaa
open Go Go.RowKit
attribute [local go_sem ↓] Go.wp_at_zero Go.wp_at_succ

set_option linter.unusedVariables false
set_option linter.unusedSimpArgs false
/-- Where a row is put: behind the last one that does not come behind it. -/
def posR (f : RW → RW → Int) (x : RW) (out : List RW) : Nat → Nat
  | 0 => 0
  | k + 1 => if 0 < f (out.getD k zeroR) x then posR f x out k else k + 1
def insR (f : RW → RW → Int) (out : List RW) (x : RW) : List RW := out.take (posR f x out out.length) ++ x :: out.drop (posR f x out out.length)
def sortR (f : RW → RW → Int) (vs : List RW) : List RW := vs.foldl (insR f) []
theorem posR_le (f : RW → RW → Int) (x : RW) (out : List RW) : ∀ k, posR f x out k ≤ k
  | 0 => Nat.le_refl _
  | k + 1 => by unfold posR; split; · have := posR_le f x out k; omega
                · exact Nat.le_refl _
theorem posR_go {f : RW → RW → Int} {x : RW} {out : List RW} {k : Nat} (h : 0 < f (out.getD k zeroR) x) : posR f x out (k + 1) = posR f x out k := by rw [posR, if_pos h]
theorem posR_stop {f : RW → RW → Int} {x : RW} {out : List RW} {k : Nat} (h : ¬ 0 < f (out.getD k zeroR) x) : posR f x out (k + 1) = k + 1 := by rw [posR, if_neg h]
theorem insR_len (f : RW → RW → Int) (out : List RW) (x : RW) : (insR f out x).length = out.length + 1 := by
  unfold insR
  have := posR_le f x out out.length
  simp; omega
theorem sortR_step (f : RW → RW → Int) (vs : List RW) (k : Nat) (h : k < vs.length) : sortR f (vs.take (k + 1)) = insR f (sortR f (vs.take k)) (vs.getD k zeroR) := by
  unfold sortR
  rw [List.take_add_one, List.getElem?_eq_getElem h, List.foldl_append, List.getD_eq_getElem?_getD, List.getElem?_eq_getElem h]
  rfl
theorem foldl_insR_len (f : RW → RW → Int) : ∀ (vs out : List RW), (vs.foldl (insR f) out).length = out.length + vs.length
  | [], out => by simp
  | x :: vs, out => by rw [List.foldl_cons, foldl_insR_len f vs, insR_len]; simp; omega
theorem sortR_len (f : RW → RW → Int) (vs : List RW) : (sortR f vs).length = vs.length := by unfold sortR; rw [foldl_insR_len]; simp
theorem grown_below {w w' W : World} {B : Nat} {o : Option Nat} (hW : Below B w W) (hg : W.grownBy w' o) (hB : B ≤ W.heap.size) (ho : ∀ g, o = some g → B ≤ g) : Below B w w' := hW.grown hg hB ho
theorem c_insV (base : Nat) (a1 : Option Addr) (n c1 i vb : Nat) (L : List RW) (x : RW) (w : World) (hown : w.ownsRow base 35 7 (.slice a1 n c1) n (cellsR L)) (hv : w.heap[vb]? = some (.cells (cR x).toArray 35 (0, 0))) (hne : ∀ g, (Value.slice a1 n c1).ownBlock = some g → vb ≠ g) (hi : i ≤ n) (hn : n ≤ 4096) (hb : base ≤ w.heap.size) :
    Calls Try.prog 78 #[.slice a1 n c1, .int .i64 i, .slice (some ⟨vb, 0, none⟩) 1 1] w fun e w' => (∃ a' c', e = .returned (.slice a' (n + 1) c') ∧ w'.ownsRow base 35 7 (.slice a' (n + 1) c') (n + 1) (cellsR (L.take i ++ x :: L.drop i))) ∧ w.grownBy w' (Value.slice a1 n c1).ownBlock := by
  have hLl : L.length = n := by have := hown.1; rw [cellsR_len] at this; omega
  rcases own_form hown with ⟨h1, rfl⟩ | ⟨g, cap, h1, hg1, hg2⟩
  · obtain rfl : i = 0 := by omega
    refine (c_insE base _ 0 vb L x w hown hv hn hb).mono ?_
    rintro e w' ⟨⟨a', c', rfl, ho, hq⟩, hgr⟩
    refine ⟨⟨a', c', rfl, ?_⟩, hgr⟩
    rw [List.take_of_length_le (by omega), List.drop_eq_nil_of_le (by omega)] at *
    simpa [List.eq_nil_of_length_eq_zero hLl] using ho
  · simp only [Value.slice.injEq] at h1
    obtain ⟨rfl, _, rfl⟩ := h1
    refine (c_ins base g c1 n i vb L x w hown hv (hne g rfl) hi hn hb).mono ?_
    rintro e w' ⟨⟨a', c', rfl, ho, hq⟩, hgr⟩
    exact ⟨⟨a', c', rfl, ho⟩, hgr⟩
set_option maxRecDepth 100000 in
set_option maxHeartbeats 8000000 in
theorem c_sorted1 (f : RW → RW → Int) (a : Option Addr) (n c : Nat) (vs : List RW) (cg : Nat) (w : World) (hr : RdR w a n vs) (hn : n ≤ 4096)
    (hC : ∀ W x y, Below w.heap.size w W → Calls Try.prog 79 #[.agg (cR x).toArray, .agg (cR y).toArray, .pointer (some ⟨cg, 0, none⟩)] W fun e w' => e = .returned (.int .i64 (f x y)) ∧ Below W.heap.size W w') :
    Calls Try.prog 52 #[.slice a n c, .func (Fn.func 79) #[] #[.pointer (some ⟨cg, 0, none⟩)]] w fun e w' => (∃ a' c', e = .returned (.slice a' n c') ∧ w'.ownsRow w.heap.size 35 7 (.slice a' n c') n (cellsR (sortR f vs))) ∧ Below w.heap.size w w' := by
  have HC : Hid (∀ W x y, Below w.heap.size w W → Calls Try.prog 79 #[.agg (cR x).toArray, .agg (cR y).toArray, .pointer (some ⟨cg, 0, none⟩)] W fun e w' => e = .returned (.int .i64 (f x y)) ∧ Below W.heap.size W w') := hC
  have HRD : Hid (RdR w a n vs) := hr
  have hl : vs.length = n := hr.1
  clear hC hr
  go_enter Try.func52, Try.ntmps52
  go_wp2
  go_loopw [5, 11] (fun o i wr => ∃ (k : Nat) (a' : Option Addr) (c' : Nat), k ≤ n ∧ i = .int .i64 k ∧ o = .slice a' k c' ∧ Hid (wr.ownsRow w.heap.size 35 7 (.slice a' k c') k (cellsR (sortR f (vs.take k)))) ∧ Hid (Below w.heap.size w wr)) (fun _ i _ => n - (intOf i).toNat)
  case atStart => exact ⟨0, none, 0, by omega, rfl, rfl, World.ownsRow_nil w _ _ _, Below.refl _ _⟩
  case round =>
    rename World => wo
    obtain ⟨k, a1, c1, hk, rfl, rfl, OW, B⟩ := hrel
    by_cases hlt : k < n
    · obtain ⟨b, off, rfl, hbl, hc⟩ := HRD.out.2 (by omega)
      obtain ⟨⟨vi, va, vb, vt, vp, vq, vz⟩, hv⟩ : ∃ v, v = vs.getD k zeroR := ⟨_, rfl⟩
      obtain ⟨d0, d1, d2, d3, d4, d5, d6⟩ := RdR.at hc hlt hv
      dsimp only at d0 d1 d2 d3 d4 d5 d6
      have e0 : wo.cell? ⟨b, off + k * 7, none⟩ = some (.int .i64 vi) := by rw [B.out.cell (p := ⟨b, off + k * 7, none⟩) hbl, d0]
      have e1 : wo.cell? ⟨b, off + k * 7 + 1, none⟩ = some (.int .i64 va) := by rw [B.out.cell (p := ⟨b, off + k * 7 + 1, none⟩) hbl, d1]
      have e2 : wo.cell? ⟨b, off + k * 7 + 2, none⟩ = some (.int .i64 vb) := by rw [B.out.cell (p := ⟨b, off + k * 7 + 2, none⟩) hbl, d2]
      have e3 : wo.cell? ⟨b, off + k * 7 + 3, none⟩ = some (.string vt) := by rw [B.out.cell (p := ⟨b, off + k * 7 + 3, none⟩) hbl, d3]
      have e4 : wo.cell? ⟨b, off + k * 7 + 4, none⟩ = some (.int .i64 vp) := by rw [B.out.cell (p := ⟨b, off + k * 7 + 4, none⟩) hbl, d4]
      have e5 : wo.cell? ⟨b, off + k * 7 + 5, none⟩ = some (.int .i64 vq) := by rw [B.out.cell (p := ⟨b, off + k * 7 + 5, none⟩) hbl, d5]
      have e6 : wo.cell? ⟨b, off + k * 7 + 6, none⟩ = some (.string vz) := by rw [B.out.cell (p := ⟨b, off + k * 7 + 6, none⟩) hbl, d6]
      have HV : Hid ((⟨vi, va, vb, vt, vp, vq, vz⟩ : RW) = vs.getD k zeroR) := hv
      obtain ⟨S, hS⟩ : ∃ S, sortR f (vs.take k) = S := ⟨_, rfl⟩
      have hSl : S.length = k := by rw [← hS, sortR_len]; simp; omega
      have HSS : Hid (sortR f (vs.take (k + 1)) = insR f S ⟨vi, va, vb, vt, vp, vq, vz⟩) := by unfold Hid; rw [sortR_step f vs k (by omega), hS, hv]
      rw [hS] at OW
      clear hc hv d0 d1 d2 d3 d4 d5 d6 hS HV
      obtain ⟨V, hV⟩ : ∃ W, wo.alloc (.cells #[.int .i64 vi, .int .i64 va, .int .i64 vb, .string vt, .int .i64 vp, .int .i64 vq, .string vz] 35) = W := ⟨_, rfl⟩
      have bV : Below wo.heap.size wo V := by rw [← hV]; exact (Below.refl _ _).alloc (Nat.le_refl _) _
      have BV : Hid (Below w.heap.size w V) := B.out.trans (bV.mono B.out.size)
      have XV : Hid (Box V wo.heap.size 35 #[.int .i64 vi, .int .i64 va, .int .i64 vb, .string vt, .int .i64 vp, .int .i64 vq, .string vz]) := by unfold Hid; rw [← hV]; exact Box.new _ _ _
      have OV : Hid (V.ownsRow w.heap.size 35 7 (.slice a1 k c1) k (cellsR S)) := own_below OW.out bV
      have ls : w.heap.size ≤ wo.heap.size := B.out.size
      have hob : Hid (∀ g, (Value.slice a1 k c1).ownBlock = some g → g < wo.heap.size ∧ w.heap.size ≤ g) := fun g hg => by
        rcases OW.out.2 with ⟨h1, _⟩ | ⟨g', cp, cu, h1, h2, h3, _⟩
        · rw [h1] at hg; cases hg
        · rw [h1] at hg
          have e' : g' = g := Option.some.inj hg
          subst e'
          exact ⟨(Array.getElem?_eq_some_iff.1 h3).1, h2⟩
      clear bV B OW
      go_wp2_with fail
      clear hV e0 e1 e2 e3 e4 e5 e6
      go_loopw [8] (fun o wi => ∃ m : Nat, m ≤ k ∧ o = .int .i64 m ∧ Hid (posR f ⟨vi, va, vb, vt, vp, vq, vz⟩ S k = posR f ⟨vi, va, vb, vt, vp, vq, vz⟩ S m) ∧ Hid (Below V.heap.size V wi)) (fun o _ => (intOf o).toNat)
      case atStart => exact ⟨k, by omega, rfl, rfl, Below.refl _ _⟩
      case round =>
        obtain ⟨m, hm, rfl, HP, BI⟩ := hrel
        rename World => wi
        have Xi : Hid (Box wi wo.heap.size 35 #[.int .i64 vi, .int .i64 va, .int .i64 vb, .string vt, .int .i64 vp, .int .i64 vq, .string vz]) := XV.out.belowS BI.out
        have Oi : Hid (wi.ownsRow w.heap.size 35 7 (.slice a1 k c1) k (cellsR S)) := own_below OV.out BI.out
        have Bi : Hid (Below w.heap.size w wi) := BV.out.trans (BI.out.mono BV.out.size)
        have li : V.heap.size ≤ wi.heap.size := BI.out.size
        have lV : wo.heap.size < V.heap.size := XV.out.lt
        rcases Nat.eq_zero_or_pos m with hm0 | hmp
        · subst hm0
          have HK : Hid (posR f ⟨vi, va, vb, vt, vp, vq, vz⟩ S k = 0) := by unfold Hid; rw [HP.out]; rfl
          clear HP BI XV OV BV
          go_wp2_with fail
          haveI nonE := Out.some wi
          refine q_begin (by kernel_rfl) (by kernel_rfl) ?_
          repeat (go_big_quiet_step (fail))
          refine wpQuiet_nil ?_
          rintro w3 ⟨⟨y', hb3⟩, hy⟩
          have hy' : w3 = y' := hy
          clear hy
          subst hy'
          have X3 : Hid (Box w3 wo.heap.size 35 #[.int .i64 vi, .int .i64 va, .int .i64 vb, .string vt, .int .i64 vp, .int .i64 vq, .string vz]) := Xi.out.belowS hb3
          have O3 : Hid (w3.ownsRow w.heap.size 35 7 (.slice a1 k c1) k (cellsR S)) := own_below Oi.out hb3
          have B3 : Hid (Below w.heap.size w w3) := Bi.out.trans (hb3.mono Bi.out.size)
          have l3 : wi.heap.size ≤ w3.heap.size := hb3.size
          clear hb3 Xi Oi Bi
          obtain ⟨x0, x1, x2, x3, x4, x5, x6⟩ := box7 X3.out
          obtain ⟨V4, hV4⟩ : ∃ W, w3.alloc (.cells #[.int .i64 vi, .int .i64 va, .int .i64 vb, .string vt, .int .i64 vp, .int .i64 vq, .string vz] 35) = W := ⟨_, rfl⟩
          have b4 : Below w3.heap.size w3 V4 := by rw [← hV4]; exact (Below.refl _ _).alloc (Nat.le_refl _) _
          have B4 : Hid (Below w.heap.size w V4) := B3.out.trans (b4.mono B3.out.size)
          have C := c_insV w.heap.size a1 k c1 0 w3.heap.size S ⟨vi, va, vb, vt, vp, vq, vz⟩ V4 (own_below O3.out b4) (by rw [← hV4]; show (w3.heap.push _)[w3.heap.size]? = _; simp [cR]) (fun g hg => by have := (hob.out g hg).1; omega) (by have := posR_le f ⟨vi, va, vb, vt, vp, vq, vz⟩ S k; have := HK.out; omega) (by omega) B4.out.size
          have HI : Hid (S.take 0 ++ ⟨vi, va, vb, vt, vp, vq, vz⟩ :: S.drop 0 = sortR f (vs.take (k + 1))) := by unfold Hid; rw [HSS.out]; unfold insR; rw [hSl, HK.out]
          rw [HI.out] at C
          simp only [Int.natCast_add, Int.cast_ofNat_Int, Int.ofNat_zero, Int.natCast_zero] at C
          clear b4 HI
          go_wp2_with fail
          refine C.mono ?_
          rintro e w5 ⟨⟨a5, c5, rfl, o5⟩, hg5⟩
          have B5 : Hid (Below w.heap.size w w5) := grown_below B4.out hg5 B4.out.size (fun g hg => (hob.out g hg).2)
          have O5 : Hid (w5.ownsRow w.heap.size 35 7 (.slice a5 (k + 1) c5) (k + 1) (cellsR (sortR f (vs.take (k + 1))))) := o5
          clear hg5 o5 C hV4 x0 x1 x2 x3 x4 x5 x6
          go_wp2
          go_roundw
          case rel => exact ⟨k + 1, a5, c5, by omega, by go_num, by simp, O5, B5⟩
          case measure => simp [intOf]; omega
        · obtain ⟨j, rfl⟩ : ∃ j, m = j + 1 := ⟨m - 1, by omega⟩
          obtain ⟨g, rfl⟩ : ∃ g, a1 = some ⟨g, 0, none⟩ := by
            rcases own_form Oi.out with ⟨_, h0⟩ | ⟨g, cp, h1, _⟩
            · omega
            · simp only [Value.slice.injEq] at h1; exact ⟨g, h1.1⟩
          have R := RdR.own Oi.out
          obtain ⟨bb, oo, hbo, hbb, hcc⟩ := R.2 (by omega)
          obtain ⟨rfl, rfl⟩ : g = bb ∧ 0 = oo := by simpa using hbo
          obtain ⟨⟨yi, ya, yb, yt, yp, yq, yz⟩, hy⟩ : ∃ y, y = S.getD j zeroR := ⟨_, rfl⟩
          obtain ⟨d0, d1, d2, d3, d4, d5, d6⟩ := RdR.at hcc (show j < k by omega) hy
          simp only [Nat.zero_add] at d0 d1 d2 d3 d4 d5 d6
          obtain ⟨z, hz⟩ : ∃ z, f ⟨yi, ya, yb, yt, yp, yq, yz⟩ ⟨vi, va, vb, vt, vp, vq, vz⟩ = z := ⟨_, rfl⟩
          have CQ : Hid (∀ r : Out wi, Calls Try.prog 79 #[.agg #[.int .i64 yi, .int .i64 ya, .int .i64 yb, .string yt, .int .i64 yp, .int .i64 yq, .string yz], .agg #[.int .i64 vi, .int .i64 va, .int .i64 vb, .string vt, .int .i64 vp, .int .i64 vq, .string vz], .pointer (some ⟨cg, 0, none⟩)] r.y fun e w' => e = .returned (.int .i64 z) ∧ Below r.y.heap.size r.y w') := fun r => by rw [← hz]; exact HC.out r.y ⟨yi, ya, yb, yt, yp, yq, yz⟩ ⟨vi, va, vb, vt, vp, vq, vz⟩ (Bi.out.trans (r.p.mono Bi.out.size))
          obtain ⟨x0, x1, x2, x3, x4, x5, x6⟩ := box7 Xi.out
          have q0 := fun r : Out wi => q_cell d0 r
          have q1 := fun r : Out wi => q_cell d1 r
          have q2 := fun r : Out wi => q_cell d2 r
          have q3 := fun r : Out wi => q_cell d3 r
          have q4 := fun r : Out wi => q_cell d4 r
          have q5 := fun r : Out wi => q_cell d5 r
          have q6 := fun r : Out wi => q_cell d6 r
          have p0 := fun r : Out wi => q_cell x0 r
          have p1 := fun r : Out wi => q_cell x1 r
          have p2 := fun r : Out wi => q_cell x2 r
          have p3 := fun r : Out wi => q_cell x3 r
          have p4 := fun r : Out wi => q_cell x4 r
          have p5 := fun r : Out wi => q_cell x5 r
          have p6 := fun r : Out wi => q_cell x6 r
          have k1 : decide ((0 : Int) < (j : Int) + 1) = true := decide_eq_true (by omega)
          have g1 : (0 : Int) ≤ (j : Int) := by omega
          have g2 : (j : Int) < (k : Int) := by omega
          by_cases hzz : 0 < z
          · have k2 : decide (0 < z) = true := decide_eq_true hzz
            have HP' : Hid (posR f ⟨vi, va, vb, vt, vp, vq, vz⟩ S k = posR f ⟨vi, va, vb, vt, vp, vq, vz⟩ S j) := by unfold Hid; rw [HP.out]; exact posR_go (by rw [← hy, hz]; exact hzz)
            clear hy hz hzz HP hcc hbb hbo R d0 d1 d2 d3 d4 d5 d6 x0 x1 x2 x3 x4 x5 x6 HRD HSS Oi Xi
            go_wp2_with fail
            haveI nonE := Out.some wi
            refine q_begin (by kernel_rfl) (by kernel_rfl) ?_
            repeat (go_big_quiet_step (exact q_call (CQ.out _)))
            refine wpQuiet_nil ?_
            rintro w3 ⟨⟨y', hb3⟩, hy⟩
            have hy' : w3 = y' := hy
            clear hy
            subst hy'
            have BI3 : Hid (Below V.heap.size V w3) := BI.out.trans (hb3.mono BI.out.size)
            clear hb3 CQ q0 p0 q1 p1 q2 p2 q3 p3 q4 p4 q5 p5 q6 p6 k2 BI
            go_wp2
            go_roundw
            case rel => exact ⟨j, by omega, by go_num, HP', BI3⟩
            case measure => simp [intOf]
          · have k2 : decide (0 < z) = false := decide_eq_false hzz
            have HK : Hid (posR f ⟨vi, va, vb, vt, vp, vq, vz⟩ S k = j + 1) := by unfold Hid; rw [HP.out]; exact posR_stop (by rw [← hy, hz]; exact hzz)
            clear hy hz hzz HP hcc hbb hbo R d0 d1 d2 d3 d4 d5 d6 x0 x1 x2 x3 x4 x5 x6 HRD BI XV OV BV
            go_wp2_with fail
            haveI nonE := Out.some wi
            refine q_begin (by kernel_rfl) (by kernel_rfl) ?_
            repeat (go_big_quiet_step (exact q_call (CQ.out _)))
            refine wpQuiet_nil ?_
            rintro w3 ⟨⟨y', hb3⟩, hy⟩
            have hy' : w3 = y' := hy
            clear hy
            subst hy'
            clear CQ q0 p0 q1 p1 q2 p2 q3 p3 q4 p4 q5 p5 q6 p6 k2
            have X3 : Hid (Box w3 wo.heap.size 35 #[.int .i64 vi, .int .i64 va, .int .i64 vb, .string vt, .int .i64 vp, .int .i64 vq, .string vz]) := Xi.out.belowS hb3
            have O3 : Hid (w3.ownsRow w.heap.size 35 7 (.slice (some ⟨g, 0, none⟩) k c1) k (cellsR S)) := own_below Oi.out hb3
            have B3 : Hid (Below w.heap.size w w3) := Bi.out.trans (hb3.mono Bi.out.size)
            have l3 : wi.heap.size ≤ w3.heap.size := hb3.size
            clear hb3 Xi Oi Bi
            obtain ⟨x0, x1, x2, x3, x4, x5, x6⟩ := box7 X3.out
            obtain ⟨V4, hV4⟩ : ∃ W, w3.alloc (.cells #[.int .i64 vi, .int .i64 va, .int .i64 vb, .string vt, .int .i64 vp, .int .i64 vq, .string vz] 35) = W := ⟨_, rfl⟩
            have b4 : Below w3.heap.size w3 V4 := by rw [← hV4]; exact (Below.refl _ _).alloc (Nat.le_refl _) _
            have B4 : Hid (Below w.heap.size w V4) := B3.out.trans (b4.mono B3.out.size)
            have C := c_insV w.heap.size (some ⟨g, 0, none⟩) k c1 (j + 1) w3.heap.size S ⟨vi, va, vb, vt, vp, vq, vz⟩ V4 (own_below O3.out b4) (by rw [← hV4]; show (w3.heap.push _)[w3.heap.size]? = _; simp [cR]) (fun g hg => by have := (hob.out g hg).1; omega) (by have := posR_le f ⟨vi, va, vb, vt, vp, vq, vz⟩ S k; have := HK.out; omega) (by omega) B4.out.size
            have HI : Hid (S.take (j + 1) ++ ⟨vi, va, vb, vt, vp, vq, vz⟩ :: S.drop (j + 1) = sortR f (vs.take (k + 1))) := by unfold Hid; rw [HSS.out]; unfold insR; rw [hSl, HK.out]
            rw [HI.out] at C
            simp only [Int.natCast_add, Int.cast_ofNat_Int] at C
            clear b4 HI
            go_wp2_with fail
            refine C.mono ?_
            rintro e w5 ⟨⟨a5, c5, rfl, o5⟩, hg5⟩
            have B5 : Hid (Below w.heap.size w w5) := grown_below B4.out hg5 B4.out.size (fun g hg => (hob.out g hg).2)
            have O5 : Hid (w5.ownsRow w.heap.size 35 7 (.slice a5 (k + 1) c5) (k + 1) (cellsR (sortR f (vs.take (k + 1))))) := o5
            clear hg5 o5 C hV4 x0 x1 x2 x3 x4 x5 x6
            go_wp2
            go_roundw
            case rel => exact ⟨k + 1, a5, c5, by omega, by go_num, by simp, O5, B5⟩
            case measure => simp [intOf]; omega
    · have e : k = n := by omega
      subst e
      rw [List.take_of_length_le (by omega)] at OW
      go_wp2
      go_ret
      exact ⟨⟨_, _, rfl, OW.out⟩, B.out⟩
set_option maxRecDepth 100000 in
set_option maxHeartbeats 8000000 in
theorem c_sorted2 (f : RW → RW → Int) (a : Option Addr) (n c : Nat) (vs : List RW) (cg : Nat) (w : World) (hr : RdR w a n vs) (hn : n ≤ 4096)
    (hC : ∀ W x y, Below w.heap.size w W → Calls Try.prog 83 #[.agg (cR x).toArray, .agg (cR y).toArray, .pointer (some ⟨cg, 0, none⟩)] W fun e w' => e = .returned (.int .i64 (f x y)) ∧ Below W.heap.size W w') :
    Calls Try.prog 52 #[.slice a n c, .func (Fn.func 83) #[] #[.pointer (some ⟨cg, 0, none⟩)]] w fun e w' => (∃ a' c', e = .returned (.slice a' n c') ∧ w'.ownsRow w.heap.size 35 7 (.slice a' n c') n (cellsR (sortR f vs))) ∧ Below w.heap.size w w' := by
  have HC : Hid (∀ W x y, Below w.heap.size w W → Calls Try.prog 83 #[.agg (cR x).toArray, .agg (cR y).toArray, .pointer (some ⟨cg, 0, none⟩)] W fun e w' => e = .returned (.int .i64 (f x y)) ∧ Below W.heap.size W w') := hC
  have HRD : Hid (RdR w a n vs) := hr
  have hl : vs.length = n := hr.1
  clear hC hr
  go_enter Try.func52, Try.ntmps52
  go_wp2
  go_loopw [5, 11] (fun o i wr => ∃ (k : Nat) (a' : Option Addr) (c' : Nat), k ≤ n ∧ i = .int .i64 k ∧ o = .slice a' k c' ∧ Hid (wr.ownsRow w.heap.size 35 7 (.slice a' k c') k (cellsR (sortR f (vs.take k)))) ∧ Hid (Below w.heap.size w wr)) (fun _ i _ => n - (intOf i).toNat)
  case atStart => exact ⟨0, none, 0, by omega, rfl, rfl, World.ownsRow_nil w _ _ _, Below.refl _ _⟩
  case round =>
    rename World => wo
    obtain ⟨k, a1, c1, hk, rfl, rfl, OW, B⟩ := hrel
    by_cases hlt : k < n
    · obtain ⟨b, off, rfl, hbl, hc⟩ := HRD.out.2 (by omega)
      obtain ⟨⟨vi, va, vb, vt, vp, vq, vz⟩, hv⟩ : ∃ v, v = vs.getD k zeroR := ⟨_, rfl⟩
      obtain ⟨d0, d1, d2, d3, d4, d5, d6⟩ := RdR.at hc hlt hv
      dsimp only at d0 d1 d2 d3 d4 d5 d6
      have e0 : wo.cell? ⟨b, off + k * 7, none⟩ = some (.int .i64 vi) := by rw [B.out.cell (p := ⟨b, off + k * 7, none⟩) hbl, d0]
      have e1 : wo.cell? ⟨b, off + k * 7 + 1, none⟩ = some (.int .i64 va) := by rw [B.out.cell (p := ⟨b, off + k * 7 + 1, none⟩) hbl, d1]
      have e2 : wo.cell? ⟨b, off + k * 7 + 2, none⟩ = some (.int .i64 vb) := by rw [B.out.cell (p := ⟨b, off + k * 7 + 2, none⟩) hbl, d2]
      have e3 : wo.cell? ⟨b, off + k * 7 + 3, none⟩ = some (.string vt) := by rw [B.out.cell (p := ⟨b, off + k * 7 + 3, none⟩) hbl, d3]
      have e4 : wo.cell? ⟨b, off + k * 7 + 4, none⟩ = some (.int .i64 vp) := by rw [B.out.cell (p := ⟨b, off + k * 7 + 4, none⟩) hbl, d4]
      have e5 : wo.cell? ⟨b, off + k * 7 + 5, none⟩ = some (.int .i64 vq) := by rw [B.out.cell (p := ⟨b, off + k * 7 + 5, none⟩) hbl, d5]
      have e6 : wo.cell? ⟨b, off + k * 7 + 6, none⟩ = some (.string vz) := by rw [B.out.cell (p := ⟨b, off + k * 7 + 6, none⟩) hbl, d6]
      have HV : Hid ((⟨vi, va, vb, vt, vp, vq, vz⟩ : RW) = vs.getD k zeroR) := hv
      obtain ⟨S, hS⟩ : ∃ S, sortR f (vs.take k) = S := ⟨_, rfl⟩
      have hSl : S.length = k := by rw [← hS, sortR_len]; simp; omega
      have HSS : Hid (sortR f (vs.take (k + 1)) = insR f S ⟨vi, va, vb, vt, vp, vq, vz⟩) := by unfold Hid; rw [sortR_step f vs k (by omega), hS, hv]
      rw [hS] at OW
      clear hc hv d0 d1 d2 d3 d4 d5 d6 hS HV
      obtain ⟨V, hV⟩ : ∃ W, wo.alloc (.cells #[.int .i64 vi, .int .i64 va, .int .i64 vb, .string vt, .int .i64 vp, .int .i64 vq, .string vz] 35) = W := ⟨_, rfl⟩
      have bV : Below wo.heap.size wo V := by rw [← hV]; exact (Below.refl _ _).alloc (Nat.le_refl _) _
      have BV : Hid (Below w.heap.size w V) := B.out.trans (bV.mono B.out.size)
      have XV : Hid (Box V wo.heap.size 35 #[.int .i64 vi, .int .i64 va, .int .i64 vb, .string vt, .int .i64 vp, .int .i64 vq, .string vz]) := by unfold Hid; rw [← hV]; exact Box.new _ _ _
      have OV : Hid (V.ownsRow w.heap.size 35 7 (.slice a1 k c1) k (cellsR S)) := own_below OW.out bV
      have ls : w.heap.size ≤ wo.heap.size := B.out.size
      have hob : Hid (∀ g, (Value.slice a1 k c1).ownBlock = some g → g < wo.heap.size ∧ w.heap.size ≤ g) := fun g hg => by
        rcases OW.out.2 with ⟨h1, _⟩ | ⟨g', cp, cu, h1, h2, h3, _⟩
        · rw [h1] at hg; cases hg
        · rw [h1] at hg
          have e' : g' = g := Option.some.inj hg
          subst e'
          exact ⟨(Array.getElem?_eq_some_iff.1 h3).1, h2⟩
      clear bV B OW
      go_wp2_with fail
      clear hV e0 e1 e2 e3 e4 e5 e6
      go_loopw [8] (fun o wi => ∃ m : Nat, m ≤ k ∧ o = .int .i64 m ∧ Hid (posR f ⟨vi, va, vb, vt, vp, vq, vz⟩ S k = posR f ⟨vi, va, vb, vt, vp, vq, vz⟩ S m) ∧ Hid (Below V.heap.size V wi)) (fun o _ => (intOf o).toNat)
      case atStart => exact ⟨k, by omega, rfl, rfl, Below.refl _ _⟩
      case round =>
        obtain ⟨m, hm, rfl, HP, BI⟩ := hrel
        rename World => wi
        have Xi : Hid (Box wi wo.heap.size 35 #[.int .i64 vi, .int .i64 va, .int .i64 vb, .string vt, .int .i64 vp, .int .i64 vq, .string vz]) := XV.out.belowS BI.out
        have Oi : Hid (wi.ownsRow w.heap.size 35 7 (.slice a1 k c1) k (cellsR S)) := own_below OV.out BI.out
        have Bi : Hid (Below w.heap.size w wi) := BV.out.trans (BI.out.mono BV.out.size)
        have li : V.heap.size ≤ wi.heap.size := BI.out.size
        have lV : wo.heap.size < V.heap.size := XV.out.lt
        rcases Nat.eq_zero_or_pos m with hm0 | hmp
        · subst hm0
          have HK : Hid (posR f ⟨vi, va, vb, vt, vp, vq, vz⟩ S k = 0) := by unfold Hid; rw [HP.out]; rfl
          clear HP BI XV OV BV
          go_wp2_with fail
          haveI nonE := Out.some wi
          refine q_begin (by kernel_rfl) (by kernel_rfl) ?_
          repeat (go_big_quiet_step (fail))
          refine wpQuiet_nil ?_
          rintro w3 ⟨⟨y', hb3⟩, hy⟩
          have hy' : w3 = y' := hy
          clear hy
          subst hy'
          have X3 : Hid (Box w3 wo.heap.size 35 #[.int .i64 vi, .int .i64 va, .int .i64 vb, .string vt, .int .i64 vp, .int .i64 vq, .string vz]) := Xi.out.belowS hb3
          have O3 : Hid (w3.ownsRow w.heap.size 35 7 (.slice a1 k c1) k (cellsR S)) := own_below Oi.out hb3
          have B3 : Hid (Below w.heap.size w w3) := Bi.out.trans (hb3.mono Bi.out.size)
          have l3 : wi.heap.size ≤ w3.heap.size := hb3.size
          clear hb3 Xi Oi Bi
          obtain ⟨x0, x1, x2, x3, x4, x5, x6⟩ := box7 X3.out
          obtain ⟨V4, hV4⟩ : ∃ W, w3.alloc (.cells #[.int .i64 vi, .int .i64 va, .int .i64 vb, .string vt, .int .i64 vp, .int .i64 vq, .string vz] 35) = W := ⟨_, rfl⟩
          have b4 : Below w3.heap.size w3 V4 := by rw [← hV4]; exact (Below.refl _ _).alloc (Nat.le_refl _) _
          have B4 : Hid (Below w.heap.size w V4) := B3.out.trans (b4.mono B3.out.size)
          have C := c_insV w.heap.size a1 k c1 0 w3.heap.size S ⟨vi, va, vb, vt, vp, vq, vz⟩ V4 (own_below O3.out b4) (by rw [← hV4]; show (w3.heap.push _)[w3.heap.size]? = _; simp [cR]) (fun g hg => by have := (hob.out g hg).1; omega) (by have := posR_le f ⟨vi, va, vb, vt, vp, vq, vz⟩ S k; have := HK.out; omega) (by omega) B4.out.size
          have HI : Hid (S.take 0 ++ ⟨vi, va, vb, vt, vp, vq, vz⟩ :: S.drop 0 = sortR f (vs.take (k + 1))) := by unfold Hid; rw [HSS.out]; unfold insR; rw [hSl, HK.out]
          rw [HI.out] at C
          simp only [Int.natCast_add, Int.cast_ofNat_Int, Int.ofNat_zero, Int.natCast_zero] at C
          clear b4 HI
          go_wp2_with fail
          refine C.mono ?_
          rintro e w5 ⟨⟨a5, c5, rfl, o5⟩, hg5⟩
          have B5 : Hid (Below w.heap.size w w5) := grown_below B4.out hg5 B4.out.size (fun g hg => (hob.out g hg).2)
          have O5 : Hid (w5.ownsRow w.heap.size 35 7 (.slice a5 (k + 1) c5) (k + 1) (cellsR (sortR f (vs.take (k + 1))))) := o5
          clear hg5 o5 C hV4 x0 x1 x2 x3 x4 x5 x6
          go_wp2
          go_roundw
          case rel => exact ⟨k + 1, a5, c5, by omega, by go_num, by simp, O5, B5⟩
          case measure => simp [intOf]; omega
        · obtain ⟨j, rfl⟩ : ∃ j, m = j + 1 := ⟨m - 1, by omega⟩
          obtain ⟨g, rfl⟩ : ∃ g, a1 = some ⟨g, 0, none⟩ := by
            rcases own_form Oi.out with ⟨_, h0⟩ | ⟨g, cp, h1, _⟩
            · omega
            · simp only [Value.slice.injEq] at h1; exact ⟨g, h1.1⟩
          have R := RdR.own Oi.out
          obtain ⟨bb, oo, hbo, hbb, hcc⟩ := R.2 (by omega)
          obtain ⟨rfl, rfl⟩ : g = bb ∧ 0 = oo := by simpa using hbo
          obtain ⟨⟨yi, ya, yb, yt, yp, yq, yz⟩, hy⟩ : ∃ y, y = S.getD j zeroR := ⟨_, rfl⟩
          obtain ⟨d0, d1, d2, d3, d4, d5, d6⟩ := RdR.at hcc (show j < k by omega) hy
          simp only [Nat.zero_add] at d0 d1 d2 d3 d4 d5 d6
          obtain ⟨z, hz⟩ : ∃ z, f ⟨yi, ya, yb, yt, yp, yq, yz⟩ ⟨vi, va, vb, vt, vp, vq, vz⟩ = z := ⟨_, rfl⟩
          have CQ : Hid (∀ r : Out wi, Calls Try.prog 83 #[.agg #[.int .i64 yi, .int .i64 ya, .int .i64 yb, .string yt, .int .i64 yp, .int .i64 yq, .string yz], .agg #[.int .i64 vi, .int .i64 va, .int .i64 vb, .string vt, .int .i64 vp, .int .i64 vq, .string vz], .pointer (some ⟨cg, 0, none⟩)] r.y fun e w' => e = .returned (.int .i64 z) ∧ Below r.y.heap.size r.y w') := fun r => by rw [← hz]; exact HC.out r.y ⟨yi, ya, yb, yt, yp, yq, yz⟩ ⟨vi, va, vb, vt, vp, vq, vz⟩ (Bi.out.trans (r.p.mono Bi.out.size))
          obtain ⟨x0, x1, x2, x3, x4, x5, x6⟩ := box7 Xi.out
          have q0 := fun r : Out wi => q_cell d0 r
          have q1 := fun r : Out wi => q_cell d1 r
          have q2 := fun r : Out wi => q_cell d2 r
          have q3 := fun r : Out wi => q_cell d3 r
          have q4 := fun r : Out wi => q_cell d4 r
          have q5 := fun r : Out wi => q_cell d5 r
          have q6 := fun r : Out wi => q_cell d6 r
          have p0 := fun r : Out wi => q_cell x0 r
          have p1 := fun r : Out wi => q_cell x1 r
          have p2 := fun r : Out wi => q_cell x2 r
          have p3 := fun r : Out wi => q_cell x3 r
          have p4 := fun r : Out wi => q_cell x4 r
          have p5 := fun r : Out wi => q_cell x5 r
          have p6 := fun r : Out wi => q_cell x6 r
          have k1 : decide ((0 : Int) < (j : Int) + 1) = true := decide_eq_true (by omega)
          have g1 : (0 : Int) ≤ (j : Int) := by omega
          have g2 : (j : Int) < (k : Int) := by omega
          by_cases hzz : 0 < z
          · have k2 : decide (0 < z) = true := decide_eq_true hzz
            have HP' : Hid (posR f ⟨vi, va, vb, vt, vp, vq, vz⟩ S k = posR f ⟨vi, va, vb, vt, vp, vq, vz⟩ S j) := by unfold Hid; rw [HP.out]; exact posR_go (by rw [← hy, hz]; exact hzz)
            clear hy hz hzz HP hcc hbb hbo R d0 d1 d2 d3 d4 d5 d6 x0 x1 x2 x3 x4 x5 x6 HRD HSS Oi Xi
            go_wp2_with fail
            haveI nonE := Out.some wi
            refine q_begin (by kernel_rfl) (by kernel_rfl) ?_
            repeat (go_big_quiet_step (exact q_call (CQ.out _)))
            refine wpQuiet_nil ?_
            rintro w3 ⟨⟨y', hb3⟩, hy⟩
            have hy' : w3 = y' := hy
            clear hy
            subst hy'
            have BI3 : Hid (Below V.heap.size V w3) := BI.out.trans (hb3.mono BI.out.size)
            clear hb3 CQ q0 p0 q1 p1 q2 p2 q3 p3 q4 p4 q5 p5 q6 p6 k2 BI
            go_wp2
            go_roundw
            case rel => exact ⟨j, by omega, by go_num, HP', BI3⟩
            case measure => simp [intOf]
          · have k2 : decide (0 < z) = false := decide_eq_false hzz
            have HK : Hid (posR f ⟨vi, va, vb, vt, vp, vq, vz⟩ S k = j + 1) := by unfold Hid; rw [HP.out]; exact posR_stop (by rw [← hy, hz]; exact hzz)
            clear hy hz hzz HP hcc hbb hbo R d0 d1 d2 d3 d4 d5 d6 x0 x1 x2 x3 x4 x5 x6 HRD BI XV OV BV
            go_wp2_with fail
            haveI nonE := Out.some wi
            refine q_begin (by kernel_rfl) (by kernel_rfl) ?_
            repeat (go_big_quiet_step (exact q_call (CQ.out _)))
            refine wpQuiet_nil ?_
            rintro w3 ⟨⟨y', hb3⟩, hy⟩
            have hy' : w3 = y' := hy
            clear hy
            subst hy'
            clear CQ q0 p0 q1 p1 q2 p2 q3 p3 q4 p4 q5 p5 q6 p6 k2
            have X3 : Hid (Box w3 wo.heap.size 35 #[.int .i64 vi, .int .i64 va, .int .i64 vb, .string vt, .int .i64 vp, .int .i64 vq, .string vz]) := Xi.out.belowS hb3
            have O3 : Hid (w3.ownsRow w.heap.size 35 7 (.slice (some ⟨g, 0, none⟩) k c1) k (cellsR S)) := own_below Oi.out hb3
            have B3 : Hid (Below w.heap.size w w3) := Bi.out.trans (hb3.mono Bi.out.size)
            have l3 : wi.heap.size ≤ w3.heap.size := hb3.size
            clear hb3 Xi Oi Bi
            obtain ⟨x0, x1, x2, x3, x4, x5, x6⟩ := box7 X3.out
            obtain ⟨V4, hV4⟩ : ∃ W, w3.alloc (.cells #[.int .i64 vi, .int .i64 va, .int .i64 vb, .string vt, .int .i64 vp, .int .i64 vq, .string vz] 35) = W := ⟨_, rfl⟩
            have b4 : Below w3.heap.size w3 V4 := by rw [← hV4]; exact (Below.refl _ _).alloc (Nat.le_refl _) _
            have B4 : Hid (Below w.heap.size w V4) := B3.out.trans (b4.mono B3.out.size)
            have C := c_insV w.heap.size (some ⟨g, 0, none⟩) k c1 (j + 1) w3.heap.size S ⟨vi, va, vb, vt, vp, vq, vz⟩ V4 (own_below O3.out b4) (by rw [← hV4]; show (w3.heap.push _)[w3.heap.size]? = _; simp [cR]) (fun g hg => by have := (hob.out g hg).1; omega) (by have := posR_le f ⟨vi, va, vb, vt, vp, vq, vz⟩ S k; have := HK.out; omega) (by omega) B4.out.size
            have HI : Hid (S.take (j + 1) ++ ⟨vi, va, vb, vt, vp, vq, vz⟩ :: S.drop (j + 1) = sortR f (vs.take (k + 1))) := by unfold Hid; rw [HSS.out]; unfold insR; rw [hSl, HK.out]
            rw [HI.out] at C
            simp only [Int.natCast_add, Int.cast_ofNat_Int] at C
            clear b4 HI
            go_wp2_with fail
            refine C.mono ?_
            rintro e w5 ⟨⟨a5, c5, rfl, o5⟩, hg5⟩
            have B5 : Hid (Below w.heap.size w w5) := grown_below B4.out hg5 B4.out.size (fun g hg => (hob.out g hg).2)
            have O5 : Hid (w5.ownsRow w.heap.size 35 7 (.slice a5 (k + 1) c5) (k + 1) (cellsR (sortR f (vs.take (k + 1))))) := o5
            clear hg5 o5 C hV4 x0 x1 x2 x3 x4 x5 x6
            go_wp2
            go_roundw
            case rel => exact ⟨k + 1, a5, c5, by omega, by go_num, by simp, O5, B5⟩
            case measure => simp [intOf]; omega
    · have e : k = n := by omega
      subst e
      rw [List.take_of_length_le (by omega)] at OW
      go_wp2
      go_ret
      exact ⟨⟨_, _, rfl, OW.out⟩, B.out⟩

end Go.Proofs.Ytlapmidiakaimaa
