/-
  AnalyzeLog of the program.
-/
import Derived.Test.YtimdoaehlciecaaAe
import Derived.Test.YtimdoaehlciecaaRl
import Derived.Test.YtimdoaehlciecaaYsa
namespace Go.Proofs.Ytimdoaehlciecaa
open Go Go.RowKit
attribute [local go_sem ↓] Go.wp_at_zero Go.wp_at_succ

theorem anA_one (g : Nat → Int) : (anA g).all (·.oneCell') = true := by
  rw [Array.all_eq_true_iff_forall_mem]
  intro x hx
  obtain ⟨i, rfl⟩ := Array.mem_ofFn.1 hx
  rfl
theorem anA_size (g : Nat → Int) : (anA g).size = 69 := by simp [anA]
theorem info69 (g : Nat → Int) : (Try.prog.info? 69).map (·.size) = some (anA g).size := by rw [anA_size]; kernel_rfl
theorem ret69 {fn : Func} {p : Tmp} (h : fn.results = #[.cell p 69]) {R : Ending → World → Prop} {a : Act} {w : World} {r : Nat} {g : Nat → Int} (hp : a.tmps.getD p undef = .pointer (some ⟨r, 0, none⟩)) (hd : a.defers = []) (hb : AnB w r g) (hR : R (.returned (.agg (anA g))) w) : bodyPost Try.prog fn R .ret a w :=
  bodyPost_ret (results_cell_row h a.tmps w r 69 (anA g) (0, 0) _ hp hb Try.underlying69 rfl (info69 g)) hd hR
theorem AnB.row {w : World} {B : Nat} {g : Nat → Int} (h : AnB w B g) (f : Nat → Int) : AnB (w.setRow B (anA f)) B f := setRow_heap w B _ (anA f) 69 (0, 0) h
theorem row_below {b B : Nat} {w V : World} (hb : Below b w V) (h : b ≤ B) (cs : Array Value) : Below b w (V.setRow B cs) :=
  hb.trans ⟨rfl, rfl, rfl, by rw [setRow_size]; exact Nat.le_refl _, fun k hk => setRow_other _ _ _ _ (by omega)⟩
theorem zero69 (W : World) : (zeroValue 69).run Try.prog W = .ok (.agg #[.int .i64 0, .int .i64 0, .int .i64 0, .int .i64 0, .int .i64 0, .int .i64 0, .int .i64 0, .int .i64 0, .int .i64 0, .int .i64 0, .int .i64 0, .int .i64 0, .int .i64 0, .int .i64 0, .int .i64 0, .int .i64 0, .int .i64 0, .int .i64 0, .int .i64 0, .int .i64 0, .int .i64 0, .int .i64 0, .int .i64 0, .int .i64 0, .int .i64 0, .int .i64 0, .int .i64 0, .int .i64 0, .int .i64 0, .int .i64 0, .int .i64 0, .int .i64 0, .int .i64 0, .int .i64 0, .int .i64 0, .int .i64 0, .int .i64 0, .int .i64 0, .int .i64 0, .int .i64 0, .int .i64 0, .int .i64 0, .int .i64 0, .int .i64 0, .int .i64 0, .int .i64 0, .int .i64 0, .int .i64 0, .int .i64 0, .int .i64 0, .int .i64 0, .int .i64 0, .int .i64 0, .int .i64 0, .int .i64 0, .int .i64 0, .int .i64 0, .int .i64 0, .int .i64 0, .int .i64 0, .int .i64 0, .int .i64 0, .int .i64 0, .int .i64 0, .int .i64 0, .int .i64 0, .int .i64 0, .int .i64 0, .int .i64 0]) W := by kernel_rfl
theorem rg_in : ∀ (ps : List (Int × Int)) (lo hi l : Int), rg ps lo hi l = true → ∀ p ∈ ps, lo ≤ p.1 ∧ p.1 ≤ hi
  | [], _, _, _, _, p, hp => by cases hp
  | c :: r, lo, hi, l, h, p, hp => by
    unfold rg at h
    simp only [Bool.and_eq_true, inB, decide_eq_true_eq] at h
    rcases List.mem_cons.1 hp with rfl | hp
    · exact h.1
    · have := rg_in r (c.1 + 1) hi l h.2.2 p hp
      omega
theorem ofP_snoc (f : Nat → Int) (o : Nat) (ps : List (Int × Int)) (k : Nat) (h : k < ps.length) : ofP f o (ps.take (k + 1)) = updN (ofP f o (ps.take k)) (o + (ps[k]'h).1.toNat) (ps[k]'h).2 := by
  unfold ofP
  rw [List.take_add_one, List.getElem?_eq_getElem h, List.foldl_append]
  rfl
theorem c2_at {w : World} {base g c : Nat} {ps : List (Int × Int)} (ho : w.ownsRow base 82 2 (.slice (some ⟨g, 0, none⟩) ps.length c) ps.length (cells2 ps)) {k : Nat} (hk : k < ps.length) : w.cell? ⟨g, k * 2, none⟩ = some (.int .i64 (ps[k]'hk).1) ∧ w.cell? ⟨g, k * 2 + 1, none⟩ = some (.int .i64 (ps[k]'hk).2) := by
  rw [ho.cellAt (k * 2) (by omega), ho.cellAt (k * 2 + 1) (by omega)]
  exact cells2_get ps k hk
theorem rec_g {r : DR} (h : okLR r = true) : 0 ≤ r.g ∧ r.g < 8 := by
  rw [← okLS_eq] at h
  unfold okLS at h
  split at h
  · rename_i h0
    simp only [Bool.and_eq_true, inB, decide_eq_true_eq] at h0
    omega
  · cases h
set_option maxRecDepth 100000 in
set_option maxHeartbeats 8000000 in
theorem c_ckd (ve vl vt vk vp vn vg vz : Int) (vb va : ByteArray) (w : World) (hok : okLR ⟨ve, vl, vt, vk, vp, vn, vg, vz, vb, va⟩ = true) (h6 : vk = 6) (has : va.size ≤ maxLen) :
    Calls Try.prog 39 #[.agg #[.int .i64 ve, .int .i64 vl, .int .i64 vt, .int .i64 vk, .int .i64 vp, .int .i64 vn, .int .i64 vg, .int .i64 vz, .string vb, .string va]] w fun e w' => e = .returned (.agg (anA (anC ⟨ve, vl, vt, vk, vp, vn, vg, vz, vb, va⟩))) ∧ Below w.heap.size w w' := by
  obtain ⟨ps, ts, e, r1, r2⟩ := ck_parts hok h6
  have HE : Hid (anC ⟨ve, vl, vt, vk, vp, vn, vg, vz, vb, va⟩ = ofP (ofP (fun _ => 0) 0 ps) 8 ts) := by unfold Hid anC; rw [e]
  have I1 : Hid (∀ p ∈ ps, 0 ≤ p.1 ∧ p.1 ≤ 7) := rg_in ps 0 7 _ r1
  have I2 : Hid (∀ p ∈ ts, 1 ≤ p.1 ∧ p.1 ≤ 60) := rg_in ts 1 60 _ r2
  clear r1 r2 hok h6
  obtain ⟨V, hV⟩ : ∃ V, w.alloc (.cells #[.int .i64 ve, .int .i64 vl, .int .i64 vt, .int .i64 vk, .int .i64 vp, .int .i64 vn, .int .i64 vg, .int .i64 vz, .string vb, .string va] 43) = V := ⟨_, rfl⟩
  have hbV : Below w.heap.size w V := by rw [← hV]; exact (Below.refl _ _).alloc (Nat.le_refl _) _
  have X0 : Hid (Box V w.heap.size 43 #[.int .i64 ve, .int .i64 vl, .int .i64 vt, .int .i64 vk, .int .i64 vp, .int .i64 vn, .int .i64 vg, .int .i64 vz, .string vb, .string va]) := by unfold Hid; rw [← hV]; exact Box.new _ _ _
  obtain ⟨V2, hV2⟩ : ∃ Q, V.alloc (.cells #[.int .i64 0, .int .i64 0, .int .i64 0, .int .i64 0, .int .i64 0, .int .i64 0, .int .i64 0, .int .i64 0, .int .i64 0, .int .i64 0, .int .i64 0, .int .i64 0, .int .i64 0, .int .i64 0, .int .i64 0, .int .i64 0, .int .i64 0, .int .i64 0, .int .i64 0, .int .i64 0, .int .i64 0, .int .i64 0, .int .i64 0, .int .i64 0, .int .i64 0, .int .i64 0, .int .i64 0, .int .i64 0, .int .i64 0, .int .i64 0, .int .i64 0, .int .i64 0, .int .i64 0, .int .i64 0, .int .i64 0, .int .i64 0, .int .i64 0, .int .i64 0, .int .i64 0, .int .i64 0, .int .i64 0, .int .i64 0, .int .i64 0, .int .i64 0, .int .i64 0, .int .i64 0, .int .i64 0, .int .i64 0, .int .i64 0, .int .i64 0, .int .i64 0, .int .i64 0, .int .i64 0, .int .i64 0, .int .i64 0, .int .i64 0, .int .i64 0, .int .i64 0, .int .i64 0, .int .i64 0, .int .i64 0, .int .i64 0, .int .i64 0, .int .i64 0, .int .i64 0, .int .i64 0, .int .i64 0, .int .i64 0, .int .i64 0] 69) = Q := ⟨_, rfl⟩
  have hb2 : Below V.heap.size V V2 := by rw [← hV2]; exact (Below.refl _ _).alloc (Nat.le_refl _) _
  have B2 : Hid (Below w.heap.size w V2) := hbV.trans (hb2.mono hbV.size)
  have X2 : Hid (Box V2 w.heap.size 43 #[.int .i64 ve, .int .i64 vl, .int .i64 vt, .int .i64 vk, .int .i64 vp, .int .i64 vn, .int .i64 vg, .int .i64 vz, .string vb, .string va]) := X0.out.belowS hb2
  have A2 : Hid (AnB V2 V.heap.size (fun _ => 0)) := by unfold Hid; rw [← hV2]; exact anB0 V
  have lV : Hid (w.heap.size < V.heap.size) := X0.out.lt
  have CR := c_readCheck (numsT va) V2 (nums_bytes va) (by rw [nums_len]; unfold maxLen at has; omega)
  rw [nums_get] at CR
  have CR' : Hid (Calls Try.prog 44 #[.string va] V2 fun e w' => ((ps.length ≤ 255 ∧ ts.length ≤ 255) ∧ ∃ a c a' c', e = .returned (.tuple #[.slice a ps.length c, .slice a' ts.length c', .bool true]) ∧ w'.ownsRow V2.heap.size 82 2 (.slice a ps.length c) ps.length (cells2 ps) ∧ w'.ownsRow V2.heap.size 82 2 (.slice a' ts.length c') ts.length (cells2 ts)) ∧ Below V2.heap.size V2 w') := CR.mono fun e' w' h => by
    unfold AnsC at h
    rw [e] at h
    exact ⟨⟨⟨h.1.1, h.1.2.1⟩, h.1.2.2.2.2⟩, h.2⟩
  clear CR e hbV hb2 X0 has
  obtain ⟨x0, x1, x2, x3, x4, x5, x6, x7, x8, x9⟩ := box10 X2.out
  have hz69 := zero69
  go_enter Try.func39, Try.ntmps39
  go_wp2_with fail
  refine CR'.out.mono ?_
  rintro e w1 ⟨⟨⟨n1, n2⟩, a1, c1, a2, c2, rfl, o1, o2⟩, hb⟩
  have B3 : Hid (Below w.heap.size w w1) := B2.out.trans (hb.mono B2.out.size)
  have A3 : Hid (AnB w1 V.heap.size (fun _ => 0)) := Box.belowS A2.out hb
  have O1 : Hid (w1.ownsRow V2.heap.size 82 2 (.slice a1 ps.length c1) ps.length (cells2 ps)) := o1
  have O2 : Hid (w1.ownsRow V2.heap.size 82 2 (.slice a2 ts.length c2) ts.length (cells2 ts)) := o2
  have lV2 : Hid (V.heap.size < V2.heap.size) := A2.out.lt
  clear hb o1 o2 CR' B2 X2 A2 hV hV2 x0 x1 x2 x3 x4 x5 x6 x7 x8 x9
  go_wp2
  go_loopw [19] (fun i wr => ∃ k : Nat, k ≤ ps.length ∧ i = .int .i64 (k : Int) ∧ Hid (AnB wr V.heap.size (ofP (fun _ => 0) 0 (ps.take k))) ∧ Hid (wr.ownsRow V2.heap.size 82 2 (.slice a1 ps.length c1) ps.length (cells2 ps)) ∧ Hid (wr.ownsRow V2.heap.size 82 2 (.slice a2 ts.length c2) ts.length (cells2 ts)) ∧ Hid (Below w.heap.size w wr)) (fun i _ => ps.length - (intOf i).toNat)
  case atStart => exact ⟨0, by omega, rfl, A3, O1, O2, B3⟩
  case round =>
    clear A3 O1 O2 B3
    obtain ⟨k, hk, rfl, HA, HO1, HO2, HB⟩ := hrel
    by_cases hlt : k < ps.length
    · obtain ⟨b, rfl⟩ : ∃ b, a1 = some ⟨b, 0, none⟩ := by
        rcases own_form HO1.out with ⟨_, h⟩ | ⟨b, cap, hv, _⟩
        · omega
        · cases hv; exact ⟨b, rfl⟩
      obtain ⟨d0, d1⟩ := c2_at HO1.out hlt
      have IN := I1.out _ (List.getElem_mem hlt)
      have SN := ofP_snoc (fun _ => 0) 0 ps k hlt
      obtain ⟨x, hx⟩ : ∃ x, x = (ps[k]'hlt).1 := ⟨_, rfl⟩
      obtain ⟨y, hy⟩ : ∃ y, y = (ps[k]'hlt).2 := ⟨_, rfl⟩
      rw [← hx] at IN
      rw [← hx, ← hy] at SN
      rw [← hx] at d0
      rw [← hy] at d1
      obtain ⟨m, rfl⟩ : ∃ m : Nat, x = (m : Int) := ⟨x.toNat, by omega⟩
      have hm : m < 8 := by omega
      rw [Int.toNat_natCast] at SN
      have HS : Hid (_ = _) := SN
      have q1 : (0 : Int) ≤ (m : Int) := by omega
      have q2 : (m : Int) < 8 := by omega
      clear hx hy IN SN
      have bg := HO1.out.lt b rfl
      obtain ⟨w4, hw4⟩ : ∃ Q, wr.alloc (.cells #[.int .i64 (m : Int), .int .i64 y] 82) = Q := ⟨_, rfl⟩
      have hb4 : Below wr.heap.size wr w4 := by rw [← hw4]; exact (Below.refl _ _).alloc (Nat.le_refl _) _
      have K4 : Hid (Box w4 wr.heap.size 82 #[.int .i64 (m : Int), .int .i64 y]) := by unfold Hid; rw [← hw4]; exact Box.new _ _ _
      have A4 : Hid (AnB w4 V.heap.size (ofP (fun _ => 0) 0 (ps.take k))) := Box.belowS HA.out hb4
      have Q1 : Hid (w4.ownsRow V2.heap.size 82 2 (.slice (some ⟨b, 0, none⟩) ps.length c1) ps.length (cells2 ps)) := own_below HO1.out hb4
      have Q2 : Hid (w4.ownsRow V2.heap.size 82 2 (.slice a2 ts.length c2) ts.length (cells2 ts)) := own_below HO2.out hb4
      have B4 : Hid (Below w.heap.size w w4) := HB.out.trans (hb4.mono HB.out.size)
      have e0 := K4.out.cell 0
      have e1 := K4.out.cell 1
      have f0 := A4.out.cell (show 0 + m < 69 by omega)
      have t0 := Box.thaw A4.out (0 + m)
      simp only [Nat.zero_add] at f0 t0
      have lW : Hid (V.heap.size < wr.heap.size) := HA.out.lt
      clear hb4 HO1 HO2 HA HB bg
      obtain ⟨w5, hw5⟩ : ∃ Q, w4.setCell ⟨V.heap.size, m, none⟩ (.int .i64 y) = Q := ⟨_, rfl⟩
      have A5 : Hid (AnB w5 V.heap.size (ofP (fun _ => 0) 0 (ps.take (k + 1)))) := by
        unfold Hid
        rw [← hw5, HS.out]
        have := A4.out.set (show 0 + m < 69 by omega) y
        rw [Nat.zero_add] at this ⊢
        exact this
      have G5 : w4.grownBy w5 (some V.heap.size) := by
        rw [← hw5]
        exact ⟨rfl, rfl, rfl, by simp [World.setCell], fun j _ hj => Below.heap_setCell _ _ _ _ (fun e => hj (by rw [e]))⟩
      have hne : ∀ g, V2.heap.size ≤ g → some V.heap.size ≠ some g := fun g hg e => by have := lV2.out; cases e; omega
      have P1 : Hid (w5.ownsRow V2.heap.size 82 2 (.slice (some ⟨b, 0, none⟩) ps.length c1) ps.length (cells2 ps)) := own_keep Q1.out G5 (fun g hg => hne g (Q1.out.lt g (by rw [ob_slice]; exact hg)).1)
      have P2 : Hid (w5.ownsRow V2.heap.size 82 2 (.slice a2 ts.length c2) ts.length (cells2 ts)) := own_keep Q2.out G5 (fun g hg => hne g (Q2.out.lt g (by rw [ob_slice]; exact hg)).1)
      have B5 : Hid (Below w.heap.size w w5) := by unfold Hid; rw [← hw5]; exact B4.out.setCell (by have := lV.out; simp; omega) _
      clear G5 hne A4 Q1 Q2 B4 K4
      go_wp2
      go_roundw
      case rel => exact ⟨k + 1, by omega, by go_num, A5, P1, P2, B5⟩
      case measure => simp [intOf]; omega
    · have e : k = ps.length := by omega
      have HA2 : Hid (AnB wr V.heap.size (ofP (fun _ => 0) 0 ps)) := by have := HA.out; rw [e, List.take_length] at this; exact this
      have hnl : ¬ ((k : Nat) : Int) < (ps.length : Int) := by omega
      clear HA HO1 e hlt hk
      rename World => wo
      go_wp2
      go_loopw [32] (fun i wr => ∃ k : Nat, k ≤ ts.length ∧ i = .int .i64 (k : Int) ∧ Hid (AnB wr V.heap.size (ofP (ofP (fun _ => 0) 0 ps) 8 (ts.take k))) ∧ Hid (wr.ownsRow V2.heap.size 82 2 (.slice a2 ts.length c2) ts.length (cells2 ts)) ∧ Hid (Below w.heap.size w wr)) (fun i _ => ts.length - (intOf i).toNat)
      case atStart => exact ⟨0, by omega, rfl, HA2, HO2, HB⟩
      case round =>
        clear HA2 HO2 HB
        obtain ⟨k, hk, rfl, HA, HO2, HB⟩ := hrel
        by_cases hlt : k < ts.length
        · obtain ⟨b, rfl⟩ : ∃ b, a2 = some ⟨b, 0, none⟩ := by
            rcases own_form HO2.out with ⟨_, h⟩ | ⟨b, cap, hv, _⟩
            · omega
            · cases hv; exact ⟨b, rfl⟩
          obtain ⟨d0, d1⟩ := c2_at HO2.out hlt
          have IN := I2.out _ (List.getElem_mem hlt)
          have SN := ofP_snoc (ofP (fun _ => 0) 0 ps) 8 ts k hlt
          obtain ⟨x, hx⟩ : ∃ x, x = (ts[k]'hlt).1 := ⟨_, rfl⟩
          obtain ⟨y, hy⟩ : ∃ y, y = (ts[k]'hlt).2 := ⟨_, rfl⟩
          rw [← hx] at IN
          rw [← hx, ← hy] at SN
          rw [← hx] at d0
          rw [← hy] at d1
          obtain ⟨m, rfl⟩ : ∃ m : Nat, x = (m : Int) := ⟨x.toNat, by omega⟩
          have hm : m < 61 := by omega
          rw [Int.toNat_natCast] at SN
          have HS : Hid (_ = _) := SN
          have q1 : (0 : Int) ≤ (m : Int) := by omega
          have q2 : (m : Int) < 61 := by omega
          clear hx hy IN SN
          have bg := HO2.out.lt b rfl
          obtain ⟨w4, hw4⟩ : ∃ Q, wr.alloc (.cells #[.int .i64 (m : Int), .int .i64 y] 82) = Q := ⟨_, rfl⟩
          have hb4 : Below wr.heap.size wr w4 := by rw [← hw4]; exact (Below.refl _ _).alloc (Nat.le_refl _) _
          have K4 : Hid (Box w4 wr.heap.size 82 #[.int .i64 (m : Int), .int .i64 y]) := by unfold Hid; rw [← hw4]; exact Box.new _ _ _
          have A4 : Hid (AnB w4 V.heap.size (ofP (ofP (fun _ => 0) 0 ps) 8 (ts.take k))) := Box.belowS HA.out hb4
          have Q2 : Hid (w4.ownsRow V2.heap.size 82 2 (.slice (some ⟨b, 0, none⟩) ts.length c2) ts.length (cells2 ts)) := own_below HO2.out hb4
          have B4 : Hid (Below w.heap.size w w4) := HB.out.trans (hb4.mono HB.out.size)
          have e0 := K4.out.cell 0
          have e1 := K4.out.cell 1
          have f0 := A4.out.cell (show 8 + m < 69 by omega)
          have t0 := Box.thaw A4.out (8 + m)
          skip
          have lW : Hid (V.heap.size < wr.heap.size) := HA.out.lt
          clear hb4 HO2 HA HB bg
          obtain ⟨w5, hw5⟩ : ∃ Q, w4.setCell ⟨V.heap.size, 8 + m, none⟩ (.int .i64 y) = Q := ⟨_, rfl⟩
          have A5 : Hid (AnB w5 V.heap.size (ofP (ofP (fun _ => 0) 0 ps) 8 (ts.take (k + 1)))) := by
            unfold Hid
            rw [← hw5, HS.out]
            have := A4.out.set (show 8 + m < 69 by omega) y
            skip
            exact this
          have G5 : w4.grownBy w5 (some V.heap.size) := by
            rw [← hw5]
            exact ⟨rfl, rfl, rfl, by simp [World.setCell], fun j _ hj => Below.heap_setCell _ _ _ _ (fun e => hj (by rw [e]))⟩
          have hne : ∀ g, V2.heap.size ≤ g → some V.heap.size ≠ some g := fun g hg e => by have := lV2.out; cases e; omega
          have P2 : Hid (w5.ownsRow V2.heap.size 82 2 (.slice (some ⟨b, 0, none⟩) ts.length c2) ts.length (cells2 ts)) := own_keep Q2.out G5 (fun g hg => hne g (Q2.out.lt g (by rw [ob_slice]; exact hg)).1)
          have B5 : Hid (Below w.heap.size w w5) := by unfold Hid; rw [← hw5]; exact B4.out.setCell (by have := lV.out; simp; omega) _
          clear G5 hne A4 Q2 B4 K4
          go_wp2
          go_roundw
          case rel => exact ⟨k + 1, by omega, by go_num, A5, P2, B5⟩
          case measure => simp [intOf]; omega
        · have e : k = ts.length := by omega
          have HA3 : Hid (AnB wr V.heap.size (anC ⟨ve, vl, vt, vk, vp, vn, vg, vz, vb, va⟩)) := by have := HA.out; rw [e, List.take_length] at this; rw [HE.out]; exact this
          have hnl : ¬ ((k : Nat) : Int) < (ts.length : Int) := by omega
          clear HA HO2 e hlt hk
          go_wp2_with (first | (refine wpList_load_row rfl 69 (.tmp 2) rfl V.heap.size rfl 69 (anA (anC ⟨ve, vl, vt, vk, vp, vn, vg, vz, vb, va⟩)) (0, 0) _ HA3.out Try.underlying69 rfl (info69 _) ?_) | (refine wpList_store_row rfl 69 (.tmp 2) (.tmp 43) rfl V.heap.size (anA (anC ⟨ve, vl, vt, vk, vp, vn, vg, vz, vb, va⟩)) rfl rfl 69 (anA (anC ⟨ve, vl, vt, vk, vp, vn, vg, vz, vb, va⟩)) HA3.out (info69 _) rfl (anA_one _) ?_))
          exact ret69 Try.results39 rfl rfl (HA3.out.row _) ⟨rfl, row_below HB.out (Nat.le_of_lt lV.out) _⟩

end Go.Proofs.Ytimdoaehlciecaa
