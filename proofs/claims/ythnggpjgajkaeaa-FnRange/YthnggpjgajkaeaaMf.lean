/-
  The climber: each node is come to once at most; what it answers is the tree of the model.
-/
import Derived.Test.YthnggpjgajkaeaaMe
import Derived.Deep.RegionHeld3
namespace Go.Proofs.Ythnggpjgajkaeaa
open Go Go.RowKit
attribute [local go_sem ↓] Go.wp_at_zero Go.wp_at_succ

/-- The climber's cells. -/
def cC (la : Option Addr) (ln lc : Nat) (m : List Bool) (r : Nat) : List Value := .slice la ln lc :: ((m.map Value.bool ++ List.replicate (200 - m.length) (.bool false)) ++ [.int .i64 r])
theorem cC_len {la : Option Addr} {ln lc : Nat} {m : List Bool} {r : Nat} (h : m.length ≤ 200) : (cC la ln lc m r).length = 202 := by simp [cC]; omega
theorem cC_met {la : Option Addr} {ln lc : Nat} {m : List Bool} {r j : Nat} (hj : j < m.length) : (cC la ln lc m r)[1 + j]? = some (.bool (m.getD j true)) := by
  unfold cC
  rw [Nat.add_comm 1 j, List.getElem?_cons_succ, List.getElem?_append_left (by simp; omega), List.getElem?_append_left (by simpa using hj), List.getElem?_map, List.getElem?_eq_getElem hj, List.getD_eq_getElem?_getD, List.getElem?_eq_getElem hj]
  rfl
theorem cC_count {la : Option Addr} {ln lc : Nat} {m : List Bool} {r : Nat} (h : m.length ≤ 200) : (cC la ln lc m r)[201]? = some (.int .i64 r) := by
  unfold cC
  rw [List.getElem?_cons_succ, List.getElem?_append_right (by simp; omega)]
  have : 200 - (m.map Value.bool ++ List.replicate (200 - m.length) (Value.bool false)).length = 0 := by simp; omega
  rw [this]; rfl
theorem cC_setm {la : Option Addr} {ln lc : Nat} {m : List Bool} {r j : Nat} (hj : j < m.length) : (cC la ln lc m r).set (1 + j) (.bool true) = cC la ln lc (m.set j true) r := by
  unfold cC
  rw [Nat.add_comm 1 j, List.set_cons_succ, List.set_append, if_pos (by simp; omega), List.set_append, if_pos (by simpa using hj), ← List.map_set, List.length_set]
theorem cC_setr {la : Option Addr} {ln lc : Nat} {m : List Bool} {r r' : Nat} (h : m.length ≤ 200) : (cC la ln lc m r).set 201 (.int .i64 r') = cC la ln lc m r' := by
  unfold cC
  rw [List.set_cons_succ, List.set_append, if_neg (by simp; omega)]
  have : 200 - (m.map Value.bool ++ List.replicate (200 - m.length) (Value.bool false)).length = 0 := by simp; omega
  rw [this]; rfl
def BoxC (w : World) (cb : Nat) (la : Option Addr) (ln lc : Nat) (m : List Bool) (r : Nat) : Prop := Box w cb 96 (cC la ln lc m r).toArray
theorem BoxC.nodes {w : World} {cb : Nat} {la : Option Addr} {ln lc : Nat} {m : List Bool} {r : Nat} (h : BoxC w cb la ln lc m r) : w.cell? ⟨cb, 0, none⟩ = some (.slice la ln lc) := Box.cell h 0
theorem BoxC.met {w : World} {cb : Nat} {la : Option Addr} {ln lc : Nat} {m : List Bool} {r j : Nat} (h : BoxC w cb la ln lc m r) (hj : j < m.length) : w.cell? ⟨cb, 1 + j, none⟩ = some (.bool (m.getD j true)) := by
  rw [Box.cell h (1 + j), List.getElem?_toArray]; exact cC_met hj
theorem BoxC.count {w : World} {cb : Nat} {la : Option Addr} {ln lc : Nat} {m : List Bool} {r : Nat} (h : BoxC w cb la ln lc m r) (hm : m.length ≤ 200) : w.cell? ⟨cb, 201, none⟩ = some (.int .i64 r) := by
  rw [Box.cell h 201, List.getElem?_toArray]; exact cC_count hm
theorem BoxC.setm {w : World} {cb : Nat} {la : Option Addr} {ln lc : Nat} {m : List Bool} {r j : Nat} (h : BoxC w cb la ln lc m r) (hj : j < m.length) : BoxC (w.setCell ⟨cb, 1 + j, none⟩ (.bool true)) cb la ln lc (m.set j true) r := by
  have := Box.set h (1 + j) (.bool true)
  rw [List.setIfInBounds_toArray, cC_setm hj] at this
  exact this
theorem BoxC.setr {w : World} {cb : Nat} {la : Option Addr} {ln lc : Nat} {m : List Bool} {r r' : Nat} (h : BoxC w cb la ln lc m r) (hm : m.length ≤ 200) : BoxC (w.setCell ⟨cb, 201, none⟩ (.int .i64 r')) cb la ln lc m r' := by
  have := Box.set h 201 (.int .i64 r')
  rw [List.setIfInBounds_toArray, cC_setr hm] at this
  exact this
/-- What climb answers. -/
structure ClYes (L : List ND) (cb : Nat) (la : Option Addr) (ln lc z : Nat) (w : World) (m : List Bool) (at0 : Int) (p : Nat) (f : Fo) (m' : List Bool) (w' : World) : Prop where
  is : C1 L m at0 = some (f, m')
  box : BoxC w' cb la ln lc m' (ln - cnt m')
  rd : RdB w' (fun g => g < z ∨ w.heap.size ≤ g) p (at' L at0).2.1 f
def AnsC (L : List ND) (cb : Nat) (la : Option Addr) (ln lc z : Nat) (w : World) (m : List Bool) (at0 : Int) (e : Ending) (w' : World) : Prop := (e = .returned (.pointer none) ∧ C1 L m at0 = none) ∨ ∃ p f m', e = .returned (.pointer (some ⟨p, 0, none⟩)) ∧ ClYes L cb la ln lc z w m at0 p f m' w'
theorem C1_no {L : List ND} {m : List Bool} {j : Int} (h : okN L m j = false) : C1 L m j = none := by unfold C1; rw [h]; rfl
theorem C1_yes {L : List ND} {m : List Bool} {j : Int} (h : okN L m j = true) : C1 L m j = CL L (m.set j.toNat true) (at' L j).2.2 := by unfold C1; rw [h]; rfl
/-- What is given of the nodes. -/
structure NodesIn (w0 : World) (la : Option Addr) (ln : Nat) (vs : List TNode) : Prop where
  rd : RdN w0 la ln vs
  few : ln ≤ 200
  fit : ∀ i, i < ln → FitN (vs.getD i zeroN)
  nil : ∀ i, i < ln → (vs.getD i zeroN).ka = none → (vs.getD i zeroN).kc = 0
theorem at_says {vs : List TNode} {j : Nat} (h : j < vs.length) : at' (vs.map saysN) (j : Int) = saysN (vs.getD j zeroN) := by
  unfold at'
  rw [Int.toNat_natCast, List.getD_eq_getElem?_getD, List.getElem?_map, List.getElem?_eq_getElem h, List.getD_eq_getElem?_getD, List.getElem?_eq_getElem h]
  rfl
def AA (z pb : Nat) (ia : Option Addr) (g : Nat) : Prop := (g < z ∨ pb < g) ∧ ob ia ≠ some g
theorem Inn.keepC {w w' : World} {cb z b : Nat} (h : Inn cb (cb + 1) w w') (hz : z ≤ cb) (hb : cb < b) : ∀ g, g < w.heap.size → (g < z ∨ b ≤ g) → w'.heap[g]? = w.heap[g]? := fun g hg hA => h.block g hg (by omega)
theorem drop_cons_int {js : List Int} {n : Nat} (h : n < js.length) : js.drop n = js.getD n 0 :: js.drop (n + 1) := by
  rw [List.drop_eq_getElem_cons h, List.getD_eq_getElem?_getD, List.getElem?_eq_getElem h]; rfl
theorem infoPtr : (Try.prog.info? 57).map (fun i => (i.zero, i.size, i.bytes)) = some (some (Value.pointer none), 1, 8) := by kernel_rfl
theorem ptr_one (us : List Nat) : ∀ u ∈ us.map ptr, u.oneCell' = true := map_one _ (fun _ => rfl) _
theorem RdS.own {w : World} {base e n : Nat} {a : Option Addr} {cap : Nat} {xs : List Value} (h : w.ownsRow base e 1 (.slice a n cap) n xs) {A : Nat → Prop} (hA : ∀ g, ob a = some g → A g) : RdS w A a n xs := by
  have r := RdV.own h
  refine ⟨r.1, fun hn => ?_⟩
  obtain ⟨b, off, rfl, hl, hc⟩ := r.2 hn
  exact ⟨b, off, rfl, hl, hA b rfl, hc⟩

theorem Inn.grownR {B E : Nat} {w wr w' : World} {row : Option Nat} (h : Inn B E w wr) (g : wr.grownBy w' row) (hr : ∀ x, row = some x → w.heap.size ≤ x) : Inn B E w w' :=
  ⟨g.os.trans h.os, g.tape.trans h.tape, g.output.trans h.output, Nat.le_trans h.size g.size, fun k hk ho => (g.block k (Nat.lt_of_lt_of_le hk h.size) (fun e => by have := hr k e.symm; omega)).trans (h.block k hk ho)⟩
theorem Inn.setR {B E : Nat} {w wr : World} (h : Inn B E w wr) (p : Addr) (v : Value) (hp : w.heap.size ≤ p.block ∨ (B ≤ p.block ∧ p.block < E)) : Inn B E w (wr.setCell p v) :=
  ⟨h.os, h.tape, h.output, by have := h.size; simpa using this, fun k hk ho => (Below.heap_setCell wr p v k (by omega)).trans (h.block k hk ho)⟩
theorem own_blk {w : World} {base e size n m c : Nat} {a : Option Addr} {xs : List Value} (h : w.ownsRow base e size (.slice a m c) n xs) : ∀ g, ob a = some g → base ≤ g ∧ g < w.heap.size := by
  intro g hg
  rcases own_form h with ⟨h1, _⟩ | ⟨g', cp, h1, h2, h3⟩
  · cases h1; cases hg
  · cases h1; cases hg; exact ⟨h2, h3⟩
set_option maxRecDepth 100000 in
set_option maxHeartbeats 20000000 in
theorem c_climb (w0 : World) (la : Option Addr) (ln lc : Nat) (vs : List TNode) (cb : Nat) (hin : NodesIn w0 la ln vs) (hz : w0.heap.size ≤ cb) :
    ∀ (N : Nat) (m : List Bool) (at0 : Int) (w : World), cnt m < N → m.length = ln → Below w0.heap.size w0 w → BoxC w cb la ln lc m (ln - cnt m) →
    Calls Try.prog 72 #[.pointer (some ⟨cb, 0, none⟩), .int .i64 at0] w fun e w' => AnsC (vs.map saysN) cb la ln lc w0.heap.size w m at0 e w' ∧ Inn cb (cb + 1) w w' := by
  intro N
  induction N with
  | zero => intro m at0 w h; exact absurd h (by omega)
  | succ N ih =>
    intro m at0 w hN hm hB0 hX
    have hfew := hin.few
    have hvl : vs.length = ln := hin.rd.1
    have HVL : Hid (vs.length = ln) := hvl
    have hml : m.length ≤ 200 := by omega
    have IH : Hid (∀ (m : List Bool) (at0 : Int) (w : World), cnt m < N → m.length = ln → Below w0.heap.size w0 w → BoxC w cb la ln lc m (ln - cnt m) → Calls Try.prog 72 #[.pointer (some ⟨cb, 0, none⟩), .int .i64 at0] w fun e w' => AnsC (vs.map saysN) cb la ln lc w0.heap.size w m at0 e w' ∧ Inn cb (cb + 1) w w') := ih
    have HB0 : Hid (Below w0.heap.size w0 w) := hB0
    have HX : Hid (BoxC w cb la ln lc m (ln - cnt m)) := hX
    have HM : Hid (m.length = ln) := hm
    have HIN : Hid (NodesIn w0 la ln vs) := hin
    have HCN : Hid (cnt m < N + 1) := hN
    have x0 := hX.nodes
    have hLl : (vs.map saysN).length = ln := by rw [List.length_map]; exact hvl
    clear ih hB0 hN
    by_cases h1 : at0 < 0
    · have HO : Hid (C1 (vs.map saysN) m at0 = none) := C1_no (by unfold okN inM; rw [decide_eq_false (by omega)]; rfl)
      clear hX hm hin hvl hLl
      go_enter Try.func72, Try.ntmps72
      go_wp2
      go_ret
      exact ⟨.inl ⟨rfl, HO.out⟩, Inn.of_below (Below.refl _ _)⟩
    · by_cases h2 : (ln : Int) ≤ at0
      · have HO : Hid (C1 (vs.map saysN) m at0 = none) := C1_no (by unfold okN inM; rw [hLl, decide_eq_false (show ¬ at0 < (ln : Int) by omega)]; simp)
        clear hX hm hin hvl hLl
        go_enter Try.func72, Try.ntmps72
        go_wp2
        go_ret
        exact ⟨.inl ⟨rfl, HO.out⟩, Inn.of_below (Below.refl _ _)⟩
      · obtain ⟨j, rfl⟩ : ∃ j : Nat, at0 = j := ⟨at0.toNat, by omega⟩
        have hj : j < ln := by omega
        have y1 := hX.met (j := j) (by omega)
        have hmd : (m.getD j true) = m.getD j true := rfl
        cases hmj : m.getD j true
        · obtain ⟨nb, noff, hla, hnb, hcs⟩ := hin.rd.2.1 (by omega)
          obtain ⟨d0, d1, d2⟩ := hcs j hj
          have I1 := hin.rd.2.2 j hj
          have FG := hin.fit j hj
          have NI := hin.nil j hj
          have SA := at_says (vs := vs) (j := j) (by omega)
          obtain ⟨⟨lf, ka, kn, kc, ks, ia, im, ic, js⟩, hv⟩ : ∃ v, v = vs.getD j zeroN := ⟨_, rfl⟩
          rw [← hv] at d0 d1 d2 I1 FG NI SA
          dsimp only at d0 d1 d2 NI
          have r1 : RdV w0 ka kn (ks.map Value.string) := I1.1
          have r2 : RdV w0 ia im (js.map (Value.int .i64)) := I1.2
          have hkn : ks.length = kn := by have := r1.1; simpa using this
          have him : js.length = im := by have := r2.1; simpa using this
          have f1 : kn ≤ 1048576 := FG.1
          have f2 : im ≤ 1048576 := FG.2.1
          have HSA : Hid (at' (vs.map saysN) (j : Int) = (lf, ks, js)) := SA
          have e0 := (HB0.out.cell (p := ⟨nb, noff + j * 3, none⟩) hnb).trans d0
          have e1 := (HB0.out.cell (p := ⟨nb, noff + j * 3 + 1, none⟩) hnb).trans d1
          have e2 := (HB0.out.cell (p := ⟨nb, noff + j * 3 + 2, none⟩) hnb).trans d2
          have D1 : Hid (w0.cell? ⟨nb, noff + j * 3 + 1, none⟩ = some (.slice ka kn kc)) := d1
          have D2 : Hid (w0.cell? ⟨nb, noff + j * 3 + 2, none⟩ = some (.slice ia im ic)) := d2
          have HIM : Hid (inM (vs.map saysN) m (j : Int) = true) := by
            unfold Hid inM
            rw [hLl, decide_eq_true (show (0 : Int) ≤ (j : Int) by omega), decide_eq_true (show (j : Int) < (ln : Int) by omega), Int.toNat_natCast, hmj]
            rfl
          have C := c_isNode lf ka kn kc ia im ic w f1 f2
          subst hla
          rw [hmj] at y1
          have HR1 : Hid (RdV w0 ka kn (ks.map Value.string)) := r1
          have HR2 : Hid (RdV w0 ia im (js.map (Value.int .i64))) := r2
          have HKN : Hid (ks.length = kn) := hkn
          have HJS : Hid (js.length = im) := him
          have HNI : Hid (ka = none → kc = 0) := NI
          have HMJ : Hid (m.getD j true = false) := hmj
          cases htn : tnB lf kn im
          · have HO : Hid (C1 (vs.map saysN) m (j : Int) = none) := C1_no (by unfold okN; rw [isTN_eq, HSA.out]; dsimp only; rw [HKN.out, HJS.out, htn]; simp)
            rw [htn] at C
            clear hX hm hin hvl hLl hcs d0 d1 d2 I1 FG NI SA hv r1 r2 hkn him hmj htn hmd
            go_enter Try.func72, Try.ntmps72
            go_wp2_with fail
            refine C.mono ?_
            rintro e w1 ⟨rfl, hb1⟩
            have B1 : Hid (Below w.heap.size w w1) := hb1
            clear hb1 C
            go_wp2
            go_ret
            exact ⟨.inl ⟨rfl, HO.out⟩, Inn.of_below B1.out⟩
          · rw [htn] at C
            have HOK : okN (vs.map saysN) m (j : Int) = true := by unfold okN; rw [HIM.out, isTN_eq, HSA.out]; dsimp only; rw [HKN.out, HJS.out, htn]; rfl
            obtain ⟨m1, hm1⟩ : ∃ m1, m.set j true = m1 := ⟨_, rfl⟩
            have HC1 : Hid (C1 (vs.map saysN) m (j : Int) = CL (vs.map saysN) m1 js) := by unfold Hid; rw [C1_yes HOK, HSA.out, Int.toNat_natCast, hm1]
            have hc1 : cnt m1 + 1 = cnt m := by rw [← hm1]; exact cnt_set m j HMJ.out
            have hm1l : m1.length = ln := by rw [← hm1, List.length_set]; exact hm
            have hcl : cnt m ≤ ln := by rw [← hm]; exact List.count_le_length
            obtain ⟨r, hr⟩ : ∃ r, ln - cnt m = r := ⟨_, rfl⟩
            have hr1 : ln - cnt m1 = r + 1 := by omega
            have hrs : r ≤ 200 := by omega
            have HM1 : Hid (m.set j true = m1) := hm1
            have HM1L : Hid (m1.length = ln) := hm1l
            have HCC : Hid (cnt m1 < N) := by unfold Hid; have := HCN.out; omega
            have HR1' : Hid (ln - cnt m1 = r + 1) := hr1
            rw [hr] at HX
            clear hX hm hin hvl hLl hcs d0 d1 d2 I1 FG NI SA hv r1 r2 hkn him hmj htn hmd HOK HIM hm1 hc1 hm1l hcl hr hr1 HCN
            go_enter Try.func72, Try.ntmps72
            go_wp2_with fail
            refine C.mono ?_
            rintro e w1 ⟨rfl, hb1⟩
            have X1 : BoxC w1 cb (some ⟨nb, noff, none⟩) ln lc m r := Box.belowS HX.out hb1
            have I1 : Inn cb (cb + 1) w w1 := Inn.of_below hb1
            have c1m : w1.cell? ⟨cb, 1 + j, none⟩ = some (.bool false) := by rw [X1.met (by rw [HM.out]; exact hj), HMJ.out]
            have t1m : w1.frozen? ⟨cb, 1 + j, none⟩ = false := Box.thaw X1 (1 + j)
            obtain ⟨V1, hV1⟩ : ∃ V, w1.setCell ⟨cb, 1 + j, none⟩ (.bool true) = V := ⟨_, rfl⟩
            have XV1 : BoxC V1 cb (some ⟨nb, noff, none⟩) ln lc m1 r := by rw [← hV1, ← HM1.out]; exact X1.setm (by rw [HM.out]; exact hj)
            have IV1 : Inn cb (cb + 1) w V1 := by rw [← hV1]; exact I1.setR _ _ (.inr (by dsimp only; omega))
            have c2r : V1.cell? ⟨cb, 201, none⟩ = some (.int .i64 r) := XV1.count (by rw [HM1L.out]; exact hfew)
            have t2r : V1.frozen? ⟨cb, 201, none⟩ = false := Box.thaw XV1 201
            obtain ⟨V2, hV2⟩ : ∃ V, V1.setCell ⟨cb, 201, none⟩ (.int .i64 ((r : Int) + 1)) = V := ⟨_, rfl⟩
            have XV2 : BoxC V2 cb (some ⟨nb, noff, none⟩) ln lc m1 (r + 1) := by rw [← hV2]; exact XV1.setr (r' := r + 1) (by rw [HM1L.out]; exact hfew)
            have IV2 : Inn cb (cb + 1) w V2 := by rw [← hV2]; exact IV1.setR _ _ (.inr (by dsimp only; omega))
            have B02 : Below w0.heap.size w0 V2 := HB0.out.trans (IV2.below hz HB0.out.size)
            have c30 : V2.cell? ⟨cb, 0, none⟩ = some (.slice (some ⟨nb, noff, none⟩) ln lc) := XV2.nodes
            have c31 : V2.cell? ⟨nb, noff + j * 3 + 1, none⟩ = some (.slice ka kn kc) := (B02.cell (p := ⟨nb, noff + j * 3 + 1, none⟩) hnb).trans D1.out
            obtain ⟨V3, hV3⟩ : ∃ V, V2.alloc (.cells #[.slice ka kn kc, .slice none 0 0, .int .i64 0] 88) = V := ⟨_, rfl⟩
            have bV3 : Below V2.heap.size V2 V3 := by rw [← hV3]; exact (Below.refl _ _).alloc (Nat.le_refl _) _
            have XV3 : Hid (BoxC V3 cb (some ⟨nb, noff, none⟩) ln lc m1 (r + 1)) := Box.belowS XV2 bV3
            have PV3 : Hid (Box V3 V2.heap.size 88 #[.slice ka kn kc, .slice none 0 0, .int .i64 0]) := by unfold Hid; rw [← hV3]; exact Box.new _ _ _
            have IV3 : Hid (Inn cb (cb + 1) w V3) := ⟨bV3.os.trans IV2.os, bV3.tape.trans IV2.tape, bV3.output.trans IV2.output, Nat.le_trans IV2.size bV3.size, fun k hk ho => (bV3.block k (Nat.lt_of_lt_of_le hk IV2.size)).trans (IV2.block k hk ho)⟩
            have B03 : Below w0.heap.size w0 V3 := HB0.out.trans (IV3.out.below hz HB0.out.size)
            have c40 : V3.cell? ⟨cb, 0, none⟩ = some (.slice (some ⟨nb, noff, none⟩) ln lc) := XV3.out.nodes
            have c42 : V3.cell? ⟨nb, noff + j * 3 + 2, none⟩ = some (.slice ia im ic) := (B03.cell (p := ⟨nb, noff + j * 3 + 2, none⟩) hnb).trans D2.out
            have hcbV : Hid (cb < V2.heap.size) := Box.lt XV2
            have hwV : Hid (w.heap.size ≤ V2.heap.size) := IV2.size
            have hsV3 : Hid (V3.heap.size = V2.heap.size + 1) := by unfold Hid; rw [← hV3]; simp
            have g1 : (0 : Int) ≤ (j : Int) := by omega
            have g2 : (j : Int) < (ln : Int) := by omega
            have g3 : (j : Int) < 200 := by omega
            clear hb1 X1 I1 XV1 IV1 XV2 IV2 B02 bV3 B03 C
            go_wp2
            clear hV1 hV2 hV3 c1m t1m c2r t2r c30 c31 c40 c42 e0 e1 e2 y1 x0
            go_loopw [70] (fun i wr => ∃ (n : Nat) (f : Fo) (mk : List Bool) (ra : Option Addr) (rc : Nat) (qs : List Nat), n ≤ im ∧ i = .int .i64 n ∧ Hid (f.len = n) ∧ Hid (CL (vs.map saysN) m1 js = preC f (CL (vs.map saysN) mk (js.drop n))) ∧ Hid (mk.length = ln) ∧ Hid (cnt mk ≤ cnt m1) ∧ Hid (BoxC wr cb (some ⟨nb, noff, none⟩) ln lc mk (ln - cnt mk)) ∧ Hid (Box wr V2.heap.size 88 #[.slice ka kn kc, .slice ra n rc, .int .i64 0]) ∧ Hid (wr.ownsRow (V2.heap.size + 1) 57 1 (.slice ra n rc) n (qs.map ptr)) ∧ Hid (RdF wr (AA w0.heap.size V2.heap.size ra) f qs) ∧ Hid (Inn cb (cb + 1) w wr)) (fun i _ => im - (intOf i).toNat)
            case atStart => exact ⟨0, .nil, m1, none, 0, [], by omega, rfl, rfl, by unfold Hid; rw [List.drop_zero]; cases CL (vs.map saysN) m1 js with | none => rfl | some p => rfl, HM1L.out, Nat.le_refl _, by unfold Hid; rw [HR1'.out]; exact XV3.out, PV3.out, World.ownsRow_nil _ _ _ _, rfl, IV3.out⟩
            case round =>
              obtain ⟨n, f, mk, ra, rc, qs, hn, rfl, HFL, HCL, HML, HCK, HXr, HPr, HOr, HFr, HIr⟩ := hrel
              by_cases hlt : n < im
              · obtain ⟨ib, ioff, rfl, hil, hic⟩ := HR2.out.2 (by omega)
                have B0r : Below w0.heap.size w0 wr := HB0.out.trans (HIr.out.below hz HB0.out.size)
                have d0 : wr.cell? ⟨ib, ioff + n, none⟩ = some (.int .i64 (js.getD n 0)) := by rw [B0r.cell (p := ⟨ib, ioff + n, none⟩) hil, hic n hlt]; exact map_get _ _ _ _ (by rw [HJS.out]; exact hlt)
                have hdr := drop_cons_int (js := js) (n := n) (by rw [HJS.out]; exact hlt)
                obtain ⟨pl, hpl⟩ : ∃ pl, js.getD n 0 = pl := ⟨_, rfl⟩
                rw [hpl] at d0 hdr
                have HDR : Hid (js.drop n = pl :: js.drop (n + 1)) := hdr
                have CC := IH.out mk pl wr (by have := HCC.out; have := HCK.out; omega) HML.out B0r HXr.out
                clear hic hdr hpl B0r
                go_wp2_with fail
                refine CC.mono ?_
                rintro e w2 ⟨hans, hI2⟩
                have HI2 : Hid (Inn cb (cb + 1) w w2) := HIr.out.trans hI2
                rcases hans with ⟨rfl, hno⟩ | ⟨q, l, m2, rfl, hy⟩
                · have HO : Hid (C1 (vs.map saysN) m (j : Int) = none) := by unfold Hid; rw [HC1.out, HCL.out, HDR.out, CL_none _ hno]; rfl
                  clear CC hno hI2 d0
                  go_wp2
                  go_ret
                  exact ⟨.inl ⟨rfl, HO.out⟩, HI2.out⟩
                · have HY : Hid (ClYes (vs.map saysN) cb (some ⟨nb, noff, none⟩) ln lc w0.heap.size wr mk pl q l m2 w2) := hy
                  have hrd := hy.rd
                  obtain ⟨hql, hqA, ka', kc', ia2, ic2, pl2, us, c0, c1, c2, s0, sn, s1, hF⟩ := hrd
                  have HS := CL_some (js.drop (n + 1)) hy.is
                  obtain ⟨ks', hks'⟩ : ∃ k, (at' (vs.map saysN) pl).2.1 = k := ⟨_, rfl⟩
                  rw [hks'] at c0 HS
                  have HKS : Hid ((at' (vs.map saysN) pl).2.1 = ks') := hks'
                  have HSS : Hid (CL (vs.map saysN) mk (pl :: js.drop (n + 1)) = if ks' = [] then none else joinC ks' l (CL (vs.map saysN) m2 (js.drop (n + 1)))) := HS
                  have hk4 : ks'.length ≤ 4 := by rw [← hks']; exact (C1_wf hy.is).2.1
                  obtain ⟨K', hK'⟩ : ∃ k, ks'.length = k := ⟨_, rfl⟩
                  rw [hK'] at c0 hk4
                  have HK' : Hid (ks'.length = K') := hK'
                  have H2 : Hid (Inn cb (cb + 1) wr w2) := hI2
                  clear hy hqA c1 c2 s0 sn s1 hF HS hks' hK' hI2 CC d0
                  by_cases hk0 : K' = 0
                  · have HO : Hid (C1 (vs.map saysN) m (j : Int) = none) := by
                      unfold Hid
                      rw [HC1.out, HCL.out, HDR.out, HSS.out, if_pos (List.eq_nil_of_length_eq_zero (by rw [HK'.out]; exact hk0))]
                      rfl
                    have q1 : ((K' : Int) == 0) = true := by simp; omega
                    clear hk0
                    go_wp2
                    go_ret
                    exact ⟨.inl ⟨rfl, HO.out⟩, HI2.out⟩
                  · have HNE : Hid (ks' ≠ []) := fun e => hk0 (by rw [← HK'.out, e]; rfl)
                    have q1 : ((K' : Int) == 0) = false := by simp; omega
                    have lPr : V2.heap.size < wr.heap.size := HPr.out.lt
                    have P2 : Hid (Box w2 V2.heap.size 88 #[.slice ka kn kc, .slice ra n rc, .int .i64 0]) := HPr.out.inn H2.out (by have := hcbV.out; omega)
                    have ob1 := own_blk HOr.out
                    have OB1 : Hid (∀ g, ob ra = some g → V2.heap.size + 1 ≤ g ∧ g < wr.heap.size) := ob1
                    have O2 : Hid (w2.ownsRow (V2.heap.size + 1) 57 1 (.slice ra n rc) n (qs.map ptr)) := own_same HOr.out fun g hg => by rw [ob_slice] at hg; have := ob1 g hg; have := hcbV.out; exact H2.out.block g (by omega) (by omega)
                    have x21 : w2.cell? ⟨V2.heap.size, 1, none⟩ = some (.slice ra n rc) := P2.out.cell 1
                    obtain ⟨V4, hV4⟩ : ∃ V, w2.alloc (.cells #[.pointer (some ⟨q, 0, none⟩)] 57) = V := ⟨_, rfl⟩
                    have b4 : Below w2.heap.size w2 V4 := by rw [← hV4]; exact (Below.refl _ _).alloc (Nat.le_refl _) _
                    have P4 : Hid (Box V4 V2.heap.size 88 #[.slice ka kn kc, .slice ra n rc, .int .i64 0]) := P2.out.belowS b4
                    have O4 : Hid (V4.ownsRow (V2.heap.size + 1) 57 1 (.slice ra n rc) n (qs.map ptr)) := own_below O2.out b4
                    have S4 : V4.heap.size = w2.heap.size + 1 := by rw [← hV4]; simp
                    have c4 : V4.cell? ⟨w2.heap.size, 0, none⟩ = some (.pointer (some ⟨q, 0, none⟩)) := by rw [← hV4]; exact (Box.new _ _ _).cell 0
                    have sV4 : V2.heap.size + 1 ≤ V4.heap.size := by have := H2.out.size; omega
                    have B4 : Hid (Below w2.heap.size w2 V4) := b4
                    obtain ⟨i0, hi, hz0, hz1, hz2⟩ := info_parts infoPtr
                    have HS4 : Hid (V4.heap.size = w2.heap.size + 1) := S4
                    have HC4 : Hid (V4.cell? ⟨w2.heap.size, 0, none⟩ = some (.pointer (some ⟨q, 0, none⟩))) := c4
                    have hn3 : n ≤ 1048576 := by omega
                    clear ob1 b4 S4 c4 hk0
                    go_wp2_with (at_builtin; refine app_any _ rfl (.tmp 91) (.tmp 93) 84 rfl (V2.heap.size + 1) 57 i0 (.pointer none) 1 8 Try.underlying84 hi hz0 hz1 hz2 rfl (by omega) (.slice ra n rc) n (qs.map ptr) rfl O4.out (some ⟨w2.heap.size, 0, none⟩) 1 1 [.pointer (some ⟨q, 0, none⟩)] rfl (fun h => by cases h) rfl (fun ad e => by cases e; intro k u hu; cases k with | zero => (cases hu; exact HC4.out) | succ k => simp at hu) (by intro u hu; simp at hu; subst hu; rfl) (by unfold maxLen; omega) (by omega) sV4 ?_; intro a5 c5 w5 ho5 hg5 hx5; have P5 : Hid (Box w5 V2.heap.size 88 #[.slice ka kn kc, .slice ra n rc, .int .i64 0]) := P4.out.grown hg5 (fun e => by rw [ob_slice] at e; have := (OB1.out _ e).1; omega); have x51 : w5.cell? ⟨V2.heap.size, 1, none⟩ = some (.slice ra n rc) := P5.out.cell 1; have t51 := P5.out.thaw 1)
                    have X5 : Hid (BoxC w5 cb (some ⟨nb, noff, none⟩) ln lc m2 (ln - cnt m2)) := Box.grown (Box.belowS HY.out.box B4.out) hg5 (fun e => by rw [ob_slice] at e; have := (OB1.out _ e).1; have := hcbV.out; omega)
                    have I5 : Hid (Inn cb (cb + 1) w (w5.setCell ⟨V2.heap.size, 1, none⟩ (.slice a5 (n + 1) c5))) := by
                      have k1 : Inn cb (cb + 1) w V4 := ⟨B4.out.os.trans HI2.out.os, B4.out.tape.trans HI2.out.tape, B4.out.output.trans HI2.out.output, Nat.le_trans HI2.out.size B4.out.size, fun k hk ho => (B4.out.block k (Nat.lt_of_lt_of_le hk HI2.out.size)).trans (HI2.out.block k hk ho)⟩
                      exact (k1.grownR hg5 (fun x e => by rw [ob_slice] at e; have := (OB1.out _ e).1; have := hwV.out; omega)).setR _ _ (.inl hwV.out)
                    have obn : ∀ g, ob a5 = some g → V2.heap.size + 1 ≤ g ∧ (ob ra = some g ∨ g = w2.heap.size + 1) := fun g hg => ⟨(own_blk ho5 g hg).1, (hx5 g hg).elim (fun h => .inl (by rw [ob_slice] at h; exact h)) (fun h => .inr (by rw [h]; exact HS4.out))⟩
                    have sm : ∀ g, g < w2.heap.size → g ≠ V2.heap.size → ob ra ≠ some g → (w5.setCell ⟨V2.heap.size, 1, none⟩ (.slice a5 (n + 1) c5)).heap[g]? = w2.heap[g]? := fun g hg h1 h2 => by
                      rw [Below.heap_setCell _ _ _ _ h1, hg5.block g (by have := HS4.out; omega) (by rw [ob_slice]; exact fun e => h2 e.symm)]
                      exact B4.out.block g hg
                    have sz5 : w2.heap.size ≤ (w5.setCell ⟨V2.heap.size, 1, none⟩ (.slice a5 (n + 1) c5)).heap.size := by have := hg5.size; have := B4.out.size; simp; omega
                    have XV : Hid (BoxC (w5.setCell ⟨V2.heap.size, 1, none⟩ (.slice a5 (n + 1) c5)) cb (some ⟨nb, noff, none⟩) ln lc m2 (ln - cnt m2)) := Box.setOther X5.out _ _ (by have := hcbV.out; dsimp only; omega)
                    have PV : Hid (Box (w5.setCell ⟨V2.heap.size, 1, none⟩ (.slice a5 (n + 1) c5)) V2.heap.size 88 #[.slice ka kn kc, .slice a5 (n + 1) c5, .int .i64 0]) := P5.out.set 1 _
                    have OV : Hid ((w5.setCell ⟨V2.heap.size, 1, none⟩ (.slice a5 (n + 1) c5)).ownsRow (V2.heap.size + 1) 57 1 (.slice a5 (n + 1) c5) (n + 1) ((qs ++ [q]).map ptr)) := by
                      unfold Hid
                      rw [List.map_append]
                      exact own_same ho5 fun g hg => by rw [ob_slice] at hg; have := (obn g hg).1; exact Below.heap_setCell _ _ _ _ (by dsimp only; omega)
                    have FV : Hid (RdF (w5.setCell ⟨V2.heap.size, 1, none⟩ (.slice a5 (n + 1) c5)) (AA w0.heap.size V2.heap.size a5) (f.app (.node ks' l .nil)) (qs ++ [q])) := by
                      have hcv := hcbV.out
                      refine RdF.app (RdF.keep (w := wr) (A := AA w0.heap.size V2.heap.size ra) (Nat.le_trans H2.out.size sz5) (fun g hg hA => ?_) HFr.out) (RdB.keep (w := w2) (A := fun g => g < w0.heap.size ∨ wr.heap.size ≤ g) (by rw [← HKS.out]; exact HY.out.rd) sz5 fun g hg hA => ?_)
                      · have h1 := hA.1
                        refine ⟨(sm g (Nat.lt_of_lt_of_le hg H2.out.size) (by omega) hA.2).trans (H2.out.block g hg (by omega)), hA.1, fun e => ?_⟩
                        rcases (obn g e).2 with h | h
                        · exact hA.2 h
                        · have := H2.out.size; omega
                      · have h3 : ob ra ≠ some g := fun e => by have := OB1.out g e; omega
                        refine ⟨sm g hg (by omega) h3, ?_, fun e => ?_⟩
                        · rcases hA with h | h
                          · exact .inl h
                          · exact .inr (by omega)
                        · rcases (obn g e).2 with h | h
                          · exact h3 h
                          · omega
                    have HCL' : Hid (CL (vs.map saysN) m1 js = preC (f.app (.node ks' l .nil)) (CL (vs.map saysN) m2 (js.drop (n + 1)))) := by
                      unfold Hid
                      rw [HCL.out, HDR.out, HSS.out, if_neg HNE.out, preC_join]
                    have HM2 : Hid (m2.length = ln ∧ cnt m2 ≤ cnt m1) := by
                      have q := C1_facts HY.out.is
                      exact ⟨q.1.trans HML.out, by have := HCK.out; omega⟩
                    clear ho5 hg5 hx5 P5 x51 t51 obn sm X5 O4 P4 B4 O2 P2
                    go_roundw
                    case rel => exact ⟨n + 1, f.app (.node ks' l .nil), m2, a5, c5, qs ++ [q], by omega, by go_num, by unfold Hid; rw [Fo.len_step, HFL.out], HCL'.out, HM2.out.1, HM2.out.2, XV.out, PV.out, OV.out, FV.out, I5.out⟩
                    case measure => simp [intOf]; omega
              · have e : n = im := by omega
                subst e
                go_wp2
                go_ret
                refine ⟨.inr ⟨_, f, mk, rfl, ?_, HXr.out, ?_⟩, HIr.out⟩
                · rw [HC1.out, HCL.out, List.drop_eq_nil_of_le (by rw [HJS.out]; omega), CL_nil, preC, Fo.app_nil]
                · rw [HSA.out]
                  dsimp only
                  refine ⟨HPr.out.lt, .inr hwV.out, ka, kc, ra, rc, 0, qs, ?_, ?_, HPr.out.cell 2, ?_, HNI.out, ?_, ?_⟩
                  · rw [HKN.out]; exact HPr.out.cell 0
                  · rw [HFL.out]; exact HPr.out.cell 1
                  · rw [HKN.out]
                    have B0r : Below w0.heap.size w0 wr := HB0.out.trans (HIr.out.below hz HB0.out.size)
                    exact (RdS.of (A := fun g => g < w0.heap.size) HR1.out (fun _ h => h)).keep B0r.size fun g hg _ => ⟨B0r.block g hg, .inl hg⟩
                  · rw [HFL.out]
                    exact RdS.own HOr.out fun g hg => .inr (by have := (own_blk HOr.out g hg).1; have := hwV.out; omega)
                  · exact RdF.keep (Nat.le_refl _) (fun g _ hA => ⟨rfl, hA.1.elim .inl fun h => .inr (by have := hwV.out; omega)⟩) HFr.out
        · have HO : Hid (C1 (vs.map saysN) m (j : Int) = none) := C1_no (by unfold okN inM; rw [Int.toNat_natCast, hmj]; simp)
          rw [hmj] at y1
          clear hX hm hin hvl hLl hmj hmd
          go_enter Try.func72, Try.ntmps72
          go_wp2
          go_ret
          exact ⟨.inl ⟨rfl, HO.out⟩, Inn.of_below (Below.refl _ _)⟩

end Go.Proofs.Ythnggpjgajkaeaa
