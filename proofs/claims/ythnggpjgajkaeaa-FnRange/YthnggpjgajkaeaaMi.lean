/-
  The specification's walk over a tree: what it answers.
-/
import Derived.Test.YthnggpjgajkaeaaMh
import Derived.Test.YthnggpjgajkaeaaMf
namespace Go.Proofs.Ythnggpjgajkaeaa
open Go Go.RowKit
attribute [local go_sem ↓] Go.wp_at_zero Go.wp_at_succ

structure WRes (L : List ND) (ro : Int) (xb sb : Nat) (la : Option Addr) (ln lc z N : Nat) (w : World) (m : List Bool) (k : Int) (K : List ByteArray) (ya : Option Addr) (d : Nat) (m' : List Bool) (ok' : Bool) (K' : List ByteArray) (ya' : Option Addr) (yc' : Nat) (w' : World) : Prop where
  dN : d ≤ N
  lk : Lk w' xb sb ro la ln lc z m' ok' K' ya' yc'
  fr : Fr xb sb ya ya' w w'
  grew : K.length ≤ K'.length
  cm : cnt m' ≤ cnt m
  ml : m'.length = ln
  kb : K'.length + 4 * cnt m' ≤ 4 * ln
  yes : ok' = true → ∃ f, WFine L ro m k f m' d ∧ K' = K ++ allT (at' L k).2.1 f
  no : ok' = false → WNot L ro m k
def AnsW (L : List ND) (ro : Int) (xb sb : Nat) (la : Option Addr) (ln lc z N : Nat) (w : World) (m : List Bool) (k : Int) (K : List ByteArray) (ya : Option Addr) (e : Ending) (w' : World) : Prop :=
  ∃ (d : Nat) (m' : List Bool) (ok' : Bool) (K' : List ByteArray) (ya' : Option Addr) (yc' : Nat), e = .returned (.int .i64 d) ∧ WRes L ro xb sb la ln lc z N w m k K ya d m' ok' K' ya' yc' w'
theorem AnsW.bad {L : List ND} {ro : Int} {xb sb : Nat} {la : Option Addr} {ln lc z N : Nat} {w : World} {m : List Bool} {k : Int} {K : List ByteArray} {ya : Option Addr} {m' : List Bool} {K' : List ByteArray} {ya' : Option Addr} {yc' : Nat} {w' : World} (lk : Lk w' xb sb ro la ln lc z m' false K' ya' yc') (fr : Fr xb sb ya ya' w w') (grew : K.length ≤ K'.length) (cm : cnt m' ≤ cnt m) (ml : m'.length = ln) (kb : K'.length + 4 * cnt m' ≤ 4 * ln) (no : WNot L ro m k) (d : Nat) (hd : d ≤ N) : AnsW L ro xb sb la ln lc z N w m k K ya (.returned (.int .i64 d)) w' :=
  ⟨d, m', false, K', ya', yc', rfl, hd, lk, fr, grew, cm, ml, kb, fun h => (by cases h), fun _ => no⟩
theorem AnsW.good {L : List ND} {ro : Int} {xb sb : Nat} {la : Option Addr} {ln lc z N : Nat} {w : World} {m : List Bool} {k : Int} {K : List ByteArray} {ya : Option Addr} {m' : List Bool} {K' : List ByteArray} {ya' : Option Addr} {yc' : Nat} {w' : World} {d : Nat} {f : Fo} (lk : Lk w' xb sb ro la ln lc z m' true K' ya' yc') (fr : Fr xb sb ya ya' w w') (grew : K.length ≤ K'.length) (cm : cnt m' ≤ cnt m) (ml : m'.length = ln) (kb : K'.length + 4 * cnt m' ≤ 4 * ln) (yes : WFine L ro m k f m' d) (hK : K' = K ++ allT (at' L k).2.1 f) (hd : d ≤ N) : AnsW L ro xb sb la ln lc z N w m k K ya (.returned (.int .i64 d)) w' :=
  ⟨d, m', true, K', ya', yc', rfl, hd, lk, fr, grew, cm, ml, kb, fun _ => ⟨f, yes, hK⟩, fun h => (by cases h)⟩
/-- The loop over kids. -/
def WLoop (L : List ND) (ro : Int) (xb sb lb : Nat) (la : Option Addr) (ln lc z N : Nat) (w : World) (m m1 : List Bool) (k : Int) (ks : List ByteArray) (js : List Int) (nb : Array Value) (K : List ByteArray) (ya : Option Addr) (dv iv : Value) (wr : World) : Prop :=
  ∃ (n dep : Nat) (mk : List Bool) (ok : Bool) (K' : List ByteArray) (ya' : Option Addr) (yc' : Nat), n ≤ js.length ∧ dep ≤ N ∧ iv = .int .i64 n ∧ dv = .int .i64 dep ∧ Lk wr xb sb ro la ln lc z mk ok K' ya' yc' ∧ Fr xb sb ya ya' w wr ∧ Box wr lb 72 nb ∧ ob ya' ≠ some lb ∧ K.length ≤ K'.length ∧ cnt mk ≤ cnt m1 ∧ mk.length = ln ∧ K'.length + 4 * cnt mk ≤ 4 * ln ∧ (ok = true → mk.getD ro.toNat true = true) ∧ (ok = true → ∃ f, LoopOK L m1 js ks mk n f dep K K') ∧ (ok = false → WNot L ro m k)
theorem met_set {m : List Bool} {i r : Nat} (h : r = i ∨ m.getD r true = true) : (m.set i true).getD r true = true := by
  rw [List.getD_eq_getElem?_getD, List.getElem?_set]
  by_cases e : i = r
  · rw [if_pos e]; split <;> rfl
  · rw [if_neg e, ← List.getD_eq_getElem?_getD]; exact h.resolve_left (fun q => e q.symm)
theorem not_root {L : List ND} {ro : Int} {m : List Bool} {k : Int} {f : Fo} {m' : List Bool} (h : C1 L m k = some (f, m')) (hm : m.getD ro.toNat true = true) : k ≠ ro := by
  intro e
  subst e
  have := okN_met (C1_ok h)
  rw [hm] at this; cases this
theorem Lk.growN {w w' : World} {xb sb : Nat} {ro : Int} {la : Option Addr} {ln lc z : Nat} {m : List Bool} {ok : Bool} {K ks : List ByteArray} {ya ya' : Option Addr} {yc yc' kl kn : Nat} (hkl : K.length = kl) (hkn : ks.length = kn) (h : Lk w xb sb ro la ln lc z m ok K ya yc) (ho : w'.ownsRow z 9 1 (.slice ya' (kl + kn) yc') (kl + kn) (K.map Value.string ++ ks.map Value.string)) (hg : w.grownBy w' (Value.slice ya kl yc).ownBlock) (hx : ∀ g, ob ya' = some g → (Value.slice ya kl yc).ownBlock = some g ∨ g = w.heap.size) :
    Lk (w'.setCell ⟨xb, 4, none⟩ (.slice ya' (kl + kn) yc')) xb sb ro la ln lc z m ok (K ++ ks) ya' yc' ∧ Fr xb sb ya ya' w (w'.setCell ⟨xb, 4, none⟩ (.slice ya' (kl + kn) yc')) ∧ w'.cell? ⟨xb, 4, none⟩ = some (.slice ya kl yc) ∧ w'.frozen? ⟨xb, 4, none⟩ = false := by
  subst hkl
  subst hkn
  rw [ob_slice] at hg hx
  exact h.grow ho hg hx
theorem Lk.drew {w : World} {xb sb : Nat} {ro : Int} {la : Option Addr} {ln lc z : Nat} {m : List Bool} {ok : Bool} {K : List ByteArray} {ya : Option Addr} {yc : Nat} (h : Lk w xb sb ro la ln lc z m ok K ya yc) : Lk w.drew xb sb ro la ln lc z m ok K ya yc := h.below (Below.refl _ _).drew
set_option maxRecDepth 100000 in
set_option maxHeartbeats 40000000 in
theorem c_walk (w0 : World) (ro : Int) (la : Option Addr) (ln lc : Nat) (vs : List TNode) (xb sb : Nat) (hin : NodesIn w0 la ln vs) :
    ∀ (N : Nat), N ≤ 1000 → ∀ (m : List Bool) (k : Int) (K : List ByteArray) (ya : Option Addr) (yc : Nat) (w : World), cnt m < N → m.length = ln → Below w0.heap.size w0 w → Lk w xb sb ro la ln lc w0.heap.size m true K ya yc → K.length + 4 * cnt m ≤ 4 * ln → (k = ro ∨ m.getD ro.toNat true = true) →
    Calls Try.prog 83 #[.pointer (some ⟨xb, 0, none⟩), .int .i64 k] w fun e w' => AnsW (vs.map saysN) ro xb sb la ln lc w0.heap.size N w m k K ya e w' := by
  intro N
  induction N with
  | zero => intro _ m k K ya yc w h; exact absurd h (by omega)
  | succ N ih =>
    intro hNN m k K ya yc w hN hm hB0 hL hkb hro
    have hfew := hin.few
    have hvl : vs.length = ln := hin.rd.1
    have hLl : (vs.map saysN).length = ln := by rw [List.length_map]; exact hvl
    have IH : Hid (∀ (m : List Bool) (k : Int) (K : List ByteArray) (ya : Option Addr) (yc : Nat) (w : World), cnt m < N → m.length = ln → Below w0.heap.size w0 w → Lk w xb sb ro la ln lc w0.heap.size m true K ya yc → K.length + 4 * cnt m ≤ 4 * ln → (k = ro ∨ m.getD ro.toNat true = true) → Calls Try.prog 83 #[.pointer (some ⟨xb, 0, none⟩), .int .i64 k] w fun e w' => AnsW (vs.map saysN) ro xb sb la ln lc w0.heap.size N w m k K ya e w') := ih (by omega)
    have HB0 : Hid (Below w0.heap.size w0 w) := hB0
    have HL : Hid (Lk w xb sb ro la ln lc w0.heap.size m true K ya yc) := hL
    have HM : Hid (m.length = ln) := hm
    have HIN : Hid (NodesIn w0 la ln vs) := hin
    have HCN : Hid (cnt m < N + 1) := hN
    have HKB : Hid (K.length + 4 * cnt m ≤ 4 * ln) := hkb
    have HRO : Hid (k = ro ∨ m.getD ro.toNat true = true) := hro
    have x0 : w.cell? ⟨xb, 0, none⟩ = some (.int .i64 ro) := hL.box.cell 0
    have x1 : w.cell? ⟨xb, 1, none⟩ = some (.slice la ln lc) := hL.box.cell 1
    have x2 : w.cell? ⟨xb, 2, none⟩ = some (.slice (some ⟨sb, 0, none⟩) ln ln) := hL.box.cell 2
    have x3 : w.cell? ⟨xb, 3, none⟩ = some (.bool true) := hL.box.cell 3
    have t3 := hL.box.thaw 3
    have C := c_in k 0 ((ln : Int) - 1) w
    have w1 : IntKind.i64.wrap ((ln : Int) - 1) = (ln : Int) - 1 := by rw [IntKind.wrap_i64]; omega
    clear ih hB0 hN hkb hro
    by_cases h1 : 0 ≤ k ∧ k ≤ (ln : Int) - 1
    · obtain ⟨j, rfl⟩ : ∃ j : Nat, k = j := ⟨k.toNat, by omega⟩
      have hj : j < ln := by omega
      have hib : inB (j : Int) 0 ((ln : Int) - 1) = true := by unfold inB; simp; omega
      rw [hib] at C
      obtain ⟨sc, st⟩ := hL.seenAt hj hm
      have g1 : (0 : Int) ≤ (j : Int) := by omega
      have g2 : (j : Int) < (ln : Int) := by omega
      cases hmj : m.getD j true
      · rw [hmj] at sc
        obtain ⟨nb, noff, hla, hnb, hcs⟩ := hin.rd.2.1 (by omega)
        obtain ⟨d0, d1, d2⟩ := hcs j hj
        have I1 := hin.rd.2.2 j hj
        have FG := hin.fit j hj
        have NI := hin.nil j hj
        have SA := at_says (vs := vs) (j := j) (by omega)
        obtain ⟨⟨lf, ka, kn, kc, ks, ia, im, ic, js⟩, hv⟩ : ∃ v, v = vs.getD j zeroN := ⟨_, rfl⟩
        rw [← hv] at d0 d1 d2 I1 FG NI SA
        dsimp only at d0 d1 d2 NI
        have HR1 : Hid (RdV w0 ka kn (ks.map Value.string)) := I1.1
        have HR2 : Hid (RdV w0 ia im (js.map (Value.int .i64))) := I1.2
        have HKN : Hid (ks.length = kn) := by unfold Hid; have := HR1.out.1; simpa using this
        have HJS : Hid (js.length = im) := by unfold Hid; have := HR2.out.1; simpa using this
        have f1 : kn ≤ 1048576 := FG.1
        have f2 : im ≤ 1048576 := FG.2.1
        have HSA : Hid (at' (vs.map saysN) (j : Int) = (lf, ks, js)) := SA
        have HIM : Hid (inM (vs.map saysN) m (j : Int) = true) := by
          unfold Hid inM
          rw [hLl, decide_eq_true (show (0 : Int) ≤ (j : Int) by omega), decide_eq_true (show (j : Int) < (ln : Int) by omega), Int.toNat_natCast, hmj]
          rfl
        have HOK : Hid (okN (vs.map saysN) m (j : Int) = tnB lf kn im) := by unfold Hid okN; rw [HIM.out, isTN_eq, HSA.out]; dsimp only; rw [HKN.out, HJS.out]; simp
        have HNI : Hid (ka = none → kc = 0) := NI
        have HMJ : Hid (m.getD j true = false) := hmj
        subst hla
        obtain ⟨m1, hm1⟩ : ∃ m1, m.set j true = m1 := ⟨_, rfl⟩
        have HM1 : Hid (m.set j true = m1) := hm1
        have HC1 : Hid (cnt m1 + 1 = cnt m) := by unfold Hid; rw [← hm1]; exact cnt_set m j hmj
        have HM1L : Hid (m1.length = ln) := by unfold Hid; rw [← hm1, List.length_set]; exact hm
        have HMR : Hid (m1.getD ro.toNat true = true) := by unfold Hid; rw [← hm1]; exact met_set (HRO.out.imp (fun e => by rw [← e, Int.toNat_natCast]) id)
        obtain ⟨kl, hkl⟩ : ∃ kl, K.length = kl := ⟨_, rfl⟩
        have HKL : Hid (K.length = kl) := hkl
        have hkl4 : kl ≤ 800 := by have := HKB.out; omega
        obtain ⟨V1, hV1⟩ : ∃ V, w.setCell ⟨sb, j, none⟩ (.bool true) = V := ⟨_, rfl⟩
        have LV1 : Lk V1 xb sb ro (some ⟨nb, noff, none⟩) ln lc w0.heap.size m1 true K ya yc := by rw [← hV1, ← hm1]; exact hL.see j
        have FV1 : Fr xb sb ya ya w V1 := by rw [← hV1]; exact Fr.of_set w _ _ (.inr rfl)
        have BZ1 : Below w0.heap.size w0 V1 := HB0.out.trans (hL.belowZ FV1 HB0.out.size)
        have e0 := (BZ1.cell (p := ⟨nb, noff + j * 3, none⟩) hnb).trans d0
        have e1 := (BZ1.cell (p := ⟨nb, noff + j * 3 + 1, none⟩) hnb).trans d1
        have e2 := (BZ1.cell (p := ⟨nb, noff + j * 3 + 2, none⟩) hnb).trans d2
        have y1 : V1.cell? ⟨xb, 1, none⟩ = some (.slice (some ⟨nb, noff, none⟩) ln lc) := LV1.box.cell 1
        obtain ⟨V2, hV2⟩ : ∃ V, V1.alloc (.cells #[.bool lf, .slice ka kn kc, .slice ia im ic] 72) = V := ⟨_, rfl⟩
        have b2 : Below V1.heap.size V1 V2 := by rw [← hV2]; exact (Below.refl _ _).alloc (Nat.le_refl _) _
        have LV2 : Hid (Lk V2 xb sb ro (some ⟨nb, noff, none⟩) ln lc w0.heap.size m1 true K ya yc) := LV1.below b2
        have FV2 : Hid (Fr xb sb ya ya w V2) := FV1.trans (Fr.of_below b2)
        have B0V : Hid (Below w0.heap.size w0 V2) := HB0.out.trans (hL.belowZ FV2.out HB0.out.size)
        have XB : Hid (Box V2 V1.heap.size 72 #[.bool lf, .slice ka kn kc, .slice ia im ic]) := by unfold Hid; rw [← hV2]; exact Box.new _ _ _
        have z0 : V2.cell? ⟨V1.heap.size, 0, none⟩ = some (.bool lf) := XB.out.cell 0
        have z1 : V2.cell? ⟨V1.heap.size, 1, none⟩ = some (.slice ka kn kc) := XB.out.cell 1
        have z2 : V2.cell? ⟨V1.heap.size, 2, none⟩ = some (.slice ia im ic) := XB.out.cell 2
        have u0 : V2.cell? ⟨xb, 0, none⟩ = some (.int .i64 ro) := LV2.out.box.cell 0
        have u3 : V2.cell? ⟨xb, 3, none⟩ = some (.bool true) := LV2.out.box.cell 3
        have ut3 := LV2.out.box.thaw 3
        have SZ1 := LV1.sz
        have HS1 : Hid (xb ≠ V1.heap.size ∧ sb ≠ V1.heap.size ∧ ob ya ≠ some V1.heap.size) := ⟨by omega, by omega, fun e => by have := (SZ1.2.2.2 _ e).2; omega⟩
        have HFin : Hid (∀ W ok', Lk W xb sb ro (some ⟨nb, noff, none⟩) ln lc w0.heap.size m1 ok' K ya yc → K.length ≤ K.length ∧ cnt m1 ≤ cnt m ∧ m1.length = ln ∧ K.length + 4 * cnt m1 ≤ 4 * ln) := fun _ _ _ => ⟨Nat.le_refl _, by have := HC1.out; omega, HM1L.out, by have := HC1.out; have := HKB.out; omega⟩
        clear hm hin hvl hLl hL h1 hib hmj hcs d0 d1 d2 I1 FG NI SA hv hm1 hkl LV1 FV1 BZ1 b2 SZ1 x0
        by_cases h4 : 4 < kn
        · have HO : Hid (WNot (vs.map saysN) ro m (j : Int)) := WNot.of (by rw [HOK.out]; unfold tnB; rw [decide_eq_false (by omega)]; rfl)
          go_enter Try.func83, Try.ntmps83
          go_wp2_with fail
          refine C.mono ?_
          rintro e w' ⟨rfl, hq⟩; have hq' := hq.symm; subst hq'; clear hq C
          go_wp2
          go_ret
          obtain ⟨q1, q2, q3, q4⟩ := HFin.out _ _ LV2.out
          exact AnsW.bad (LV2.out.setok false) (FV2.out.trans (Fr.of_set _ _ _ (.inl rfl))) q1 q2 q3 q4 HO.out 0 (by omega)
        · obtain ⟨i0, hi, hz0, hz1, hz2⟩ := info_parts infoS
          cases lf
          · by_cases h5 : im = kn + 1
            · have h5' : ((im : Int) != (kn : Int) + 1) = false := by simp; omega
              have w2 : IntKind.i64.wrap ((kn : Int) + 1) = (kn : Int) + 1 := by rw [IntKind.wrap_i64]; omega
              have H5 : Hid (im = kn + 1) := h5
              clear h5
              by_cases h6 : im < 2
              · have HO : Hid (WNot (vs.map saysN) ro m (j : Int)) := WNot.of (by rw [HOK.out]; unfold tnB; rw [decide_eq_false (show ¬ 2 ≤ im by omega)]; simp)
                go_enter Try.func83, Try.ntmps83
                go_wp2_with fail
                refine C.mono ?_
                rintro e w' ⟨rfl, hq⟩; have hq' := hq.symm; subst hq'; clear hq C
                go_wp2
                go_ret
                obtain ⟨q1, q2, q3, q4⟩ := HFin.out _ _ LV2.out
                exact AnsW.bad (LV2.out.setok false) (FV2.out.trans (Fr.of_set _ _ _ (.inl rfl))) q1 q2 q3 q4 HO.out 0 (by omega)
              · have HTN : Hid (okN (vs.map saysN) m (j : Int) = true) := by unfold Hid; rw [HOK.out]; unfold tnB; rw [H5.out, decide_eq_true (show kn ≤ 4 by omega), decide_eq_true (show 2 ≤ kn + 1 by have := H5.out; omega)]; simp
                have HNE : Hid (ks ≠ []) := fun e => by have h := HKN.out; rw [e] at h; have := H5.out; simp at h; omega
                have g6 : ¬ (im : Int) < 2 := by omega
                have him2 : 2 ≤ im := by omega
                clear h6
                go_enter Try.func83, Try.ntmps83
                go_wp2_with fail
                refine C.mono ?_
                rintro e w' ⟨rfl, hq⟩; have hq' := hq.symm; subst hq'; clear hq C
                go_wp2
                clear hV1 hV2 e0 e1 e2 y1 z0 z1 z2 u0 u3 ut3 x1 x2 x3 t3 sc st
                go_loopw [6, 7] (fun d i wr => WLoop (vs.map saysN) ro xb sb V1.heap.size (some ⟨nb, noff, none⟩) ln lc w0.heap.size N w m m1 (j : Int) ks js #[.bool false, .slice ka kn kc, .slice ia im ic] K ya d i wr) (fun _ i _ => im - (intOf i).toNat)
                case atStart => exact ⟨0, 0, m1, true, K, ya, yc, by omega, by omega, rfl, rfl, LV2.out, FV2.out, XB.out, HS1.out.2.2, Nat.le_refl _, Nat.le_refl _, HM1L.out, (HFin.out _ _ LV2.out).2.2.2, fun _ => HMR.out, fun _ => ⟨.nil, LoopOK.start _ _ _ _ _⟩, fun h => by cases h⟩
                case round =>
                  obtain ⟨n, dep, mk, ok, K', ya', yc', hn, hdep, rfl, rfl, lk, frr, bx, hob, hgrew, hcm, hml, hkbk, hmr, hyes, hno⟩ := hrel
                  rw [HJS.out] at hn
                  have LK : Hid (Lk wr xb sb ro (some ⟨nb, noff, none⟩) ln lc w0.heap.size mk ok K' ya' yc') := lk
                  have FRR : Hid (Fr xb sb ya ya' w wr) := frr
                  have BX : Hid (Box wr V1.heap.size 72 #[.bool false, .slice ka kn kc, .slice ia im ic]) := bx
                  have HBN : Hid (K.length ≤ K'.length ∧ cnt mk ≤ cnt m1 ∧ mk.length = ln ∧ K'.length + 4 * cnt mk ≤ 4 * ln ∧ (ok = true → mk.getD ro.toNat true = true) ∧ ob ya' ≠ some V1.heap.size) := ⟨hgrew, hcm, hml, hkbk, hmr, hob⟩
                  have HYES : Hid (ok = true → ∃ f, LoopOK (vs.map saysN) m1 js ks mk n f dep K K') := hyes
                  have HNO : Hid (ok = false → WNot (vs.map saysN) ro m (j : Int)) := hno
                  have z2 : wr.cell? ⟨V1.heap.size, 2, none⟩ = some (.slice ia im ic) := bx.cell 2
                  have u3 : wr.cell? ⟨xb, 3, none⟩ = some (.bool ok) := lk.box.cell 3
                  have B0r : Hid (Below w0.heap.size w0 wr) := HB0.out.trans (HL.out.belowZ frr HB0.out.size)
                  have hcnn : Hid (cnt mk ≤ cnt m) := by unfold Hid; have := HC1.out; omega
                  have FIN : Hid (ok = false → AnsW (vs.map saysN) ro xb sb (some ⟨nb, noff, none⟩) ln lc w0.heap.size (N + 1) w m (j : Int) K ya (.returned (.int .i64 ((dep + 1 : Nat) : Int))) wr) := fun h => by subst h; exact AnsW.bad lk frr hgrew hcnn.out hml hkbk (hno rfl) (dep + 1) (by omega)
                  clear lk frr bx hob hgrew hcm hml hkbk hmr hyes hno
                  by_cases hlt : n < im
                  · cases ok
                    · go_wp2
                      go_ret
                      exact FIN.out (by trivial)
                    · obtain ⟨f, LO⟩ := HYES.out rfl
                      have HLO : Hid (LoopOK (vs.map saysN) m1 js ks mk n f dep K K') := LO
                      obtain ⟨ib, ioff, rfl, hil, hic⟩ := HR2.out.2 (by omega)
                      have d0 : wr.cell? ⟨ib, ioff + n, none⟩ = some (.int .i64 (js.getD n 0)) := by rw [B0r.out.cell (p := ⟨ib, ioff + n, none⟩) hil, hic n hlt]; exact map_get _ _ _ _ (by rw [HJS.out]; exact hlt)
                      obtain ⟨pl, hpl⟩ : ∃ pl, js.getD n 0 = pl := ⟨_, rfl⟩
                      have HPL : Hid (js.getD n 0 = pl) := hpl
                      have HNJ : Hid (n < js.length) := by unfold Hid; rw [HJS.out]; exact hlt
                      rw [hpl] at d0
                      obtain ⟨kl1, hkl1⟩ : ∃ l, K'.length = l := ⟨_, rfl⟩
                      have HKL1 : Hid (K'.length = kl1) := hkl1
                      have hkl1b : kl1 ≤ 1000 := by have := HBN.out.2.2.2.1; omega
                      have u4 : wr.cell? ⟨xb, 4, none⟩ = some (.slice ya' kl1 yc') := by have := LK.out.box.cell 4; rw [HKL1.out] at this; exact this
                      have CC := IH.out mk pl K' ya' yc' wr (by have := HBN.out.2.1; have := HC1.out; have := HCN.out; omega) HBN.out.2.2.1 B0r.out LK.out HBN.out.2.2.2.1 (.inr (HBN.out.2.2.2.2.1 (by trivial)))
                      clear hic hpl LO hkl1 FIN
                      go_wp2_with fail
                      refine CC.mono ?_
                      rintro e w2 ⟨d, m2, ok2, K2, ya2, yc2, rfl, R⟩
                      have HR : Hid (WRes (vs.map saysN) ro xb sb (some ⟨nb, noff, none⟩) ln lc w0.heap.size N wr mk pl K' ya' d m2 ok2 K2 ya2 yc2 w2) := R
                      have SZr := LK.out.sz
                      have B2 : Hid (Box w2 V1.heap.size 72 #[.bool false, .slice ka kn kc, .slice (some ⟨ib, ioff, none⟩) im ic]) := (R.fr.block V1.heap.size BX.out.lt (Ne.symm HS1.out.1) (Ne.symm HS1.out.2.1) HBN.out.2.2.2.2.2).trans BX.out
                      have HOB2 : Hid (ob ya2 ≠ some V1.heap.size) := fun e => (R.fr.new _ e).elim HBN.out.2.2.2.2.2 (fun q => by have := BX.out.lt; omega)
                      have FR2 : Hid (Fr xb sb ya ya2 w w2) := FRR.out.trans R.fr
                      have hdN : d ≤ N := R.dN
                      have hkg : kl1 ≤ K2.length := by rw [← HKL1.out]; exact R.grew
                      have hk2b : K2.length ≤ 1000 := by have := R.kb; omega
                      obtain ⟨kl2, hkl2⟩ : ∃ l, K2.length = l := ⟨_, rfl⟩
                      have HKL2 : Hid (K2.length = kl2) := hkl2
                      have v3 : w2.cell? ⟨xb, 3, none⟩ = some (.bool ok2) := R.lk.box.cell 3
                      have vt3 := R.lk.box.thaw 3
                      have v4 : w2.cell? ⟨xb, 4, none⟩ = some (.slice ya2 kl2 yc2) := by have := R.lk.box.cell 4; rw [hkl2] at this; exact this
                      have v1 : w2.cell? ⟨V1.heap.size, 1, none⟩ = some (.slice ka kn kc) := B2.out.cell 1
                      rw [hkl2] at hkg hk2b
                      have HNUM : Hid (K.length ≤ K2.length ∧ cnt m2 ≤ cnt m1 ∧ m2.length = ln ∧ K2.length + 4 * cnt m2 ≤ 4 * ln) := ⟨Nat.le_trans HBN.out.1 R.grew, Nat.le_trans R.cm HBN.out.2.1, R.ml, R.kb⟩
                      have hMt := HBN.out.2.2.2.2.1 (by trivial)
                      have KM : Hid (ok2 = true → m2.getD ro.toNat true = true) := fun h => by obtain ⟨l, hw, _⟩ := R.yes h; exact (C1_facts hw.is).2.2.2 _ hMt
                      have E1 : m.set ((j : Int)).toNat true = m1 := by rw [Int.toNat_natCast]; exact HM1.out
                      have E2 : (at' (vs.map saysN) (j : Int)).2.2 = js := by rw [HSA.out]
                      have E3 : (at' (vs.map saysN) (j : Int)).2.1 = ks := by rw [HSA.out]
                      have KB : Hid (ok2 = false → WNot (vs.map saysN) ro m (j : Int)) := fun h => kid_bad E1 E2 E3 HLO.out HNJ.out (by rw [HPL.out]; exact R.no h)
                      have KD : Hid (0 < n → d ≠ dep → WNot (vs.map saysN) ro m (j : Int)) := fun h1 h2 => by
                        cases hk2 : ok2
                        · exact KB.out hk2
                        · obtain ⟨l, hw, _⟩ := R.yes hk2
                          exact depth_bad E1 E2 E3 HLO.out HNJ.out (by rw [HPL.out]; exact hw) h1 h2
                      have key2 : ∀ l, WFine (vs.map saysN) ro mk pl l m2 d → K2 = K' ++ allT (at' (vs.map saysN) pl).2.1 l → allT (at' (vs.map saysN) pl).2.1 l ≠ [] ∧ K2.getD kl1 zS = leastT (at' (vs.map saysN) pl).2.1 l := fun l hw hK => by
                        have hne := allT_ne (C1_wf hw.is).1 (hw.ne (not_root hw.is hMt))
                        refine ⟨hne, ?_⟩
                        rw [hK, ← leastT_all (C1_wf hw.is).1, ← HKL1.out, List.getD_eq_getElem?_getD, List.getElem?_append_right (Nat.le_refl _), Nat.sub_self, ← List.getD_eq_getElem?_getD]
                      have KL : Hid (kl1 = kl2 → WNot (vs.map saysN) ro m (j : Int)) := fun h1 => by
                        cases hk2 : ok2
                        · exact KB.out hk2
                        · obtain ⟨l, hw, hK⟩ := R.yes hk2
                          have h3 := congrArg List.length hK
                          rw [List.length_append, HKL1.out, HKL2.out] at h3
                          exact absurd (List.eq_nil_of_length_eq_zero (by omega)) (key2 l hw hK).1
                      have KY : Hid (0 < n → K2.getD kl1 zS ≠ ks.getD (n - 1) zS → WNot (vs.map saysN) ro m (j : Int)) := fun h1 h2 => by
                        cases hk2 : ok2
                        · exact KB.out hk2
                        · obtain ⟨l, hw, hK⟩ := R.yes hk2
                          exact key_bad E1 E2 E3 HLO.out HNJ.out (by rw [HPL.out]; exact hw) h1 (by rw [HPL.out, ← (key2 l hw hK).2]; exact h2)
                      have KG : Hid (ok2 = true → (0 < n → d = dep) → (0 < n → K2.getD kl1 zS = ks.getD (n - 1) zS) → ∃ f, LoopOK (vs.map saysN) m1 js ks m2 (n + 1) f d K K2) := fun h h1 h2 => by
                        obtain ⟨l, hw, hK⟩ := R.yes h
                        have k2 := (key2 l hw hK).2
                        have := kid_good (ro := ro) (l := l) (m2 := m2) (d := d) HLO.out HNJ.out (by rw [HPL.out]; exact not_root hw.is hMt) (by rw [HPL.out]; exact hw) h1 (fun q => by rw [HPL.out, ← k2]; exact h2 q)
                        rw [HPL.out, ← hK] at this
                        exact ⟨_, this⟩
                      have B02 : Hid (Below w0.heap.size w0 w2) := HB0.out.trans (HL.out.belowZ FR2.out HB0.out.size)
                      have RK2 : Hid (RdV w2 ya2 kl2 (K2.map Value.string)) := by have := RdV.own R.lk.keys; rw [hkl2] at this; exact this
                      have c4 : ∀ o : Out w2, o.y.cell? ⟨xb, 4, none⟩ = some (.slice ya2 kl2 yc2) := fun o => q_cell v4 o
                      have c1 : ∀ o : Out w2, o.y.cell? ⟨V1.heap.size, 1, none⟩ = some (.slice ka kn kc) := fun o => q_cell v1 o
                      clear R key2 E1 E2 E3 hMt SZr v3 vt3 v4 v1 d0 u3 u4 z2 CC hkl2 hil
                      by_cases h0 : 0 < n
                      · have g0 : decide ((0 : Int) < (n : Int)) = true := by simp; omega
                        have H0 : Hid (0 < n) := h0
                        by_cases hd : d = dep
                        · have hd' : ((d : Int) != (dep : Int)) = false := by simp; omega
                          have HD : Hid (d = dep) := hd
                          clear hd
                          by_cases hl : kl1 = kl2
                          · have hl' : ((kl1 : Int) == (kl2 : Int)) = true := by simp; omega
                            have HLL : Hid (kl1 = kl2) := hl
                            clear hl
                            go_wp2_with fail
                            haveI nonE := Out.some w2
                            refine q_begin (by kernel_rfl) (by kernel_rfl) ?_
                            repeat (go_big_quiet_step (fail))
                            refine wpQuiet_nil ?_
                            rintro w3 ⟨⟨y', hb3⟩, hy⟩
                            have hy' : w3 = y' := hy
                            clear hy
                            subst hy'
                            have L3 : Hid (Lk w3 xb sb ro (some ⟨nb, noff, none⟩) ln lc w0.heap.size m2 ok2 K2 ya2 yc2) := HR.out.lk.below hb3
                            have F3 : Hid (Fr xb sb ya ya2 w w3) := FR2.out.trans (Fr.of_below hb3)
                            have X3 : Hid (Box w3 V1.heap.size 72 #[.bool false, .slice ka kn kc, .slice (some ⟨ib, ioff, none⟩) im ic]) := B2.out.belowS hb3
                            have v33 : w3.cell? ⟨xb, 3, none⟩ = some (.bool ok2) := L3.out.box.cell 3
                            have vt33 := L3.out.box.thaw 3
                            clear hb3 c4 c1
                            go_wp2
                            go_roundw
                            case rel => exact ⟨n + 1, d, m2, false, K2, ya2, yc2, by rw [HJS.out]; omega, hdN, by go_num, rfl, L3.out.setok false, F3.out.trans (Fr.of_set _ _ _ (.inl rfl)), X3.out.setOther _ _ (Ne.symm HS1.out.1), HOB2.out, HNUM.out.1, HNUM.out.2.1, HNUM.out.2.2.1, HNUM.out.2.2.2, fun h => (by cases h), fun h => (by cases h), fun _ => KL.out HLL.out⟩
                            case measure => simp [intOf]; omega
                          · have hl' : ((kl1 : Int) == (kl2 : Int)) = false := by simp; omega
                            have hll : kl1 < kl2 := by omega
                            clear hl
                            obtain ⟨yb, yo, rfl, hyl, hyc⟩ := RK2.out.2 (by omega)
                            obtain ⟨kb, ko, rfl, hkbl, hkc⟩ := HR1.out.2 (by have := H5.out; omega)
                            obtain ⟨KE, hKE⟩ : ∃ s, K2.getD kl1 zS = s := ⟨_, rfl⟩
                            obtain ⟨SE, hSE⟩ : ∃ s, ks.getD (n - 1) zS = s := ⟨_, rfl⟩
                            have HKE : Hid (K2.getD kl1 zS = KE) := hKE
                            have HSE : Hid (ks.getD (n - 1) zS = SE) := hSE
                            have c5 : ∀ o : Out w2, o.y.cell? ⟨yb, yo + kl1, none⟩ = some (.string KE) := fun o => by
                              refine q_cell ?_ o
                              rw [hyc kl1 (by omega), ← hKE]
                              exact map_get _ _ _ _ (by rw [HKL2.out]; omega)
                            have c6 : ∀ o : Out w2, o.y.cell? ⟨kb, ko + (n - 1), none⟩ = some (.string SE) := fun o => by
                              refine q_cell ?_ o
                              rw [B02.out.cell (p := ⟨kb, ko + (n - 1), none⟩) hkbl, hkc (n - 1) (by have := H5.out; omega), ← hSE]
                              exact map_get _ _ _ _ (by rw [HKN.out]; have := H5.out; omega)
                            have w3' : IntKind.i64.wrap ((n : Int) - 1) = (n : Int) - 1 := by rw [IntKind.wrap_i64]; omega
                            have w4' : ((n : Int) - 1).toNat = n - 1 := by omega
                            have w5' : (0 : Int) ≤ (n : Int) - 1 := by omega
                            have w6' : (n : Int) - 1 < (kn : Int) := by have := H5.out; omega
                            have w7' : (kl1 : Int) < (kl2 : Int) := by omega
                            have w8' : (0 : Int) ≤ (kl1 : Int) := by omega
                            clear hKE hSE hyc hkc hyl hkbl
                            by_cases hs : KE = SE
                            · have hs' : (KE.toList == SE.toList) = true := by simp [hs]
                              have HSS : Hid (KE = SE) := hs
                              clear hs
                              go_wp2_with fail
                              haveI nonE := Out.some w2
                              refine q_begin (by kernel_rfl) (by kernel_rfl) ?_
                              repeat (go_big_quiet_step (fail))
                              refine wpQuiet_nil ?_
                              rintro w3 ⟨⟨y', hb3⟩, hy⟩
                              have hy' : w3 = y' := hy
                              clear hy
                              subst hy'
                              have L3 : Hid (Lk w3 xb sb ro (some ⟨nb, noff, none⟩) ln lc w0.heap.size m2 ok2 K2 (some ⟨yb, yo, none⟩) yc2) := HR.out.lk.below hb3
                              have F3 : Hid (Fr xb sb ya (some ⟨yb, yo, none⟩) w w3) := FR2.out.trans (Fr.of_below hb3)
                              have X3 : Hid (Box w3 V1.heap.size 72 #[.bool false, .slice (some ⟨kb, ko, none⟩) kn kc, .slice (some ⟨ib, ioff, none⟩) im ic]) := B2.out.belowS hb3
                              clear hb3 c4 c1 c5 c6
                              go_wp2
                              go_roundw
                              case rel => exact ⟨n + 1, d, m2, ok2, K2, (some ⟨yb, yo, none⟩), yc2, by rw [HJS.out]; omega, hdN, by go_num, rfl, L3.out, F3.out, X3.out, HOB2.out, HNUM.out.1, HNUM.out.2.1, HNUM.out.2.2.1, HNUM.out.2.2.2, KM.out, fun h => KG.out h (fun _ => HD.out) (fun _ => by rw [HKE.out, HSE.out]; exact HSS.out), KB.out⟩
                              case measure => simp [intOf]; omega
                            · have hs' : (KE.toList == SE.toList) = false := by rw [beq_eq_false_iff_ne]; exact fun e => hs (toList_inj e)
                              have HSS : Hid (KE ≠ SE) := hs
                              clear hs
                              go_wp2_with fail
                              haveI nonE := Out.some w2
                              refine q_begin (by kernel_rfl) (by kernel_rfl) ?_
                              repeat (go_big_quiet_step (fail))
                              refine wpQuiet_nil ?_
                              rintro w3 ⟨⟨y', hb3⟩, hy⟩
                              have hy' : w3 = y' := hy
                              clear hy
                              subst hy'
                              have L3 : Hid (Lk w3 xb sb ro (some ⟨nb, noff, none⟩) ln lc w0.heap.size m2 ok2 K2 (some ⟨yb, yo, none⟩) yc2) := HR.out.lk.below hb3
                              have F3 : Hid (Fr xb sb ya (some ⟨yb, yo, none⟩) w w3) := FR2.out.trans (Fr.of_below hb3)
                              have X3 : Hid (Box w3 V1.heap.size 72 #[.bool false, .slice (some ⟨kb, ko, none⟩) kn kc, .slice (some ⟨ib, ioff, none⟩) im ic]) := B2.out.belowS hb3
                              have v33 : w3.cell? ⟨xb, 3, none⟩ = some (.bool ok2) := L3.out.box.cell 3
                              have vt33 := L3.out.box.thaw 3
                              clear hb3 c4 c1 c5 c6
                              go_wp2
                              go_roundw
                              case rel => exact ⟨n + 1, d, m2, false, K2, (some ⟨yb, yo, none⟩), yc2, by rw [HJS.out]; omega, hdN, by go_num, rfl, L3.out.setok false, F3.out.trans (Fr.of_set _ _ _ (.inl rfl)), X3.out.setOther _ _ (Ne.symm HS1.out.1), HOB2.out, HNUM.out.1, HNUM.out.2.1, HNUM.out.2.2.1, HNUM.out.2.2.2, fun h => (by cases h), fun h => (by cases h), fun _ => KY.out H0.out (by rw [HKE.out, HSE.out]; exact HSS.out)⟩
                              case measure => simp [intOf]; omega
                        · have hd' : ((d : Int) != (dep : Int)) = true := by simp; omega
                          have HD : Hid (d ≠ dep) := hd
                          clear hd
                          go_wp2_with fail
                          haveI nonE := Out.some w2
                          refine q_begin (by kernel_rfl) (by kernel_rfl) ?_
                          repeat (go_big_quiet_step (fail))
                          refine wpQuiet_nil ?_
                          rintro w3 ⟨⟨y', hb3⟩, hy⟩
                          have hy' : w3 = y' := hy
                          clear hy
                          subst hy'
                          have L3 : Hid (Lk w3 xb sb ro (some ⟨nb, noff, none⟩) ln lc w0.heap.size m2 ok2 K2 ya2 yc2) := HR.out.lk.below hb3
                          have F3 : Hid (Fr xb sb ya ya2 w w3) := FR2.out.trans (Fr.of_below hb3)
                          have X3 : Hid (Box w3 V1.heap.size 72 #[.bool false, .slice ka kn kc, .slice (some ⟨ib, ioff, none⟩) im ic]) := B2.out.belowS hb3
                          have v33 : w3.cell? ⟨xb, 3, none⟩ = some (.bool ok2) := L3.out.box.cell 3
                          have vt33 := L3.out.box.thaw 3
                          clear hb3 c4 c1
                          go_wp2
                          go_roundw
                          case rel => exact ⟨n + 1, d, m2, false, K2, ya2, yc2, by rw [HJS.out]; omega, hdN, by go_num, rfl, L3.out.setok false, F3.out.trans (Fr.of_set _ _ _ (.inl rfl)), X3.out.setOther _ _ (Ne.symm HS1.out.1), HOB2.out, HNUM.out.1, HNUM.out.2.1, HNUM.out.2.2.1, HNUM.out.2.2.2, fun h => (by cases h), fun h => (by cases h), fun _ => KD.out H0.out HD.out⟩
                          case measure => simp [intOf]; omega
                      · obtain rfl : n = 0 := by omega
                        go_wp2_with fail
                        haveI nonE := Out.some w2
                        refine q_begin (by kernel_rfl) (by kernel_rfl) ?_
                        repeat (go_big_quiet_step (fail))
                        refine wpQuiet_nil ?_
                        rintro w3 ⟨⟨y', hb3⟩, hy⟩
                        have hy' : w3 = y' := hy
                        clear hy
                        subst hy'
                        have L3 : Hid (Lk w3 xb sb ro (some ⟨nb, noff, none⟩) ln lc w0.heap.size m2 ok2 K2 ya2 yc2) := HR.out.lk.below hb3
                        have F3 : Hid (Fr xb sb ya ya2 w w3) := FR2.out.trans (Fr.of_below hb3)
                        have X3 : Hid (Box w3 V1.heap.size 72 #[.bool false, .slice ka kn kc, .slice (some ⟨ib, ioff, none⟩) im ic]) := B2.out.belowS hb3
                        clear hb3 c4 c1
                        go_wp2
                        go_roundw
                        case rel => exact ⟨0 + 1, d, m2, ok2, K2, ya2, yc2, by rw [HJS.out]; omega, hdN, by go_num, rfl, L3.out, F3.out, X3.out, HOB2.out, HNUM.out.1, HNUM.out.2.1, HNUM.out.2.2.1, HNUM.out.2.2.2, KM.out, fun h => KG.out h (fun q => absurd q (by omega)) (fun q => absurd q (by omega)), KB.out⟩
                        case measure => simp [intOf]; omega
                  · have e : n = im := by omega
                    subst e
                    have W3 : IntKind.i64.wrap ((dep : Int) + 1) = (dep : Int) + 1 := by rw [IntKind.wrap_i64]; omega
                    cases ok
                    · go_wp2
                      go_ret
                      exact FIN.out (by trivial)
                    · obtain ⟨f, LO⟩ := HYES.out rfl
                      have HE : Hid (WFine (vs.map saysN) ro m (j : Int) f mk (dep + 1) ∧ K' = K ++ allT ks f) := loop_end HTN.out (by rw [Int.toNat_natCast]; exact HM1.out) (by rw [HSA.out]) (by rw [HSA.out]) LO (by rw [HJS.out]) him2 HNE.out
                      clear LO
                      go_wp2
                      go_ret
                      exact AnsW.good (d := dep + 1) LK.out FRR.out HBN.out.1 hcnn.out HBN.out.2.2.1 HBN.out.2.2.2.1 HE.out.1 (by rw [HSA.out]; exact HE.out.2) (by omega)
            · have h5' : ((im : Int) != (kn : Int) + 1) = true := by simp; omega
              have w2 : IntKind.i64.wrap ((kn : Int) + 1) = (kn : Int) + 1 := by rw [IntKind.wrap_i64]; omega
              have HO : Hid (WNot (vs.map saysN) ro m (j : Int)) := WNot.of (by rw [HOK.out]; unfold tnB; rw [decide_eq_false h5]; simp)
              clear h5
              go_enter Try.func83, Try.ntmps83
              go_wp2_with fail
              refine C.mono ?_
              rintro e w' ⟨rfl, hq⟩; have hq' := hq.symm; subst hq'; clear hq C
              go_wp2
              go_ret
              obtain ⟨q1, q2, q3, q4⟩ := HFin.out _ _ LV2.out
              exact AnsW.bad (LV2.out.setok false) (FV2.out.trans (Fr.of_set _ _ _ (.inl rfl))) q1 q2 q3 q4 HO.out 0 (by omega)
          · obtain ⟨V3, hV3⟩ : ∃ V, V2.setCell ⟨xb, 3, none⟩ (.bool false) = V := ⟨_, rfl⟩
            have LV3 : Hid (Lk V3 xb sb ro (some ⟨nb, noff, none⟩) ln lc w0.heap.size m1 false K ya yc) := by unfold Hid; rw [← hV3]; exact LV2.out.setok false
            have F23 : Hid (Fr xb sb ya ya V2 V3) := by unfold Hid; rw [← hV3]; exact Fr.of_set _ _ _ (.inl rfl)
            have zz1 : V3.cell? ⟨V1.heap.size, 1, none⟩ = some (.slice ka kn kc) := by have := (F23.out.block V1.heap.size XB.out.lt (Ne.symm HS1.out.1) (Ne.symm HS1.out.2.1) HS1.out.2.2); exact (World.cell?_of_block this).trans z1
            have B23 : Hid (Below w0.heap.size V2 V3) := LV2.out.belowZ F23.out B0V.out.size
            have hkk : kl + kn ≤ 1000 := by omega
            by_cases h5 : im = 0
            · have h5' : decide ((0 : Int) < (im : Int)) = false := by simp; omega
              have H5 : Hid (im = 0) := h5
              clear h5
              by_cases h6 : kn = 0 ∧ (j : Int) ≠ ro
              · obtain ⟨h6a, h6b⟩ := h6
                have q6 : ((kn : Int) == 0) = true := by simp; omega
                have q7 : ((j : Int) != ro) = true := by simpa using h6b
                have HO : Hid (WNot (vs.map saysN) ro m (j : Int)) := fun f m' d hw => by
                  have := hw.ne h6b
                  rw [HSA.out] at this
                  exact this (List.eq_nil_of_length_eq_zero (by rw [HKN.out]; exact h6a))
                clear h6a h6b
                go_enter Try.func83, Try.ntmps83
                go_wp2_with fail
                refine C.mono ?_
                rintro e w' ⟨rfl, hq⟩; have hq' := hq.symm; subst hq'; clear hq C
                have y4 : V3.cell? ⟨xb, 4, none⟩ = some (.slice ya kl yc) := by have := LV3.out.box.cell 4; rw [HKL.out] at this; exact this
                have OKy : Hid (V3.drew.ownsRow w0.heap.size 9 1 (.slice ya kl yc) kl (K.map Value.string)) := by have := LV3.out.drew.keys; rw [HKL.out] at this; exact this
                have RKa : Hid (RdV V3.drew ka kn (ks.map Value.string)) := HR1.out.below (B0V.out.trans B23.out).drew
                have hzW : w0.heap.size ≤ V3.drew.heap.size := (B0V.out.trans B23.out).drew.size
                go_wp2_with fail
                go_region_law (refine step_app_any V3.drew rfl (.tmp 81) (.tmp 83) 23 rfl w0.heap.size 9 i0 (.string ⟨#[]⟩) 1 16 Try.underlying23 hi hz0 hz1 hz2 rfl (by omega) (.slice ya kl yc) kl (K.map Value.string) rfl OKy.out ka kn kc (ks.map Value.string) rfl (rdV_none RKa.out HNI.out) (by rw [RKa.out.1]; omega) (fun ad e => src1 (e ▸ RKa.out)) (map_one _ (fun _ => rfl) _) (by unfold maxLen; omega) (by omega) hzW ?_; intro a5 c5 w5 ho5 hg5 hx5; have hG := Lk.growN HKL.out HKN.out LV3.out.drew ho5 hg5 hx5; have x54 := hG.2.2.1; have t54 := hG.2.2.2; have HG : Hid (Lk (w5.setCell ⟨xb, 4, none⟩ (.slice a5 (kl + kn) c5)) xb sb ro (some ⟨nb, noff, none⟩) ln lc w0.heap.size m1 false (K ++ ks) a5 c5 ∧ Fr xb sb ya a5 V3.drew (w5.setCell ⟨xb, 4, none⟩ (.slice a5 (kl + kn) c5))) := ⟨hG.1, hG.2.1⟩; clear hG ho5 hg5 hx5)
                all_goals
                  go_wp2
                  go_ret
                  exact AnsW.bad HG.out.1 (FV2.out.trans (F23.out.trans ((Fr.of_below (Below.refl _ _).drew).trans HG.out.2))) (by rw [List.length_append]; omega) (by have := HC1.out; omega) HM1L.out (by rw [List.length_append, HKN.out]; have := HC1.out; have := HKB.out; omega) HO.out 1 (by omega)
              · have HG1 : Hid ((j : Int) ≠ ro → ks ≠ []) := fun h e => h6 ⟨by rw [← HKN.out, e]; rfl, h⟩
                have HTN : Hid (okN (vs.map saysN) m (j : Int) = true) := by unfold Hid; rw [HOK.out]; unfold tnB; rw [H5.out, decide_eq_true (show kn ≤ 4 by omega)]; rfl
                have HWF : Hid (WFine (vs.map saysN) ro m (j : Int) .nil m1 1 ∧ allT ks .nil = ks) := leaf_end HTN.out (by rw [Int.toNat_natCast]; exact HM1.out) (by rw [HSA.out]; exact List.eq_nil_of_length_eq_zero (by rw [HJS.out]; exact H5.out)) (by rw [HSA.out]) HG1.out
                by_cases h7 : kn = 0
                · have q6 : ((kn : Int) == 0) = true := by simp; omega
                  have q7 : ((j : Int) != ro) = false := by
                    have : (j : Int) = ro := Classical.byContradiction fun e => h6 ⟨h7, e⟩
                    simp [this]
                  clear h6 h7
                  go_enter Try.func83, Try.ntmps83
                  go_wp2_with fail
                  refine C.mono ?_
                  rintro e w' ⟨rfl, hq⟩; have hq' := hq.symm; subst hq'; clear hq C
                  have y4 : V2.cell? ⟨xb, 4, none⟩ = some (.slice ya kl yc) := by have := LV2.out.box.cell 4; rw [HKL.out] at this; exact this
                  have OKy : Hid (V2.drew.ownsRow w0.heap.size 9 1 (.slice ya kl yc) kl (K.map Value.string)) := by have := LV2.out.drew.keys; rw [HKL.out] at this; exact this
                  have RKa : Hid (RdV V2.drew ka kn (ks.map Value.string)) := HR1.out.below (B0V.out.trans (Below.refl _ _)).drew
                  have hzW : w0.heap.size ≤ V2.drew.heap.size := (B0V.out.trans (Below.refl _ _)).drew.size
                  go_wp2_with fail
                  go_region_law (refine step_app_any V2.drew rfl (.tmp 81) (.tmp 83) 23 rfl w0.heap.size 9 i0 (.string ⟨#[]⟩) 1 16 Try.underlying23 hi hz0 hz1 hz2 rfl (by omega) (.slice ya kl yc) kl (K.map Value.string) rfl OKy.out ka kn kc (ks.map Value.string) rfl (rdV_none RKa.out HNI.out) (by rw [RKa.out.1]; omega) (fun ad e => src1 (e ▸ RKa.out)) (map_one _ (fun _ => rfl) _) (by unfold maxLen; omega) (by omega) hzW ?_; intro a5 c5 w5 ho5 hg5 hx5; have hG := Lk.growN HKL.out HKN.out LV2.out.drew ho5 hg5 hx5; have x54 := hG.2.2.1; have t54 := hG.2.2.2; have HG : Hid (Lk (w5.setCell ⟨xb, 4, none⟩ (.slice a5 (kl + kn) c5)) xb sb ro (some ⟨nb, noff, none⟩) ln lc w0.heap.size m1 true (K ++ ks) a5 c5 ∧ Fr xb sb ya a5 V2.drew (w5.setCell ⟨xb, 4, none⟩ (.slice a5 (kl + kn) c5))) := ⟨hG.1, hG.2.1⟩; clear hG ho5 hg5 hx5)
                  all_goals
                    go_wp2
                    go_ret
                    exact AnsW.good (d := 1) HG.out.1 (FV2.out.trans ((Fr.of_below (Below.refl _ _).drew).trans HG.out.2)) (by rw [List.length_append]; omega) (by have := HC1.out; omega) HM1L.out (by rw [List.length_append, HKN.out]; have := HC1.out; have := HKB.out; omega) HWF.out.1 (by rw [HSA.out, HWF.out.2]) (by omega)
                · have q6 : ((kn : Int) == 0) = false := by simp; omega
                  clear h6 h7
                  go_enter Try.func83, Try.ntmps83
                  go_wp2_with fail
                  refine C.mono ?_
                  rintro e w' ⟨rfl, hq⟩; have hq' := hq.symm; subst hq'; clear hq C
                  have y4 : V2.cell? ⟨xb, 4, none⟩ = some (.slice ya kl yc) := by have := LV2.out.box.cell 4; rw [HKL.out] at this; exact this
                  have OKy : Hid (V2.drew.ownsRow w0.heap.size 9 1 (.slice ya kl yc) kl (K.map Value.string)) := by have := LV2.out.drew.keys; rw [HKL.out] at this; exact this
                  have RKa : Hid (RdV V2.drew ka kn (ks.map Value.string)) := HR1.out.below (B0V.out.trans (Below.refl _ _)).drew
                  have hzW : w0.heap.size ≤ V2.drew.heap.size := (B0V.out.trans (Below.refl _ _)).drew.size
                  go_wp2_with fail
                  go_region_law (refine step_app_any V2.drew rfl (.tmp 81) (.tmp 83) 23 rfl w0.heap.size 9 i0 (.string ⟨#[]⟩) 1 16 Try.underlying23 hi hz0 hz1 hz2 rfl (by omega) (.slice ya kl yc) kl (K.map Value.string) rfl OKy.out ka kn kc (ks.map Value.string) rfl (rdV_none RKa.out HNI.out) (by rw [RKa.out.1]; omega) (fun ad e => src1 (e ▸ RKa.out)) (map_one _ (fun _ => rfl) _) (by unfold maxLen; omega) (by omega) hzW ?_; intro a5 c5 w5 ho5 hg5 hx5; have hG := Lk.growN HKL.out HKN.out LV2.out.drew ho5 hg5 hx5; have x54 := hG.2.2.1; have t54 := hG.2.2.2; have HG : Hid (Lk (w5.setCell ⟨xb, 4, none⟩ (.slice a5 (kl + kn) c5)) xb sb ro (some ⟨nb, noff, none⟩) ln lc w0.heap.size m1 true (K ++ ks) a5 c5 ∧ Fr xb sb ya a5 V2.drew (w5.setCell ⟨xb, 4, none⟩ (.slice a5 (kl + kn) c5))) := ⟨hG.1, hG.2.1⟩; clear hG ho5 hg5 hx5)
                  all_goals
                    go_wp2
                    go_ret
                    exact AnsW.good (d := 1) HG.out.1 (FV2.out.trans ((Fr.of_below (Below.refl _ _).drew).trans HG.out.2)) (by rw [List.length_append]; omega) (by have := HC1.out; omega) HM1L.out (by rw [List.length_append, HKN.out]; have := HC1.out; have := HKB.out; omega) HWF.out.1 (by rw [HSA.out, HWF.out.2]) (by omega)
            · have h5' : (0 : Int) < (im : Int) := by omega
              have HO : Hid (WNot (vs.map saysN) ro m (j : Int)) := WNot.of (by rw [HOK.out]; unfold tnB; rw [if_pos rfl, decide_eq_false h5]; simp)
              clear h5
              go_enter Try.func83, Try.ntmps83
              go_wp2_with fail
              refine C.mono ?_
              rintro e w' ⟨rfl, hq⟩; have hq' := hq.symm; subst hq'; clear hq C
              have y4 : V3.cell? ⟨xb, 4, none⟩ = some (.slice ya kl yc) := by have := LV3.out.box.cell 4; rw [HKL.out] at this; exact this
              have OKy : Hid (V3.drew.ownsRow w0.heap.size 9 1 (.slice ya kl yc) kl (K.map Value.string)) := by have := LV3.out.drew.keys; rw [HKL.out] at this; exact this
              have RKa : Hid (RdV V3.drew ka kn (ks.map Value.string)) := HR1.out.below (B0V.out.trans B23.out).drew
              have hzW : w0.heap.size ≤ V3.drew.heap.size := (B0V.out.trans B23.out).drew.size
              go_wp2_with fail
              go_region_law (refine step_app_any V3.drew rfl (.tmp 81) (.tmp 83) 23 rfl w0.heap.size 9 i0 (.string ⟨#[]⟩) 1 16 Try.underlying23 hi hz0 hz1 hz2 rfl (by omega) (.slice ya kl yc) kl (K.map Value.string) rfl OKy.out ka kn kc (ks.map Value.string) rfl (rdV_none RKa.out HNI.out) (by rw [RKa.out.1]; omega) (fun ad e => src1 (e ▸ RKa.out)) (map_one _ (fun _ => rfl) _) (by unfold maxLen; omega) (by omega) hzW ?_; intro a5 c5 w5 ho5 hg5 hx5; have hG := Lk.growN HKL.out HKN.out LV3.out.drew ho5 hg5 hx5; have x54 := hG.2.2.1; have t54 := hG.2.2.2; have HG : Hid (Lk (w5.setCell ⟨xb, 4, none⟩ (.slice a5 (kl + kn) c5)) xb sb ro (some ⟨nb, noff, none⟩) ln lc w0.heap.size m1 false (K ++ ks) a5 c5 ∧ Fr xb sb ya a5 V3.drew (w5.setCell ⟨xb, 4, none⟩ (.slice a5 (kl + kn) c5))) := ⟨hG.1, hG.2.1⟩; clear hG ho5 hg5 hx5)
              all_goals
                go_wp2
                go_ret
                exact AnsW.bad HG.out.1 (FV2.out.trans (F23.out.trans ((Fr.of_below (Below.refl _ _).drew).trans HG.out.2))) (by rw [List.length_append]; omega) (by have := HC1.out; omega) HM1L.out (by rw [List.length_append, HKN.out]; have := HC1.out; have := HKB.out; omega) HO.out 1 (by omega)
      · rw [hmj] at sc
        have HO : Hid (WNot (vs.map saysN) ro m (j : Int)) := WNot.of (by unfold okN inM; rw [Int.toNat_natCast, hmj]; simp)
        clear hm hin hvl hLl hL h1 hib hmj
        go_enter Try.func83, Try.ntmps83
        go_wp2_with fail
        refine C.mono ?_
        rintro e w' ⟨rfl, hq⟩; have hq' := hq.symm; subst hq'; clear hq C
        go_wp2
        go_ret
        exact AnsW.bad (HL.out.setok false) (Fr.of_set w _ _ (.inl rfl)) (Nat.le_refl _) (Nat.le_refl _) HM.out HKB.out HO.out 0 (by omega)
    · have hib : inB k 0 ((ln : Int) - 1) = false := by unfold inB; rw [decide_eq_false_iff_not]; exact h1
      have HO : Hid (WNot (vs.map saysN) ro m k) := WNot.of (by
        unfold okN inM
        rw [hLl]
        by_cases ha : 0 ≤ k
        · rw [decide_eq_false (show ¬ k < (ln : Int) by omega)]; simp
        · rw [decide_eq_false ha]; rfl)
      rw [hib] at C
      clear hm hin hvl hLl hL h1 hib
      go_enter Try.func83, Try.ntmps83
      go_wp2_with fail
      refine C.mono ?_
      rintro e w' ⟨rfl, hq⟩; have hq' := hq.symm; subst hq'; clear hq C
      go_wp2
      go_ret
      exact AnsW.bad (HL.out.setok false) (Fr.of_set w _ _ (.inl rfl)) (Nat.le_refl _) (Nat.le_refl _) HM.out HKB.out HO.out 0 (by omega)

end Go.Proofs.Ythnggpjgajkaeaa
