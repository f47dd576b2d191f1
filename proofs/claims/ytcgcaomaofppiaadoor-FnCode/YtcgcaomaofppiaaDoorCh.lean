/-
  How many values stand at a time: the specification.
-/
import Derived.Test.YtcgcaomaofppiaaDoorCg
import Derived.Deep.RegionHeld3
namespace Go.Proofs.YtcgcaomaofppiaaDoor
open Go Go.RowKit
attribute [local go_sem ↓] Go.wp_at_zero Go.wp_at_succ

set_option linter.unusedVariables false
def zsD (n k : Nat) : List Int := (List.range (n + 1)).map fun j => if 1 ≤ j ∧ j < k then -1 else 0
theorem zsD_len (n k : Nat) : (zsD n k).length = n + 1 := by simp [zsD]
theorem zsD_one (n : Nat) : zsD n 1 = rowR (n + 1) 0 := by
  unfold zsD rowR
  apply List.ext_getElem
  · simp
  · intro i h1 h2
    simp
    omega
theorem zsD_step (n k : Nat) (h1 : 1 ≤ k) : (zsD n k).set k (-1) = zsD n (k + 1) := by
  unfold zsD
  apply List.ext_getElem
  · simp
  · intro i h1 h2
    rw [List.getElem_set]
    split
    · subst_vars; simp; omega
    · simp
      split <;> split <;> omega
theorem zsD_full (n : Nat) : zsD n (n + 1) = ds0 n := by
  unfold zsD ds0
  apply List.ext_getElem
  · simp
  · intro i h1 h2
    cases i with
    | zero => simp
    | succ i => simp at h1 ⊢; omega
def AnsD (n : Nat) (L : List IN) (g : Nat) (e : Ending) (w' : World) : Prop := e = .returned (.tuple #[.slice (some ⟨g, 0, none⟩) (n + 1) (n + 1), .bool (resC n L).isSome]) ∧ ∀ r, resC n L = some r → NB w' g r
theorem goS_step {n k : Nat} {L : List IN} {ds d : List Int} (hk : k < n) (h : stS n k (L.getD k zeroI) ds = some d) : goS n L (n - k) k ds = goS n L (n - (k + 1)) (k + 1) d := by
  obtain ⟨f, hf⟩ : ∃ f, n - k = f + 1 := ⟨n - k - 1, by omega⟩
  rw [hf, show n - (k + 1) = f by omega, goS, h]
theorem goS_stop {n k : Nat} {L : List IN} {ds : List Int} (hk : k < n) (h : stS n k (L.getD k zeroI) ds = none) : goS n L (n - k) k ds = none := by
  obtain ⟨f, hf⟩ : ∃ f, n - k = f + 1 := ⟨n - k - 1, by omega⟩
  rw [hf, goS, h]
theorem st_no1 {n k : Nat} {x : IN} {ds : List Int} (h : justB n k x = false) : stS n k x ds = none := by unfold stS; rw [if_neg (by rw [h]; simp)]
theorem st_no2 {n k : Nat} {x : IN} {ds : List Int} (h : ds.getD k 0 < tak x.o) : stS n k x ds = none := by unfold stS; rw [if_neg (by omega)]
theorem st_no3 {n k : Nat} {x : IN} {ds : List Int} (h : okJ x (ds.getD k 0) ds = false) : stS n k x ds = none := by
  unfold stS; split
  · rw [h]; rfl
  · rfl
theorem st_no4 {n k : Nat} {x : IN} {ds : List Int} (h : okN (ds.getD k 0 - tak x.o + 1) k (setJ x (ds.getD k 0) ds) = false) : stS n k x ds = none := by
  unfold stS; split
  · split
    · rw [h]; rfl
    · rfl
  · rfl
theorem st_yes {n k : Nat} {x : IN} {ds : List Int} (h1 : justB n k x = true) (h2 : tak x.o ≤ ds.getD k 0) (h3 : okJ x (ds.getD k 0) ds = true) (h4 : okN (ds.getD k 0 - tak x.o + 1) k (setJ x (ds.getD k 0) ds) = true) : stS n k x ds = some ((setJ x (ds.getD k 0) ds).set (k + 1) (ds.getD k 0 - tak x.o + 1)) := by
  unfold stS; rw [if_pos ⟨h1, h2⟩, if_pos h3, if_pos h4]
theorem resS_fin {n : Nat} {L : List IN} {ds : List Int} (h : goS n L (n - n) n ds = resC n L) : (resC n L).isSome = (ds.getD n 0 == 1) ∧ ∀ r, resC n L = some r → ds = r := by
  rw [Nat.sub_self, goS, finD] at h
  by_cases hd : ds.getD n 0 = 1
  · rw [if_pos hd] at h
    rw [← h, hd]
    exact ⟨rfl, fun r hr => Option.some.inj hr⟩
  · rw [if_neg hd] at h
    rw [← h]
    exact ⟨by simp; exact hd, fun r hr => by cases hr⟩
theorem set_le {ds : List Int} {i : Nat} {v : Int} (h : ∀ j, ds.getD j 0 ≤ 60) (hv : v ≤ 60) : ∀ j, (ds.set i v).getD j 0 ≤ 60 := by
  intro j
  rw [List.getD_eq_getElem?_getD, List.getElem?_set]
  by_cases hij : i = j
  · rw [if_pos hij]
    split
    · exact hv
    · simp
  · rw [if_neg hij, ← List.getD_eq_getElem?_getD]
    exact h j
set_option maxRecDepth 100000 in
set_option maxHeartbeats 60000000 in
theorem c_depths (L : List IN) (a : Option Addr) (n c : Nat) (w : World) (hr : RdI w a n L) (hn80 : n ≤ 80) (hs : ∀ v ∈ L, v.t.size ≤ maxLen) :
    Calls Tryd.prog 39 #[.slice a n c] w fun e w' => AnsD n L w.heap.size e w' ∧ Below w.heap.size w w' := by
  obtain ⟨i0, hi, hz0, hz1, hz2⟩ := info_parts infoN
  obtain ⟨R, hR⟩ : ∃ R, R = resC n L := ⟨_, rfl⟩
  have HR : Hid (R = resC n L) := hR
  have HS : Hid (∀ v ∈ L, v.t.size ≤ maxLen) := hs
  have HRD : Hid (RdI w a n L) := hr
  clear hr hs hR
  go_enter Tryd.func39, Tryd.ntmps39
  go_wp2_with (at_make; refine wpList_make_full _ rfl (.tmp 12) (.tmp 12) 80 rfl _ 3 i0 (.int .i64 0) 1 Tryd.underlying80 hi hz0 hz1 .i64 .i64 _ _ (n + 1) rfl rfl (by omega) (by omega) (by rw [hz2]; omega) (by unfold maxLen; omega) (Nat.le_refl _) ?_; intro w1 hown hgrow)
  have e0 := made_zeroN (n + 1)
  simp only [Value.cells] at hown
  rw [e0] at hown
  obtain ⟨g, hg⟩ : ∃ g, w.heap.size = g := ⟨_, rfl⟩
  rw [hg] at hown
  have HG : Hid (NB w1 g (zsD n 1)) := by unfold Hid; rw [zsD_one]; exact own_nb hown
  have HB : Hid (Below w.heap.size w w1) := (Below.refl _ _).grown hgrow (Nat.le_refl _) (fun k h => by cases h)
  rw [hg]
  have hgw : w.heap.size ≤ g := by omega
  have HG0 : Hid (w.heap.size = g) := hg
  clear hown hgrow e0 hg hi hz0 hz1 hz2
  go_loopw [5] (fun i wr => ∃ k : Nat, 1 ≤ k ∧ k ≤ n + 1 ∧ i = .int .i64 (k : Int) ∧ Hid (NB wr g (zsD n k)) ∧ Hid (Below w.heap.size w wr)) (fun i _ => n + 1 - (intOf i).toNat)
  case atStart => exact ⟨1, by omega, by omega, rfl, HG, HB⟩
  case round =>
    obtain ⟨k, hk1, hk, rfl, G, B⟩ := hrel
    by_cases hlt : k ≤ n
    · have c0 := G.out.cell (i := k) (by rw [zsD_len]; omega)
      have f0 := G.out.thaw k
      have G2 : Hid (NB (wr.setCell ⟨g, k, none⟩ (.int .i64 (-1))) g (zsD n (k + 1))) := by
        unfold Hid
        rw [← zsD_step n k hk1]
        exact G.out.set k (-1)
      have B2 : Hid (Below w.heap.size w (wr.setCell ⟨g, k, none⟩ (.int .i64 (-1)))) := B.out.setCell (by show w.heap.size ≤ g; omega) _
      have g1 : (0 : Int) ≤ (k : Int) := by omega
      have g2 : (k : Int) ≤ (n : Int) := by omega
      have g3 : (k : Int) < (n : Int) + 1 := by omega
      clear G B HG HB
      go_wp2
      go_roundw
      case rel => exact ⟨k + 1, by omega, by omega, by go_num, G2, B2⟩
      case measure => simp [intOf]; omega
    · have e : k = n + 1 := by omega
      subst e
      have G2 : Hid (NB wr g (ds0 n)) := by unfold Hid; rw [← zsD_full]; exact G.out
      have B2 := B
      clear G B HG HB
      go_wp2_with fail
      simp only [show ((n + 1 : Nat) : Int) = (n : Int) + 1 by omega]
      go_loopw [6] (fun i wr => ∃ (k : Nat) (ds : List Int), k ≤ n ∧ i = .int .i64 (k : Int) ∧ Hid (ds.length = n + 1) ∧ Hid (NB wr g ds) ∧ Hid (Below w.heap.size w wr) ∧ Hid (∀ j, ds.getD j 0 ≤ 60) ∧ Hid (goS n L (n - k) k ds = R)) (fun i _ => n - (intOf i).toNat)
      case atStart => exact ⟨0, ds0 n, by omega, rfl, by show (ds0 n).length = n + 1; simp [ds0], G2, B2, by
        show ∀ j, (ds0 n).getD j 0 ≤ 60
        intro j
        cases j with
        | zero => simp [ds0]
        | succ j =>
          simp only [ds0, List.getD_cons_succ]
          rw [List.getD_eq_getElem?_getD, List.getElem?_replicate]
          split <;> simp, by show goS n L (n - 0) 0 (ds0 n) = R; rw [HR.out]; rfl⟩
      case round =>
        clear G2 B2
        obtain ⟨k, ds, hk, rfl, HL, G, B, H60, HE⟩ := hrel
        by_cases hlt : k < n
        · obtain ⟨b, off, hab, hbl, hc⟩ := HRD.out.2 (by omega)
          subst hab
          obtain ⟨⟨vo, vp, vk, vn, vt⟩, hv⟩ : ∃ v, v = L.getD k zeroI := ⟨_, rfl⟩
          obtain ⟨d0, d1, d2, d3, d4⟩ := RdI.at hc hlt hv
          dsimp only at d0 d1 d2 d3 d4
          have e0 : wr.cell? ⟨b, off + k * 5, none⟩ = some (.int .i64 vo) := by rw [B.out.cell (p := ⟨b, off + k * 5, none⟩) hbl, d0]
          have e1 : wr.cell? ⟨b, off + k * 5 + 1, none⟩ = some (.int .i64 vp) := by rw [B.out.cell (p := ⟨b, off + k * 5 + 1, none⟩) hbl, d1]
          have e2 : wr.cell? ⟨b, off + k * 5 + 2, none⟩ = some (.int .i64 vk) := by rw [B.out.cell (p := ⟨b, off + k * 5 + 2, none⟩) hbl, d2]
          have e3 : wr.cell? ⟨b, off + k * 5 + 3, none⟩ = some (.int .i64 vn) := by rw [B.out.cell (p := ⟨b, off + k * 5 + 3, none⟩) hbl, d3]
          have e4 : wr.cell? ⟨b, off + k * 5 + 4, none⟩ = some (.string vt) := by rw [B.out.cell (p := ⟨b, off + k * 5 + 4, none⟩) hbl, d4]
          have HV : Hid ((⟨vo, vp, vk, vn, vt⟩ : IN) = L.getD k zeroI) := hv
          have hvs : vt.size ≤ maxLen := by
            have := getD_ofX (d := zeroI) HS.out (show k < L.length by have := HRD.out.1; omega)
            rw [← hv] at this
            exact this
          have g1 : (0 : Int) ≤ (k : Int) := by omega
          have g2 : (k : Int) < (n : Int) := by omega
          have g3 : (k : Int) < (n : Int) + 1 := by omega
          have g4 : (k : Int) + 1 < (n : Int) + 1 := by omega
          have g5 : (0 : Int) ≤ (k : Int) + 1 := by omega
          clear hc hv d0 d1 d2 d3 d4
          obtain ⟨d, hd⟩ : ∃ d, ds.getD k 0 = d := ⟨_, rfl⟩
          obtain ⟨d1, hd1⟩ : ∃ d, ds.getD (k + 1) 0 = d := ⟨_, rfl⟩
          have HD : Hid (ds.getD k 0 = d) := hd
          have HD1 : Hid (ds.getD (k + 1) 0 = d1) := hd1
          have hd60 : d ≤ 60 := by rw [← hd]; exact H60.out k
          have hd160 : d1 ≤ 60 := by rw [← hd1]; exact H60.out (k + 1)
          obtain ⟨V1, hV1⟩ : ∃ W, wr.alloc (.cells #[.int .i64 vo, .int .i64 vp, .int .i64 vk, .int .i64 vn, .string vt] 59) = W := ⟨_, rfl⟩
          have bV : Below wr.heap.size wr V1 := by rw [← hV1]; exact (Below.refl _ _).alloc (Nat.le_refl _) _
          have BV : Hid (Below w.heap.size w V1) := B.out.trans (bV.mono B.out.size)
          have XV : Hid (Box V1 wr.heap.size 59 #[.int .i64 vo, .int .i64 vp, .int .i64 vk, .int .i64 vn, .string vt]) := by unfold Hid; rw [← hV1]; exact Box.new _ _ _
          have GV : Hid (NB V1 g ds) := G.out.below bV
          have lg : g < wr.heap.size := Box.lt G.out
          obtain ⟨y0, y1, y2, y3, y4⟩ := box5 XV.out
          have q0 := GV.out.cell (i := k) (by have := HL.out; omega)
          have q1 := GV.out.cell (i := k + 1) (by have := HL.out; omega)
          rw [hd] at q0
          rw [hd1] at q1
          have f1 := GV.out.thaw (k + 1)
          clear bV B G hd hd1
          by_cases hneg : d < 0
          · have E : Hid (resC n L = none) := by
              unfold Hid
              rw [← HR.out, ← HE.out]
              exact goS_stop hlt (by rw [← HV.out]; exact st_no2 (by rw [HD.out]; have := tak_nn vo; dsimp only; omega))
            clear HE HV HD HS HRD hvs
            --@l1
            as_aux_lemma =>
              go_wp2_with (first | (go_at_call 40; refine (c_in _ _ _ _).mono ?_; rintro e w' ⟨rfl, rfl⟩))
              go_ret2
              exact ⟨⟨by rw [E.out, HG0.out]; rfl, fun r hr => by rw [E.out] at hr; cases hr⟩, BV.out⟩
            --@@
          have hd0 : 0 ≤ d := by omega
          clear hneg
          by_cases ho1 : vo = 1
          · subst ho1
            cases p0 : (vp == 0)
            · have p1 : (vp != 0) = true := by simp [bne, p0]
              have E : Hid (resC n L = none) := by
                unfold Hid
                rw [← HR.out, ← HE.out]
                exact goS_stop hlt (by rw [← HV.out]; exact st_no1 (by unfold justB; rw [if_pos rfl]; dsimp only; rw [p0]; rfl))
              clear HE HV HD HS HRD hvs
              --@l2
              as_aux_lemma =>
                go_wp2_with (first | (go_at_call 40; refine (c_in _ _ _ _).mono ?_; rintro e w' ⟨rfl, rfl⟩))
                go_ret2
                exact ⟨⟨by rw [E.out, HG0.out]; rfl, fun r hr => by rw [E.out] at hr; cases hr⟩, BV.out⟩
              --@@
            have p1 : (vp != 0) = false := by simp [bne, p0]
            obtain ⟨vb, hvb⟩ : ∃ x, valB vk vn vt = x := ⟨_, rfl⟩
            have CV : Hid (∀ W, Calls Tryd.prog 41 #[.agg #[.int .i64 vk, .int .i64 vn, .string vt]] W fun e w' => e = .returned (.bool vb) ∧ Below W.heap.size W w') := fun W => by rw [← hvb]; exact c_specOK vk vn vt W hvs
            have HVB : Hid (valB vk vn vt = vb) := hvb
            clear hvb
            go_wp2_with fail
            refine (CV.out _).mono ?_
            rintro e w2 ⟨rfl, hb2⟩
            have BV' : Hid (Below w.heap.size w w2) := BV.out.trans (hb2.mono BV.out.size)
            have GV' : Hid (NB w2 g ds) := GV.out.below hb2
            clear hb2 BV GV hV1 XV y0 y1 y2 y3 y4 q0 q1 f1 e0 e1 e2 e3 e4 CV
            have BV : Hid (Below w.heap.size w w2) := BV'
            have GV : Hid (NB w2 g ds) := GV'
            have q1 := GV.out.cell (i := k + 1) (by have := HL.out; omega)
            rw [HD1.out] at q1
            have f1 := GV.out.thaw (k + 1)
            clear BV' GV'
            cases vb
            · have E : Hid (resC n L = none) := by
                unfold Hid
                rw [← HR.out, ← HE.out]
                exact goS_stop hlt (by rw [← HV.out]; exact st_no1 (by unfold justB; rw [if_pos rfl]; dsimp only; rw [HVB.out]; simp))
              clear HE HV HD HS HRD hvs
              --@l3
              as_aux_lemma =>
                go_wp2_with (first | (go_at_call 40; refine (c_in _ _ _ _).mono ?_; rintro e w' ⟨rfl, rfl⟩))
                go_ret2
                exact ⟨⟨by rw [E.out, HG0.out]; rfl, fun r hr => by rw [E.out] at hr; cases hr⟩, BV.out⟩
              --@@
            have HJ : Hid (justB n k (⟨1, vp, vk, vn, vt⟩ : IN) = true) := by unfold Hid; unfold justB; rw [if_pos rfl]; dsimp only; rw [HVB.out, p0]; rfl
            have HOJ : Hid (okJ (⟨1, vp, vk, vn, vt⟩ : IN) (ds.getD k 0) ds = true) := by unfold Hid okJ; rw [show jmp (1 : Int) = false from rfl]; rfl
            have HSJ : Hid (setJ (⟨1, vp, vk, vn, vt⟩ : IN) d ds = ds) := by unfold Hid setJ; rw [show jmp ((1 : Int)) = false from rfl]; rfl
            have HNX : Hid (d - 0 + 1 = d + 1) := by unfold Hid; omega
            by_cases h6 : 60 < d + 1
            · have E : Hid (resC n L = none) := by
                unfold Hid
                rw [← HR.out, ← HE.out]
                exact goS_stop hlt (by rw [← HV.out]; exact st_no4 (by dsimp only; rw [HD.out, show tak 1 = 0 from rfl, HSJ.out]; rw [HNX.out]; unfold okN; rw [decide_eq_false (by omega)]; rfl))
              clear HE HV HD HS HRD hvs
              --@l4
              as_aux_lemma =>
                go_wp2_with (first | (go_at_call 40; refine (c_in _ _ _ _).mono ?_; rintro e w' ⟨rfl, rfl⟩))
                go_ret2
                exact ⟨⟨by rw [E.out, HG0.out]; rfl, fun r hr => by rw [E.out] at hr; cases hr⟩, BV.out⟩
              --@@
            by_cases h7 : d1 < 0
            · have ES : Hid (goS n L (n - (k + 1)) (k + 1) (ds.set (k + 1) (d + 1)) = R) := by
                unfold Hid
                rw [← HE.out]
                refine (goS_step hlt ?_).symm
                rw [← HV.out, st_yes HJ.out (by dsimp only; rw [HD.out, show tak 1 = 0 from rfl]; omega) HOJ.out (by dsimp only; rw [HD.out, show tak 1 = 0 from rfl, HSJ.out]; rw [HNX.out]; unfold okN; rw [HD1.out, decide_eq_true (show d + 1 ≤ 60 by omega), decide_eq_true h7]; simp)]
                dsimp only
                rw [HD.out, show tak 1 = 0 from rfl, HSJ.out]
                rw [HNX.out]
              have LS : Hid ((ds.set (k + 1) (d + 1)).length = n + 1) := by unfold Hid; simp [HL.out]
              have NS : Hid (NB (w2.setCell ⟨g, k + 1, none⟩ (.int .i64 (d + 1))) g (ds.set (k + 1) (d + 1))) := GV.out.set (k + 1) (d + 1)
              have BS : Hid (Below w.heap.size w (w2.setCell ⟨g, k + 1, none⟩ (.int .i64 (d + 1)))) := BV.out.setCell (by show w.heap.size ≤ g; omega) _
              have M6 : Hid (∀ j, (ds.set (k + 1) (d + 1)).getD j 0 ≤ 60) := set_le H60.out (by omega)
              clear HE HV HD HS HRD hvs HSJ HNX HJ HOJ HD1 H60 HL GV
              --@l5
              as_aux_lemma =>
                go_wp2_with (first | (go_at_call 40; refine (c_in _ _ _ _).mono ?_; rintro e w' ⟨rfl, rfl⟩))
                go_roundw
                case rel => exact ⟨k + 1, _, by omega, by go_num, LS, NS, BS, M6, ES⟩
                case measure => simp [intOf]; omega
              --@@
            by_cases h8 : d1 = d + 1
            · have h9 : (d1 != d + 1) = false := by simp [h8]
              have H8 : Hid (d1 = d + 1) := h8
              clear h8
              have ES : Hid (goS n L (n - (k + 1)) (k + 1) (ds.set (k + 1) (d + 1)) = R) := by
                unfold Hid
                rw [← HE.out]
                refine (goS_step hlt ?_).symm
                rw [← HV.out, st_yes HJ.out (by dsimp only; rw [HD.out, show tak 1 = 0 from rfl]; omega) HOJ.out (by dsimp only; rw [HD.out, show tak 1 = 0 from rfl, HSJ.out]; rw [HNX.out]; unfold okN; rw [HD1.out, decide_eq_true (show d + 1 ≤ 60 by omega), decide_eq_false h7, show (d1 == d + 1) = true by simp [H8.out]]; simp)]
                dsimp only
                rw [HD.out, show tak 1 = 0 from rfl, HSJ.out]
                rw [HNX.out]
              have LS : Hid ((ds.set (k + 1) (d + 1)).length = n + 1) := by unfold Hid; simp [HL.out]
              have NS : Hid (NB (w2.setCell ⟨g, k + 1, none⟩ (.int .i64 (d + 1))) g (ds.set (k + 1) (d + 1))) := GV.out.set (k + 1) (d + 1)
              have BS : Hid (Below w.heap.size w (w2.setCell ⟨g, k + 1, none⟩ (.int .i64 (d + 1)))) := BV.out.setCell (by show w.heap.size ≤ g; omega) _
              have M6 : Hid (∀ j, (ds.set (k + 1) (d + 1)).getD j 0 ≤ 60) := set_le H60.out (by omega)
              clear HE HV HD HS HRD hvs HSJ HNX HJ HOJ HD1 H60 HL GV
              --@l6
              as_aux_lemma =>
                go_wp2_with (first | (go_at_call 40; refine (c_in _ _ _ _).mono ?_; rintro e w' ⟨rfl, rfl⟩))
                go_roundw
                case rel => exact ⟨k + 1, _, by omega, by go_num, LS, NS, BS, M6, ES⟩
                case measure => simp [intOf]; omega
              --@@
            have h9 : (d1 != d + 1) = true := by simp [h8]
            have H8 : Hid (¬ d1 = d + 1) := h8
            clear h8
            have E : Hid (resC n L = none) := by
              unfold Hid
              rw [← HR.out, ← HE.out]
              exact goS_stop hlt (by rw [← HV.out]; exact st_no4 (by dsimp only; rw [HD.out, show tak 1 = 0 from rfl, HSJ.out]; rw [HNX.out]; unfold okN; rw [HD1.out, decide_eq_false h7, show (d1 == d + 1) = false by simp [H8.out]]; simp))
            clear HE HV HD HS HRD hvs
            --@l7
            as_aux_lemma =>
              go_wp2_with (first | (go_at_call 40; refine (c_in _ _ _ _).mono ?_; rintro e w' ⟨rfl, rfl⟩))
              go_ret2
              exact ⟨⟨by rw [E.out, HG0.out]; rfl, fun r hr => by rw [E.out] at hr; cases hr⟩, BV.out⟩
            --@@
          by_cases ho2 : vo = 2
          · subst ho2
            obtain ⟨ib, hib⟩ : ∃ x, inB vp 0 2 = x := ⟨_, rfl⟩
            have HIB : Hid (inB vp 0 2 = ib) := hib
            have CI : Hid (∀ W, Calls Tryd.prog 40 #[.int .i64 vp, .int .i64 0, .int .i64 2] W fun e w' => e = .returned (.bool ib) ∧ w' = W) := fun W => by rw [← hib]; exact c_in _ _ _ W
            clear hib
            cases ib
            · have E : Hid (resC n L = none) := by
                unfold Hid
                rw [← HR.out, ← HE.out]
                exact goS_stop hlt (by rw [← HV.out]; exact st_no1 (by unfold justB; rw [if_neg (by simp), if_pos rfl]; dsimp only; rw [HIB.out]; simp))
              clear HE HV HD HS HRD hvs
              --@l8
              as_aux_lemma =>
                go_wp2_with (go_at_call 40; refine (CI.out _).mono ?_; rintro e w' ⟨rfl, rfl⟩)
                go_ret2
                exact ⟨⟨by rw [E.out, HG0.out]; rfl, fun r hr => by rw [E.out] at hr; cases hr⟩, BV.out⟩
              --@@
            cases k0 : (vk == 0)
            · have E : Hid (resC n L = none) := by
                unfold Hid
                rw [← HR.out, ← HE.out]
                exact goS_stop hlt (by rw [← HV.out]; exact st_no1 (by unfold justB; rw [if_neg (by simp), if_pos rfl]; dsimp only; unfold zV; dsimp only; simp [k0]))
              clear HE HV HD HS HRD hvs
              --@l9
              as_aux_lemma =>
                go_wp2_with (go_at_call 40; refine (CI.out _).mono ?_; rintro e w' ⟨rfl, rfl⟩)
                go_ret2
                exact ⟨⟨by rw [E.out, HG0.out]; rfl, fun r hr => by rw [E.out] at hr; cases hr⟩, BV.out⟩
              --@@
            cases n0 : (vn == 0)
            · have E : Hid (resC n L = none) := by
                unfold Hid
                rw [← HR.out, ← HE.out]
                exact goS_stop hlt (by rw [← HV.out]; exact st_no1 (by unfold justB; rw [if_neg (by simp), if_pos rfl]; dsimp only; unfold zV; dsimp only; simp [n0]))
              clear HE HV HD HS HRD hvs
              --@l10
              as_aux_lemma =>
                go_wp2_with (go_at_call 40; refine (CI.out _).mono ?_; rintro e w' ⟨rfl, rfl⟩)
                go_ret2
                exact ⟨⟨by rw [E.out, HG0.out]; rfl, fun r hr => by rw [E.out] at hr; cases hr⟩, BV.out⟩
              --@@
            cases t0 : (vt.toList == [])
            · have E : Hid (resC n L = none) := by
                unfold Hid
                rw [← HR.out, ← HE.out]
                exact goS_stop hlt (by rw [← HV.out]; exact st_no1 (by unfold justB; rw [if_neg (by simp), if_pos rfl]; dsimp only; unfold zV; dsimp only; simp [t0]))
              clear HE HV HD HS HRD hvs
              --@l11
              as_aux_lemma =>
                go_wp2_with (go_at_call 40; refine (CI.out _).mono ?_; rintro e w' ⟨rfl, rfl⟩)
                go_ret2
                exact ⟨⟨by rw [E.out, HG0.out]; rfl, fun r hr => by rw [E.out] at hr; cases hr⟩, BV.out⟩
              --@@
            have HZ : Hid (zV (⟨2, vp, vk, vn, vt⟩ : IN) = true) := by unfold Hid zV; dsimp only; rw [k0, n0, t0]; rfl
            have HJ : Hid (justB n k (⟨2, vp, vk, vn, vt⟩ : IN) = true) := by unfold Hid; unfold justB; rw [if_neg (by simp), if_pos rfl]; dsimp only; rw [HZ.out, HIB.out]; rfl
            have HOJ : Hid (okJ (⟨2, vp, vk, vn, vt⟩ : IN) (ds.getD k 0) ds = true) := by unfold Hid okJ; rw [show jmp (2 : Int) = false from rfl]; rfl
            have HSJ : Hid (setJ (⟨2, vp, vk, vn, vt⟩ : IN) d ds = ds) := by unfold Hid setJ; rw [show jmp ((2 : Int)) = false from rfl]; rfl
            have HNX : Hid (d - 0 + 1 = d + 1) := by unfold Hid; omega
            by_cases h6 : 60 < d + 1
            · have E : Hid (resC n L = none) := by
                unfold Hid
                rw [← HR.out, ← HE.out]
                exact goS_stop hlt (by rw [← HV.out]; exact st_no4 (by dsimp only; rw [HD.out, show tak 2 = 0 from rfl, HSJ.out]; rw [HNX.out]; unfold okN; rw [decide_eq_false (by omega)]; rfl))
              clear HE HV HD HS HRD hvs
              --@l12
              as_aux_lemma =>
                go_wp2_with (go_at_call 40; refine (CI.out _).mono ?_; rintro e w' ⟨rfl, rfl⟩)
                go_ret2
                exact ⟨⟨by rw [E.out, HG0.out]; rfl, fun r hr => by rw [E.out] at hr; cases hr⟩, BV.out⟩
              --@@
            by_cases h7 : d1 < 0
            · have ES : Hid (goS n L (n - (k + 1)) (k + 1) (ds.set (k + 1) (d + 1)) = R) := by
                unfold Hid
                rw [← HE.out]
                refine (goS_step hlt ?_).symm
                rw [← HV.out, st_yes HJ.out (by dsimp only; rw [HD.out, show tak 2 = 0 from rfl]; omega) HOJ.out (by dsimp only; rw [HD.out, show tak 2 = 0 from rfl, HSJ.out]; rw [HNX.out]; unfold okN; rw [HD1.out, decide_eq_true (show d + 1 ≤ 60 by omega), decide_eq_true h7]; simp)]
                dsimp only
                rw [HD.out, show tak 2 = 0 from rfl, HSJ.out]
                rw [HNX.out]
              have LS : Hid ((ds.set (k + 1) (d + 1)).length = n + 1) := by unfold Hid; simp [HL.out]
              have NS : Hid (NB (V1.setCell ⟨g, k + 1, none⟩ (.int .i64 (d + 1))) g (ds.set (k + 1) (d + 1))) := GV.out.set (k + 1) (d + 1)
              have BS : Hid (Below w.heap.size w (V1.setCell ⟨g, k + 1, none⟩ (.int .i64 (d + 1)))) := BV.out.setCell (by show w.heap.size ≤ g; omega) _
              have M6 : Hid (∀ j, (ds.set (k + 1) (d + 1)).getD j 0 ≤ 60) := set_le H60.out (by omega)
              clear HE HV HD HS HRD hvs HSJ HNX HJ HOJ HD1 H60 HL GV
              --@l13
              as_aux_lemma =>
                go_wp2_with (go_at_call 40; refine (CI.out _).mono ?_; rintro e w' ⟨rfl, rfl⟩)
                go_roundw
                case rel => exact ⟨k + 1, _, by omega, by go_num, LS, NS, BS, M6, ES⟩
                case measure => simp [intOf]; omega
              --@@
            by_cases h8 : d1 = d + 1
            · have h9 : (d1 != d + 1) = false := by simp [h8]
              have H8 : Hid (d1 = d + 1) := h8
              clear h8
              have ES : Hid (goS n L (n - (k + 1)) (k + 1) (ds.set (k + 1) (d + 1)) = R) := by
                unfold Hid
                rw [← HE.out]
                refine (goS_step hlt ?_).symm
                rw [← HV.out, st_yes HJ.out (by dsimp only; rw [HD.out, show tak 2 = 0 from rfl]; omega) HOJ.out (by dsimp only; rw [HD.out, show tak 2 = 0 from rfl, HSJ.out]; rw [HNX.out]; unfold okN; rw [HD1.out, decide_eq_true (show d + 1 ≤ 60 by omega), decide_eq_false h7, show (d1 == d + 1) = true by simp [H8.out]]; simp)]
                dsimp only
                rw [HD.out, show tak 2 = 0 from rfl, HSJ.out]
                rw [HNX.out]
              have LS : Hid ((ds.set (k + 1) (d + 1)).length = n + 1) := by unfold Hid; simp [HL.out]
              have NS : Hid (NB (V1.setCell ⟨g, k + 1, none⟩ (.int .i64 (d + 1))) g (ds.set (k + 1) (d + 1))) := GV.out.set (k + 1) (d + 1)
              have BS : Hid (Below w.heap.size w (V1.setCell ⟨g, k + 1, none⟩ (.int .i64 (d + 1)))) := BV.out.setCell (by show w.heap.size ≤ g; omega) _
              have M6 : Hid (∀ j, (ds.set (k + 1) (d + 1)).getD j 0 ≤ 60) := set_le H60.out (by omega)
              clear HE HV HD HS HRD hvs HSJ HNX HJ HOJ HD1 H60 HL GV
              --@l14
              as_aux_lemma =>
                go_wp2_with (go_at_call 40; refine (CI.out _).mono ?_; rintro e w' ⟨rfl, rfl⟩)
                go_roundw
                case rel => exact ⟨k + 1, _, by omega, by go_num, LS, NS, BS, M6, ES⟩
                case measure => simp [intOf]; omega
              --@@
            have h9 : (d1 != d + 1) = true := by simp [h8]
            have H8 : Hid (¬ d1 = d + 1) := h8
            clear h8
            have E : Hid (resC n L = none) := by
              unfold Hid
              rw [← HR.out, ← HE.out]
              exact goS_stop hlt (by rw [← HV.out]; exact st_no4 (by dsimp only; rw [HD.out, show tak 2 = 0 from rfl, HSJ.out]; rw [HNX.out]; unfold okN; rw [HD1.out, decide_eq_false h7, show (d1 == d + 1) = false by simp [H8.out]]; simp))
            clear HE HV HD HS HRD hvs
            --@l15
            as_aux_lemma =>
              go_wp2_with (go_at_call 40; refine (CI.out _).mono ?_; rintro e w' ⟨rfl, rfl⟩)
              go_ret2
              exact ⟨⟨by rw [E.out, HG0.out]; rfl, fun r hr => by rw [E.out] at hr; cases hr⟩, BV.out⟩
            --@@
          by_cases ho3 : vo = 3
          · subst ho3
            obtain ⟨ib, hib⟩ : ∃ x, inB vp 3 5 = x := ⟨_, rfl⟩
            have HIB : Hid (inB vp 3 5 = ib) := hib
            have CI : Hid (∀ W, Calls Tryd.prog 40 #[.int .i64 vp, .int .i64 3, .int .i64 5] W fun e w' => e = .returned (.bool ib) ∧ w' = W) := fun W => by rw [← hib]; exact c_in _ _ _ W
            clear hib
            cases ib
            · have E : Hid (resC n L = none) := by
                unfold Hid
                rw [← HR.out, ← HE.out]
                exact goS_stop hlt (by rw [← HV.out]; exact st_no1 (by unfold justB; rw [if_neg (by simp), if_neg (by simp), if_pos rfl]; dsimp only; rw [HIB.out]; simp))
              clear HE HV HD HS HRD hvs
              --@l16
              as_aux_lemma =>
                go_wp2_with (go_at_call 40; refine (CI.out _).mono ?_; rintro e w' ⟨rfl, rfl⟩)
                go_ret2
                exact ⟨⟨by rw [E.out, HG0.out]; rfl, fun r hr => by rw [E.out] at hr; cases hr⟩, BV.out⟩
              --@@
            cases k0 : (vk == 0)
            · have E : Hid (resC n L = none) := by
                unfold Hid
                rw [← HR.out, ← HE.out]
                exact goS_stop hlt (by rw [← HV.out]; exact st_no1 (by unfold justB; rw [if_neg (by simp), if_neg (by simp), if_pos rfl]; dsimp only; unfold zV; dsimp only; simp [k0]))
              clear HE HV HD HS HRD hvs
              --@l17
              as_aux_lemma =>
                go_wp2_with (go_at_call 40; refine (CI.out _).mono ?_; rintro e w' ⟨rfl, rfl⟩)
                go_ret2
                exact ⟨⟨by rw [E.out, HG0.out]; rfl, fun r hr => by rw [E.out] at hr; cases hr⟩, BV.out⟩
              --@@
            cases n0 : (vn == 0)
            · have E : Hid (resC n L = none) := by
                unfold Hid
                rw [← HR.out, ← HE.out]
                exact goS_stop hlt (by rw [← HV.out]; exact st_no1 (by unfold justB; rw [if_neg (by simp), if_neg (by simp), if_pos rfl]; dsimp only; unfold zV; dsimp only; simp [n0]))
              clear HE HV HD HS HRD hvs
              --@l18
              as_aux_lemma =>
                go_wp2_with (go_at_call 40; refine (CI.out _).mono ?_; rintro e w' ⟨rfl, rfl⟩)
                go_ret2
                exact ⟨⟨by rw [E.out, HG0.out]; rfl, fun r hr => by rw [E.out] at hr; cases hr⟩, BV.out⟩
              --@@
            cases t0 : (vt.toList == [])
            · have E : Hid (resC n L = none) := by
                unfold Hid
                rw [← HR.out, ← HE.out]
                exact goS_stop hlt (by rw [← HV.out]; exact st_no1 (by unfold justB; rw [if_neg (by simp), if_neg (by simp), if_pos rfl]; dsimp only; unfold zV; dsimp only; simp [t0]))
              clear HE HV HD HS HRD hvs
              --@l19
              as_aux_lemma =>
                go_wp2_with (go_at_call 40; refine (CI.out _).mono ?_; rintro e w' ⟨rfl, rfl⟩)
                go_ret2
                exact ⟨⟨by rw [E.out, HG0.out]; rfl, fun r hr => by rw [E.out] at hr; cases hr⟩, BV.out⟩
              --@@
            have HZ : Hid (zV (⟨3, vp, vk, vn, vt⟩ : IN) = true) := by unfold Hid zV; dsimp only; rw [k0, n0, t0]; rfl
            by_cases hd : d < 1
            · have E : Hid (resC n L = none) := by
                unfold Hid
                rw [← HR.out, ← HE.out]
                exact goS_stop hlt (by rw [← HV.out]; exact st_no2 (by rw [HD.out]; exact hd))
              clear HE HV HD HS HRD hvs
              --@l20
              as_aux_lemma =>
                go_wp2_with (go_at_call 40; refine (CI.out _).mono ?_; rintro e w' ⟨rfl, rfl⟩)
                go_ret2
                exact ⟨⟨by rw [E.out, HG0.out]; rfl, fun r hr => by rw [E.out] at hr; cases hr⟩, BV.out⟩
              --@@
            have HJ : Hid (justB n k (⟨3, vp, vk, vn, vt⟩ : IN) = true) := by unfold Hid; unfold justB; rw [if_neg (by simp), if_neg (by simp), if_pos rfl]; dsimp only; rw [HZ.out, HIB.out]; rfl
            have HOJ : Hid (okJ (⟨3, vp, vk, vn, vt⟩ : IN) (ds.getD k 0) ds = true) := by unfold Hid okJ; rw [show jmp (3 : Int) = false from rfl]; rfl
            have HSJ : Hid (setJ (⟨3, vp, vk, vn, vt⟩ : IN) d ds = ds) := by unfold Hid setJ; rw [show jmp ((3 : Int)) = false from rfl]; rfl
            have HNX : Hid (d - 1 + 1 = d) := by unfold Hid; omega
            by_cases h7 : d1 < 0
            · have ES : Hid (goS n L (n - (k + 1)) (k + 1) (ds.set (k + 1) (d)) = R) := by
                unfold Hid
                rw [← HE.out]
                refine (goS_step hlt ?_).symm
                rw [← HV.out, st_yes HJ.out (by dsimp only; rw [HD.out, show tak 3 = 1 from rfl]; omega) HOJ.out (by dsimp only; rw [HD.out, show tak 3 = 1 from rfl, HSJ.out]; rw [HNX.out]; unfold okN; rw [HD1.out, decide_eq_true (show d ≤ 60 by omega), decide_eq_true h7]; simp)]
                dsimp only
                rw [HD.out, show tak 3 = 1 from rfl, HSJ.out]
                rw [HNX.out]
              have LS : Hid ((ds.set (k + 1) (d)).length = n + 1) := by unfold Hid; simp [HL.out]
              have NS : Hid (NB (V1.setCell ⟨g, k + 1, none⟩ (.int .i64 (d))) g (ds.set (k + 1) (d))) := GV.out.set (k + 1) (d)
              have BS : Hid (Below w.heap.size w (V1.setCell ⟨g, k + 1, none⟩ (.int .i64 (d)))) := BV.out.setCell (by show w.heap.size ≤ g; omega) _
              have M6 : Hid (∀ j, (ds.set (k + 1) (d)).getD j 0 ≤ 60) := set_le H60.out (by omega)
              clear HE HV HD HS HRD hvs HSJ HNX HJ HOJ HD1 H60 HL GV
              --@l21
              as_aux_lemma =>
                go_wp2_with (go_at_call 40; refine (CI.out _).mono ?_; rintro e w' ⟨rfl, rfl⟩)
                go_roundw
                case rel => exact ⟨k + 1, _, by omega, by go_num, LS, NS, BS, M6, ES⟩
                case measure => simp [intOf]; omega
              --@@
            by_cases h8 : d1 = d
            · have h9 : (d1 != d) = false := by simp [h8]
              have H8 : Hid (d1 = d) := h8
              clear h8
              have ES : Hid (goS n L (n - (k + 1)) (k + 1) (ds.set (k + 1) (d)) = R) := by
                unfold Hid
                rw [← HE.out]
                refine (goS_step hlt ?_).symm
                rw [← HV.out, st_yes HJ.out (by dsimp only; rw [HD.out, show tak 3 = 1 from rfl]; omega) HOJ.out (by dsimp only; rw [HD.out, show tak 3 = 1 from rfl, HSJ.out]; rw [HNX.out]; unfold okN; rw [HD1.out, decide_eq_true (show d ≤ 60 by omega), decide_eq_false h7, show (d1 == d) = true by simp [H8.out]]; simp)]
                dsimp only
                rw [HD.out, show tak 3 = 1 from rfl, HSJ.out]
                rw [HNX.out]
              have LS : Hid ((ds.set (k + 1) (d)).length = n + 1) := by unfold Hid; simp [HL.out]
              have NS : Hid (NB (V1.setCell ⟨g, k + 1, none⟩ (.int .i64 (d))) g (ds.set (k + 1) (d))) := GV.out.set (k + 1) (d)
              have BS : Hid (Below w.heap.size w (V1.setCell ⟨g, k + 1, none⟩ (.int .i64 (d)))) := BV.out.setCell (by show w.heap.size ≤ g; omega) _
              have M6 : Hid (∀ j, (ds.set (k + 1) (d)).getD j 0 ≤ 60) := set_le H60.out (by omega)
              clear HE HV HD HS HRD hvs HSJ HNX HJ HOJ HD1 H60 HL GV
              --@l22
              as_aux_lemma =>
                go_wp2_with (go_at_call 40; refine (CI.out _).mono ?_; rintro e w' ⟨rfl, rfl⟩)
                go_roundw
                case rel => exact ⟨k + 1, _, by omega, by go_num, LS, NS, BS, M6, ES⟩
                case measure => simp [intOf]; omega
              --@@
            have h9 : (d1 != d) = true := by simp [h8]
            have H8 : Hid (¬ d1 = d) := h8
            clear h8
            have E : Hid (resC n L = none) := by
              unfold Hid
              rw [← HR.out, ← HE.out]
              exact goS_stop hlt (by rw [← HV.out]; exact st_no4 (by dsimp only; rw [HD.out, show tak 3 = 1 from rfl, HSJ.out]; rw [HNX.out]; unfold okN; rw [HD1.out, decide_eq_false h7, show (d1 == d) = false by simp [H8.out]]; simp))
            clear HE HV HD HS HRD hvs
            --@l23
            as_aux_lemma =>
              go_wp2_with (go_at_call 40; refine (CI.out _).mono ?_; rintro e w' ⟨rfl, rfl⟩)
              go_ret2
              exact ⟨⟨by rw [E.out, HG0.out]; rfl, fun r hr => by rw [E.out] at hr; cases hr⟩, BV.out⟩
            --@@
          by_cases ho4 : vo = 4
          · subst ho4
            obtain ⟨ib, hib⟩ : ∃ x, inB vp 6 13 = x := ⟨_, rfl⟩
            have HIB : Hid (inB vp 6 13 = ib) := hib
            have CI : Hid (∀ W, Calls Tryd.prog 40 #[.int .i64 vp, .int .i64 6, .int .i64 13] W fun e w' => e = .returned (.bool ib) ∧ w' = W) := fun W => by rw [← hib]; exact c_in _ _ _ W
            clear hib
            cases ib
            · have E : Hid (resC n L = none) := by
                unfold Hid
                rw [← HR.out, ← HE.out]
                exact goS_stop hlt (by rw [← HV.out]; exact st_no1 (by unfold justB; rw [if_neg (by simp), if_neg (by simp), if_neg (by simp), if_pos rfl]; dsimp only; rw [HIB.out]; simp))
              clear HE HV HD HS HRD hvs
              --@l24
              as_aux_lemma =>
                go_wp2_with (go_at_call 40; refine (CI.out _).mono ?_; rintro e w' ⟨rfl, rfl⟩)
                go_ret2
                exact ⟨⟨by rw [E.out, HG0.out]; rfl, fun r hr => by rw [E.out] at hr; cases hr⟩, BV.out⟩
              --@@
            cases k0 : (vk == 0)
            · have E : Hid (resC n L = none) := by
                unfold Hid
                rw [← HR.out, ← HE.out]
                exact goS_stop hlt (by rw [← HV.out]; exact st_no1 (by unfold justB; rw [if_neg (by simp), if_neg (by simp), if_neg (by simp), if_pos rfl]; dsimp only; unfold zV; dsimp only; simp [k0]))
              clear HE HV HD HS HRD hvs
              --@l25
              as_aux_lemma =>
                go_wp2_with (go_at_call 40; refine (CI.out _).mono ?_; rintro e w' ⟨rfl, rfl⟩)
                go_ret2
                exact ⟨⟨by rw [E.out, HG0.out]; rfl, fun r hr => by rw [E.out] at hr; cases hr⟩, BV.out⟩
              --@@
            cases n0 : (vn == 0)
            · have E : Hid (resC n L = none) := by
                unfold Hid
                rw [← HR.out, ← HE.out]
                exact goS_stop hlt (by rw [← HV.out]; exact st_no1 (by unfold justB; rw [if_neg (by simp), if_neg (by simp), if_neg (by simp), if_pos rfl]; dsimp only; unfold zV; dsimp only; simp [n0]))
              clear HE HV HD HS HRD hvs
              --@l26
              as_aux_lemma =>
                go_wp2_with (go_at_call 40; refine (CI.out _).mono ?_; rintro e w' ⟨rfl, rfl⟩)
                go_ret2
                exact ⟨⟨by rw [E.out, HG0.out]; rfl, fun r hr => by rw [E.out] at hr; cases hr⟩, BV.out⟩
              --@@
            cases t0 : (vt.toList == [])
            · have E : Hid (resC n L = none) := by
                unfold Hid
                rw [← HR.out, ← HE.out]
                exact goS_stop hlt (by rw [← HV.out]; exact st_no1 (by unfold justB; rw [if_neg (by simp), if_neg (by simp), if_neg (by simp), if_pos rfl]; dsimp only; unfold zV; dsimp only; simp [t0]))
              clear HE HV HD HS HRD hvs
              --@l27
              as_aux_lemma =>
                go_wp2_with (go_at_call 40; refine (CI.out _).mono ?_; rintro e w' ⟨rfl, rfl⟩)
                go_ret2
                exact ⟨⟨by rw [E.out, HG0.out]; rfl, fun r hr => by rw [E.out] at hr; cases hr⟩, BV.out⟩
              --@@
            have HZ : Hid (zV (⟨4, vp, vk, vn, vt⟩ : IN) = true) := by unfold Hid zV; dsimp only; rw [k0, n0, t0]; rfl
            by_cases hd : d < 2
            · have E : Hid (resC n L = none) := by
                unfold Hid
                rw [← HR.out, ← HE.out]
                exact goS_stop hlt (by rw [← HV.out]; exact st_no2 (by rw [HD.out]; exact hd))
              clear HE HV HD HS HRD hvs
              --@l28
              as_aux_lemma =>
                go_wp2_with (go_at_call 40; refine (CI.out _).mono ?_; rintro e w' ⟨rfl, rfl⟩)
                go_ret2
                exact ⟨⟨by rw [E.out, HG0.out]; rfl, fun r hr => by rw [E.out] at hr; cases hr⟩, BV.out⟩
              --@@
            have HJ : Hid (justB n k (⟨4, vp, vk, vn, vt⟩ : IN) = true) := by unfold Hid; unfold justB; rw [if_neg (by simp), if_neg (by simp), if_neg (by simp), if_pos rfl]; dsimp only; rw [HZ.out, HIB.out]; rfl
            have HOJ : Hid (okJ (⟨4, vp, vk, vn, vt⟩ : IN) (ds.getD k 0) ds = true) := by unfold Hid okJ; rw [show jmp (4 : Int) = false from rfl]; rfl
            have HSJ : Hid (setJ (⟨4, vp, vk, vn, vt⟩ : IN) d ds = ds) := by unfold Hid setJ; rw [show jmp ((4 : Int)) = false from rfl]; rfl
            have HNX : Hid (d - 2 + 1 = d - 1) := by unfold Hid; omega
            by_cases h7 : d1 < 0
            · have ES : Hid (goS n L (n - (k + 1)) (k + 1) (ds.set (k + 1) (d - 1)) = R) := by
                unfold Hid
                rw [← HE.out]
                refine (goS_step hlt ?_).symm
                rw [← HV.out, st_yes HJ.out (by dsimp only; rw [HD.out, show tak 4 = 2 from rfl]; omega) HOJ.out (by dsimp only; rw [HD.out, show tak 4 = 2 from rfl, HSJ.out]; rw [HNX.out]; unfold okN; rw [HD1.out, decide_eq_true (show d - 1 ≤ 60 by omega), decide_eq_true h7]; simp)]
                dsimp only
                rw [HD.out, show tak 4 = 2 from rfl, HSJ.out]
                rw [HNX.out]
              have LS : Hid ((ds.set (k + 1) (d - 1)).length = n + 1) := by unfold Hid; simp [HL.out]
              have NS : Hid (NB (V1.setCell ⟨g, k + 1, none⟩ (.int .i64 (d - 1))) g (ds.set (k + 1) (d - 1))) := GV.out.set (k + 1) (d - 1)
              have BS : Hid (Below w.heap.size w (V1.setCell ⟨g, k + 1, none⟩ (.int .i64 (d - 1)))) := BV.out.setCell (by show w.heap.size ≤ g; omega) _
              have M6 : Hid (∀ j, (ds.set (k + 1) (d - 1)).getD j 0 ≤ 60) := set_le H60.out (by omega)
              clear HE HV HD HS HRD hvs HSJ HNX HJ HOJ HD1 H60 HL GV
              --@l29
              as_aux_lemma =>
                go_wp2_with (go_at_call 40; refine (CI.out _).mono ?_; rintro e w' ⟨rfl, rfl⟩)
                go_roundw
                case rel => exact ⟨k + 1, _, by omega, by go_num, LS, NS, BS, M6, ES⟩
                case measure => simp [intOf]; omega
              --@@
            by_cases h8 : d1 = d - 1
            · have h9 : (d1 != d - 1) = false := by simp [h8]
              have H8 : Hid (d1 = d - 1) := h8
              clear h8
              have ES : Hid (goS n L (n - (k + 1)) (k + 1) (ds.set (k + 1) (d - 1)) = R) := by
                unfold Hid
                rw [← HE.out]
                refine (goS_step hlt ?_).symm
                rw [← HV.out, st_yes HJ.out (by dsimp only; rw [HD.out, show tak 4 = 2 from rfl]; omega) HOJ.out (by dsimp only; rw [HD.out, show tak 4 = 2 from rfl, HSJ.out]; rw [HNX.out]; unfold okN; rw [HD1.out, decide_eq_true (show d - 1 ≤ 60 by omega), decide_eq_false h7, show (d1 == d - 1) = true by simp [H8.out]]; simp)]
                dsimp only
                rw [HD.out, show tak 4 = 2 from rfl, HSJ.out]
                rw [HNX.out]
              have LS : Hid ((ds.set (k + 1) (d - 1)).length = n + 1) := by unfold Hid; simp [HL.out]
              have NS : Hid (NB (V1.setCell ⟨g, k + 1, none⟩ (.int .i64 (d - 1))) g (ds.set (k + 1) (d - 1))) := GV.out.set (k + 1) (d - 1)
              have BS : Hid (Below w.heap.size w (V1.setCell ⟨g, k + 1, none⟩ (.int .i64 (d - 1)))) := BV.out.setCell (by show w.heap.size ≤ g; omega) _
              have M6 : Hid (∀ j, (ds.set (k + 1) (d - 1)).getD j 0 ≤ 60) := set_le H60.out (by omega)
              clear HE HV HD HS HRD hvs HSJ HNX HJ HOJ HD1 H60 HL GV
              --@l30
              as_aux_lemma =>
                go_wp2_with (go_at_call 40; refine (CI.out _).mono ?_; rintro e w' ⟨rfl, rfl⟩)
                go_roundw
                case rel => exact ⟨k + 1, _, by omega, by go_num, LS, NS, BS, M6, ES⟩
                case measure => simp [intOf]; omega
              --@@
            have h9 : (d1 != d - 1) = true := by simp [h8]
            have H8 : Hid (¬ d1 = d - 1) := h8
            clear h8
            have E : Hid (resC n L = none) := by
              unfold Hid
              rw [← HR.out, ← HE.out]
              exact goS_stop hlt (by rw [← HV.out]; exact st_no4 (by dsimp only; rw [HD.out, show tak 4 = 2 from rfl, HSJ.out]; rw [HNX.out]; unfold okN; rw [HD1.out, decide_eq_false h7, show (d1 == d - 1) = false by simp [H8.out]]; simp))
            clear HE HV HD HS HRD hvs
            --@l31
            as_aux_lemma =>
              go_wp2_with (go_at_call 40; refine (CI.out _).mono ?_; rintro e w' ⟨rfl, rfl⟩)
              go_ret2
              exact ⟨⟨by rw [E.out, HG0.out]; rfl, fun r hr => by rw [E.out] at hr; cases hr⟩, BV.out⟩
            --@@
          by_cases ho5 : vo = 5
          · subst ho5
            obtain ⟨ib, hib⟩ : ∃ x, inB vp ((k : Int) + 1) (n : Int) = x := ⟨_, rfl⟩
            have HIB : Hid (inB vp ((k : Int) + 1) (n : Int) = ib) := hib
            have CI : Hid (∀ W, Calls Tryd.prog 40 #[.int .i64 vp, .int .i64 ((k : Int) + 1), .int .i64 (n : Int)] W fun e w' => e = .returned (.bool ib) ∧ w' = W) := fun W => by rw [← hib]; exact c_in _ _ _ W
            clear hib
            cases ib
            · have E : Hid (resC n L = none) := by
                unfold Hid
                rw [← HR.out, ← HE.out]
                exact goS_stop hlt (by rw [← HV.out]; exact st_no1 (by unfold justB; rw [if_neg (by simp), if_neg (by simp), if_neg (by simp), if_neg (by simp)]; dsimp only; rw [HIB.out]; simp))
              clear HE HV HD HS HRD hvs
              --@l32
              as_aux_lemma =>
                go_wp2_with (go_at_call 40; refine (CI.out _).mono ?_; rintro e w' ⟨rfl, rfl⟩)
                go_ret2
                exact ⟨⟨by rw [E.out, HG0.out]; rfl, fun r hr => by rw [E.out] at hr; cases hr⟩, BV.out⟩
              --@@
            cases k0 : (vk == 0)
            · have E : Hid (resC n L = none) := by
                unfold Hid
                rw [← HR.out, ← HE.out]
                exact goS_stop hlt (by rw [← HV.out]; exact st_no1 (by unfold justB; rw [if_neg (by simp), if_neg (by simp), if_neg (by simp), if_neg (by simp)]; dsimp only; unfold zV; dsimp only; simp [k0]))
              clear HE HV HD HS HRD hvs
              --@l33
              as_aux_lemma =>
                go_wp2_with (go_at_call 40; refine (CI.out _).mono ?_; rintro e w' ⟨rfl, rfl⟩)
                go_ret2
                exact ⟨⟨by rw [E.out, HG0.out]; rfl, fun r hr => by rw [E.out] at hr; cases hr⟩, BV.out⟩
              --@@
            cases n0 : (vn == 0)
            · have E : Hid (resC n L = none) := by
                unfold Hid
                rw [← HR.out, ← HE.out]
                exact goS_stop hlt (by rw [← HV.out]; exact st_no1 (by unfold justB; rw [if_neg (by simp), if_neg (by simp), if_neg (by simp), if_neg (by simp)]; dsimp only; unfold zV; dsimp only; simp [n0]))
              clear HE HV HD HS HRD hvs
              --@l34
              as_aux_lemma =>
                go_wp2_with (go_at_call 40; refine (CI.out _).mono ?_; rintro e w' ⟨rfl, rfl⟩)
                go_ret2
                exact ⟨⟨by rw [E.out, HG0.out]; rfl, fun r hr => by rw [E.out] at hr; cases hr⟩, BV.out⟩
              --@@
            cases t0 : (vt.toList == [])
            · have E : Hid (resC n L = none) := by
                unfold Hid
                rw [← HR.out, ← HE.out]
                exact goS_stop hlt (by rw [← HV.out]; exact st_no1 (by unfold justB; rw [if_neg (by simp), if_neg (by simp), if_neg (by simp), if_neg (by simp)]; dsimp only; unfold zV; dsimp only; simp [t0]))
              clear HE HV HD HS HRD hvs
              --@l35
              as_aux_lemma =>
                go_wp2_with (go_at_call 40; refine (CI.out _).mono ?_; rintro e w' ⟨rfl, rfl⟩)
                go_ret2
                exact ⟨⟨by rw [E.out, HG0.out]; rfl, fun r hr => by rw [E.out] at hr; cases hr⟩, BV.out⟩
              --@@
            have HZ : Hid (zV (⟨5, vp, vk, vn, vt⟩ : IN) = true) := by unfold Hid zV; dsimp only; rw [k0, n0, t0]; rfl
            by_cases hd : d < 1
            · have E : Hid (resC n L = none) := by
                unfold Hid
                rw [← HR.out, ← HE.out]
                exact goS_stop hlt (by rw [← HV.out]; exact st_no2 (by rw [HD.out]; exact hd))
              clear HE HV HD HS HRD hvs
              --@l36
              as_aux_lemma =>
                go_wp2_with (go_at_call 40; refine (CI.out _).mono ?_; rintro e w' ⟨rfl, rfl⟩)
                go_ret2
                exact ⟨⟨by rw [E.out, HG0.out]; rfl, fun r hr => by rw [E.out] at hr; cases hr⟩, BV.out⟩
              --@@
            have HJ0 : Hid (justB n k (⟨5, vp, vk, vn, vt⟩ : IN) = true) := by unfold Hid; unfold justB; rw [if_neg (by simp), if_neg (by simp), if_neg (by simp), if_neg (by simp)]; dsimp only; rw [HZ.out, HIB.out]; rfl
            obtain ⟨hp1, hp2⟩ := just_j HJ0.out rfl
            dsimp only at hp1 hp2
            obtain ⟨p, rfl⟩ : ∃ p : Nat, vp = (p : Int) := ⟨vp.toNat, by omega⟩
            have HJ : Hid (justB n k (⟨5, (p : Int), vk, vn, vt⟩ : IN) = true) := HJ0.out
            have gp0 : (0 : Int) ≤ (p : Int) := by omega
            have gp1 : (p : Int) < (n : Int) + 1 := by omega
            have qp := GV.out.cell (i := p) (by have := HL.out; omega)
            have fp := GV.out.thaw p
            obtain ⟨dp, hdp⟩ : ∃ x, ds.getD p 0 = x := ⟨_, rfl⟩
            rw [hdp] at qp
            have HDP : Hid (ds.getD p 0 = dp) := hdp
            clear hdp HJ0 HZ HIB
            obtain ⟨V2, hV2⟩ : ∃ W, V1.setCell ⟨g, p, none⟩ (.int .i64 d) = W := ⟨_, rfl⟩
            have GV2 : Hid (NB V2 g (ds.set p d)) := by unfold Hid; rw [← hV2]; exact GV.out.set p d
            have BV2 : Hid (Below w.heap.size w V2) := by unfold Hid; rw [← hV2]; exact BV.out.setCell (by show w.heap.size ≤ g; omega) _
            have XV2 : Hid (Box V2 wr.heap.size 59 #[.int .i64 5, .int .i64 (p : Int), .int .i64 vk, .int .i64 vn, .string vt]) := by unfold Hid; rw [← hV2]; exact XV.out.setOther _ _ (by show wr.heap.size ≠ g; omega)
            have qj := GV2.out.cell (i := k + 1) (by simp; have := HL.out; omega)
            have fj := GV2.out.thaw (k + 1)
            obtain ⟨z1, hz1⟩ : ∃ x, (ds.set p d).getD (k + 1) 0 = x := ⟨_, rfl⟩
            rw [hz1] at qj
            have HD1' : Hid ((ds.set p d).getD (k + 1) 0 = z1) := hz1
            clear hz1 XV
            by_cases hm1 : 0 ≤ dp
            · by_cases hm2 : dp = d
              · have h10 : (dp != d) = false := by simp [hm2]
                have HM2 : Hid (dp = d) := hm2
                clear hm2
                have HOJ : Hid (okJ (⟨5, (p : Int), vk, vn, vt⟩ : IN) (ds.getD k 0) ds = true) := by unfold Hid okJ; rw [show jmp (5 : Int) = true from rfl]; dsimp only; rw [Int.toNat_natCast, HDP.out, HD.out, HM2.out]; simp
                have HSJ : Hid (setJ (⟨5, (p : Int), vk, vn, vt⟩ : IN) d ds = (ds.set p d)) := by unfold Hid setJ; rw [show jmp ((5 : Int)) = true from rfl]; simp
                have HNX : Hid (d - 1 + 1 = d) := by unfold Hid; omega
                by_cases h7 : z1 < 0
                · have ES : Hid (goS n L (n - (k + 1)) (k + 1) ((ds.set p d).set (k + 1) (d)) = R) := by
                    unfold Hid
                    rw [← HE.out]
                    refine (goS_step hlt ?_).symm
                    rw [← HV.out, st_yes HJ.out (by dsimp only; rw [HD.out, show tak 5 = 1 from rfl]; omega) HOJ.out (by dsimp only; rw [HD.out, show tak 5 = 1 from rfl, HSJ.out]; rw [HNX.out]; unfold okN; rw [HD1'.out, decide_eq_true (show d ≤ 60 by omega), decide_eq_true h7]; simp)]
                    dsimp only
                    rw [HD.out, show tak 5 = 1 from rfl, HSJ.out]
                    rw [HNX.out]
                  have LS : Hid (((ds.set p d).set (k + 1) (d)).length = n + 1) := by unfold Hid; simp [HL.out]
                  have NS : Hid (NB (V2.setCell ⟨g, k + 1, none⟩ (.int .i64 (d))) g ((ds.set p d).set (k + 1) (d))) := GV2.out.set (k + 1) (d)
                  have BS : Hid (Below w.heap.size w (V2.setCell ⟨g, k + 1, none⟩ (.int .i64 (d)))) := BV2.out.setCell (by show w.heap.size ≤ g; omega) _
                  have M6 : Hid (∀ j, ((ds.set p d).set (k + 1) (d)).getD j 0 ≤ 60) := set_le (set_le H60.out (by omega)) (by omega)
                  clear HE HV HD HS HRD hvs HSJ HNX HJ HOJ HD1' H60 HL GV
                  --@l37
                  as_aux_lemma =>
                    go_wp2_with (go_at_call 40; refine (CI.out _).mono ?_; rintro e w' ⟨rfl, rfl⟩)
                    go_roundw
                    case rel => exact ⟨k + 1, _, by omega, by go_num, LS, NS, BS, M6, ES⟩
                    case measure => simp [intOf]; omega
                  --@@
                by_cases h8 : z1 = d
                · have h9 : (z1 != d) = false := by simp [h8]
                  have H8 : Hid (z1 = d) := h8
                  clear h8
                  have ES : Hid (goS n L (n - (k + 1)) (k + 1) ((ds.set p d).set (k + 1) (d)) = R) := by
                    unfold Hid
                    rw [← HE.out]
                    refine (goS_step hlt ?_).symm
                    rw [← HV.out, st_yes HJ.out (by dsimp only; rw [HD.out, show tak 5 = 1 from rfl]; omega) HOJ.out (by dsimp only; rw [HD.out, show tak 5 = 1 from rfl, HSJ.out]; rw [HNX.out]; unfold okN; rw [HD1'.out, decide_eq_true (show d ≤ 60 by omega), decide_eq_false h7, show (z1 == d) = true by simp [H8.out]]; simp)]
                    dsimp only
                    rw [HD.out, show tak 5 = 1 from rfl, HSJ.out]
                    rw [HNX.out]
                  have LS : Hid (((ds.set p d).set (k + 1) (d)).length = n + 1) := by unfold Hid; simp [HL.out]
                  have NS : Hid (NB (V2.setCell ⟨g, k + 1, none⟩ (.int .i64 (d))) g ((ds.set p d).set (k + 1) (d))) := GV2.out.set (k + 1) (d)
                  have BS : Hid (Below w.heap.size w (V2.setCell ⟨g, k + 1, none⟩ (.int .i64 (d)))) := BV2.out.setCell (by show w.heap.size ≤ g; omega) _
                  have M6 : Hid (∀ j, ((ds.set p d).set (k + 1) (d)).getD j 0 ≤ 60) := set_le (set_le H60.out (by omega)) (by omega)
                  clear HE HV HD HS HRD hvs HSJ HNX HJ HOJ HD1' H60 HL GV
                  --@l38
                  as_aux_lemma =>
                    go_wp2_with (go_at_call 40; refine (CI.out _).mono ?_; rintro e w' ⟨rfl, rfl⟩)
                    go_roundw
                    case rel => exact ⟨k + 1, _, by omega, by go_num, LS, NS, BS, M6, ES⟩
                    case measure => simp [intOf]; omega
                  --@@
                have h9 : (z1 != d) = true := by simp [h8]
                have H8 : Hid (¬ z1 = d) := h8
                clear h8
                have E : Hid (resC n L = none) := by
                  unfold Hid
                  rw [← HR.out, ← HE.out]
                  exact goS_stop hlt (by rw [← HV.out]; exact st_no4 (by dsimp only; rw [HD.out, show tak 5 = 1 from rfl, HSJ.out]; rw [HNX.out]; unfold okN; rw [HD1'.out, decide_eq_false h7, show (z1 == d) = false by simp [H8.out]]; simp))
                clear HE HV HD HS HRD hvs
                --@l39
                as_aux_lemma =>
                  go_wp2_with (go_at_call 40; refine (CI.out _).mono ?_; rintro e w' ⟨rfl, rfl⟩)
                  go_ret2
                  exact ⟨⟨by rw [E.out, HG0.out]; rfl, fun r hr => by rw [E.out] at hr; cases hr⟩, BV2.out⟩
                --@@
              · have h10 : (dp != d) = true := by simp [hm2]
                have HM2 : Hid (¬ dp = d) := hm2
                clear hm2
                have E : Hid (resC n L = none) := by
                  unfold Hid
                  rw [← HR.out, ← HE.out]
                  exact goS_stop hlt (by rw [← HV.out]; exact st_no3 (by unfold okJ; rw [show jmp (5 : Int) = true from rfl]; dsimp only; rw [Int.toNat_natCast, HDP.out, HD.out, decide_eq_false (by omega), show (dp == d) = false by simp [HM2.out]]; rfl))
                clear HE HV HD HS HRD hvs
                --@l40
                as_aux_lemma =>
                  go_wp2_with (go_at_call 40; refine (CI.out _).mono ?_; rintro e w' ⟨rfl, rfl⟩)
                  go_ret2
                  exact ⟨⟨by rw [E.out, HG0.out]; rfl, fun r hr => by rw [E.out] at hr; cases hr⟩, BV.out⟩
                --@@
            have HOJ : Hid (okJ (⟨5, (p : Int), vk, vn, vt⟩ : IN) (ds.getD k 0) ds = true) := by unfold Hid okJ; rw [show jmp (5 : Int) = true from rfl]; dsimp only; rw [Int.toNat_natCast, HDP.out, decide_eq_true (by omega)]; simp
            have HSJ : Hid (setJ (⟨5, (p : Int), vk, vn, vt⟩ : IN) d ds = (ds.set p d)) := by unfold Hid setJ; rw [show jmp ((5 : Int)) = true from rfl]; simp
            have HNX : Hid (d - 1 + 1 = d) := by unfold Hid; omega
            by_cases h7 : z1 < 0
            · have ES : Hid (goS n L (n - (k + 1)) (k + 1) ((ds.set p d).set (k + 1) (d)) = R) := by
                unfold Hid
                rw [← HE.out]
                refine (goS_step hlt ?_).symm
                rw [← HV.out, st_yes HJ.out (by dsimp only; rw [HD.out, show tak 5 = 1 from rfl]; omega) HOJ.out (by dsimp only; rw [HD.out, show tak 5 = 1 from rfl, HSJ.out]; rw [HNX.out]; unfold okN; rw [HD1'.out, decide_eq_true (show d ≤ 60 by omega), decide_eq_true h7]; simp)]
                dsimp only
                rw [HD.out, show tak 5 = 1 from rfl, HSJ.out]
                rw [HNX.out]
              have LS : Hid (((ds.set p d).set (k + 1) (d)).length = n + 1) := by unfold Hid; simp [HL.out]
              have NS : Hid (NB (V2.setCell ⟨g, k + 1, none⟩ (.int .i64 (d))) g ((ds.set p d).set (k + 1) (d))) := GV2.out.set (k + 1) (d)
              have BS : Hid (Below w.heap.size w (V2.setCell ⟨g, k + 1, none⟩ (.int .i64 (d)))) := BV2.out.setCell (by show w.heap.size ≤ g; omega) _
              have M6 : Hid (∀ j, ((ds.set p d).set (k + 1) (d)).getD j 0 ≤ 60) := set_le (set_le H60.out (by omega)) (by omega)
              clear HE HV HD HS HRD hvs HSJ HNX HJ HOJ HD1' H60 HL GV
              --@l41
              as_aux_lemma =>
                go_wp2_with (go_at_call 40; refine (CI.out _).mono ?_; rintro e w' ⟨rfl, rfl⟩)
                go_roundw
                case rel => exact ⟨k + 1, _, by omega, by go_num, LS, NS, BS, M6, ES⟩
                case measure => simp [intOf]; omega
              --@@
            by_cases h8 : z1 = d
            · have h9 : (z1 != d) = false := by simp [h8]
              have H8 : Hid (z1 = d) := h8
              clear h8
              have ES : Hid (goS n L (n - (k + 1)) (k + 1) ((ds.set p d).set (k + 1) (d)) = R) := by
                unfold Hid
                rw [← HE.out]
                refine (goS_step hlt ?_).symm
                rw [← HV.out, st_yes HJ.out (by dsimp only; rw [HD.out, show tak 5 = 1 from rfl]; omega) HOJ.out (by dsimp only; rw [HD.out, show tak 5 = 1 from rfl, HSJ.out]; rw [HNX.out]; unfold okN; rw [HD1'.out, decide_eq_true (show d ≤ 60 by omega), decide_eq_false h7, show (z1 == d) = true by simp [H8.out]]; simp)]
                dsimp only
                rw [HD.out, show tak 5 = 1 from rfl, HSJ.out]
                rw [HNX.out]
              have LS : Hid (((ds.set p d).set (k + 1) (d)).length = n + 1) := by unfold Hid; simp [HL.out]
              have NS : Hid (NB (V2.setCell ⟨g, k + 1, none⟩ (.int .i64 (d))) g ((ds.set p d).set (k + 1) (d))) := GV2.out.set (k + 1) (d)
              have BS : Hid (Below w.heap.size w (V2.setCell ⟨g, k + 1, none⟩ (.int .i64 (d)))) := BV2.out.setCell (by show w.heap.size ≤ g; omega) _
              have M6 : Hid (∀ j, ((ds.set p d).set (k + 1) (d)).getD j 0 ≤ 60) := set_le (set_le H60.out (by omega)) (by omega)
              clear HE HV HD HS HRD hvs HSJ HNX HJ HOJ HD1' H60 HL GV
              --@l42
              as_aux_lemma =>
                go_wp2_with (go_at_call 40; refine (CI.out _).mono ?_; rintro e w' ⟨rfl, rfl⟩)
                go_roundw
                case rel => exact ⟨k + 1, _, by omega, by go_num, LS, NS, BS, M6, ES⟩
                case measure => simp [intOf]; omega
              --@@
            have h9 : (z1 != d) = true := by simp [h8]
            have H8 : Hid (¬ z1 = d) := h8
            clear h8
            have E : Hid (resC n L = none) := by
              unfold Hid
              rw [← HR.out, ← HE.out]
              exact goS_stop hlt (by rw [← HV.out]; exact st_no4 (by dsimp only; rw [HD.out, show tak 5 = 1 from rfl, HSJ.out]; rw [HNX.out]; unfold okN; rw [HD1'.out, decide_eq_false h7, show (z1 == d) = false by simp [H8.out]]; simp))
            clear HE HV HD HS HRD hvs
            --@l43
            as_aux_lemma =>
              go_wp2_with (go_at_call 40; refine (CI.out _).mono ?_; rintro e w' ⟨rfl, rfl⟩)
              go_ret2
              exact ⟨⟨by rw [E.out, HG0.out]; rfl, fun r hr => by rw [E.out] at hr; cases hr⟩, BV2.out⟩
            --@@
          by_cases ho6 : vo = 6
          · subst ho6
            obtain ⟨ib, hib⟩ : ∃ x, inB vp ((k : Int) + 1) (n : Int) = x := ⟨_, rfl⟩
            have HIB : Hid (inB vp ((k : Int) + 1) (n : Int) = ib) := hib
            have CI : Hid (∀ W, Calls Tryd.prog 40 #[.int .i64 vp, .int .i64 ((k : Int) + 1), .int .i64 (n : Int)] W fun e w' => e = .returned (.bool ib) ∧ w' = W) := fun W => by rw [← hib]; exact c_in _ _ _ W
            clear hib
            cases ib
            · have E : Hid (resC n L = none) := by
                unfold Hid
                rw [← HR.out, ← HE.out]
                exact goS_stop hlt (by rw [← HV.out]; exact st_no1 (by unfold justB; rw [if_neg (by simp), if_neg (by simp), if_neg (by simp), if_neg (by simp)]; dsimp only; rw [HIB.out]; simp))
              clear HE HV HD HS HRD hvs
              --@l44
              as_aux_lemma =>
                go_wp2_with (go_at_call 40; refine (CI.out _).mono ?_; rintro e w' ⟨rfl, rfl⟩)
                go_ret2
                exact ⟨⟨by rw [E.out, HG0.out]; rfl, fun r hr => by rw [E.out] at hr; cases hr⟩, BV.out⟩
              --@@
            cases k0 : (vk == 0)
            · have E : Hid (resC n L = none) := by
                unfold Hid
                rw [← HR.out, ← HE.out]
                exact goS_stop hlt (by rw [← HV.out]; exact st_no1 (by unfold justB; rw [if_neg (by simp), if_neg (by simp), if_neg (by simp), if_neg (by simp)]; dsimp only; unfold zV; dsimp only; simp [k0]))
              clear HE HV HD HS HRD hvs
              --@l45
              as_aux_lemma =>
                go_wp2_with (go_at_call 40; refine (CI.out _).mono ?_; rintro e w' ⟨rfl, rfl⟩)
                go_ret2
                exact ⟨⟨by rw [E.out, HG0.out]; rfl, fun r hr => by rw [E.out] at hr; cases hr⟩, BV.out⟩
              --@@
            cases n0 : (vn == 0)
            · have E : Hid (resC n L = none) := by
                unfold Hid
                rw [← HR.out, ← HE.out]
                exact goS_stop hlt (by rw [← HV.out]; exact st_no1 (by unfold justB; rw [if_neg (by simp), if_neg (by simp), if_neg (by simp), if_neg (by simp)]; dsimp only; unfold zV; dsimp only; simp [n0]))
              clear HE HV HD HS HRD hvs
              --@l46
              as_aux_lemma =>
                go_wp2_with (go_at_call 40; refine (CI.out _).mono ?_; rintro e w' ⟨rfl, rfl⟩)
                go_ret2
                exact ⟨⟨by rw [E.out, HG0.out]; rfl, fun r hr => by rw [E.out] at hr; cases hr⟩, BV.out⟩
              --@@
            cases t0 : (vt.toList == [])
            · have E : Hid (resC n L = none) := by
                unfold Hid
                rw [← HR.out, ← HE.out]
                exact goS_stop hlt (by rw [← HV.out]; exact st_no1 (by unfold justB; rw [if_neg (by simp), if_neg (by simp), if_neg (by simp), if_neg (by simp)]; dsimp only; unfold zV; dsimp only; simp [t0]))
              clear HE HV HD HS HRD hvs
              --@l47
              as_aux_lemma =>
                go_wp2_with (go_at_call 40; refine (CI.out _).mono ?_; rintro e w' ⟨rfl, rfl⟩)
                go_ret2
                exact ⟨⟨by rw [E.out, HG0.out]; rfl, fun r hr => by rw [E.out] at hr; cases hr⟩, BV.out⟩
              --@@
            have HZ : Hid (zV (⟨6, vp, vk, vn, vt⟩ : IN) = true) := by unfold Hid zV; dsimp only; rw [k0, n0, t0]; rfl
            by_cases hd : d < 1
            · have E : Hid (resC n L = none) := by
                unfold Hid
                rw [← HR.out, ← HE.out]
                exact goS_stop hlt (by rw [← HV.out]; exact st_no2 (by rw [HD.out]; exact hd))
              clear HE HV HD HS HRD hvs
              --@l48
              as_aux_lemma =>
                go_wp2_with (go_at_call 40; refine (CI.out _).mono ?_; rintro e w' ⟨rfl, rfl⟩)
                go_ret2
                exact ⟨⟨by rw [E.out, HG0.out]; rfl, fun r hr => by rw [E.out] at hr; cases hr⟩, BV.out⟩
              --@@
            have HJ0 : Hid (justB n k (⟨6, vp, vk, vn, vt⟩ : IN) = true) := by unfold Hid; unfold justB; rw [if_neg (by simp), if_neg (by simp), if_neg (by simp), if_neg (by simp)]; dsimp only; rw [HZ.out, HIB.out]; rfl
            obtain ⟨hp1, hp2⟩ := just_j HJ0.out rfl
            dsimp only at hp1 hp2
            obtain ⟨p, rfl⟩ : ∃ p : Nat, vp = (p : Int) := ⟨vp.toNat, by omega⟩
            have HJ : Hid (justB n k (⟨6, (p : Int), vk, vn, vt⟩ : IN) = true) := HJ0.out
            have gp0 : (0 : Int) ≤ (p : Int) := by omega
            have gp1 : (p : Int) < (n : Int) + 1 := by omega
            have qp := GV.out.cell (i := p) (by have := HL.out; omega)
            have fp := GV.out.thaw p
            obtain ⟨dp, hdp⟩ : ∃ x, ds.getD p 0 = x := ⟨_, rfl⟩
            rw [hdp] at qp
            have HDP : Hid (ds.getD p 0 = dp) := hdp
            clear hdp HJ0 HZ HIB
            obtain ⟨V2, hV2⟩ : ∃ W, V1.setCell ⟨g, p, none⟩ (.int .i64 d) = W := ⟨_, rfl⟩
            have GV2 : Hid (NB V2 g (ds.set p d)) := by unfold Hid; rw [← hV2]; exact GV.out.set p d
            have BV2 : Hid (Below w.heap.size w V2) := by unfold Hid; rw [← hV2]; exact BV.out.setCell (by show w.heap.size ≤ g; omega) _
            have XV2 : Hid (Box V2 wr.heap.size 59 #[.int .i64 6, .int .i64 (p : Int), .int .i64 vk, .int .i64 vn, .string vt]) := by unfold Hid; rw [← hV2]; exact XV.out.setOther _ _ (by show wr.heap.size ≠ g; omega)
            have qj := GV2.out.cell (i := k + 1) (by simp; have := HL.out; omega)
            have fj := GV2.out.thaw (k + 1)
            obtain ⟨z1, hz1⟩ : ∃ x, (ds.set p d).getD (k + 1) 0 = x := ⟨_, rfl⟩
            rw [hz1] at qj
            have HD1' : Hid ((ds.set p d).getD (k + 1) 0 = z1) := hz1
            clear hz1 XV
            by_cases hm1 : 0 ≤ dp
            · by_cases hm2 : dp = d
              · have h10 : (dp != d) = false := by simp [hm2]
                have HM2 : Hid (dp = d) := hm2
                clear hm2
                have HOJ : Hid (okJ (⟨6, (p : Int), vk, vn, vt⟩ : IN) (ds.getD k 0) ds = true) := by unfold Hid okJ; rw [show jmp (6 : Int) = true from rfl]; dsimp only; rw [Int.toNat_natCast, HDP.out, HD.out, HM2.out]; simp
                have HSJ : Hid (setJ (⟨6, (p : Int), vk, vn, vt⟩ : IN) d ds = (ds.set p d)) := by unfold Hid setJ; rw [show jmp ((6 : Int)) = true from rfl]; simp
                have HNX : Hid (d - 1 + 1 = d) := by unfold Hid; omega
                by_cases h7 : z1 < 0
                · have ES : Hid (goS n L (n - (k + 1)) (k + 1) ((ds.set p d).set (k + 1) (d)) = R) := by
                    unfold Hid
                    rw [← HE.out]
                    refine (goS_step hlt ?_).symm
                    rw [← HV.out, st_yes HJ.out (by dsimp only; rw [HD.out, show tak 6 = 1 from rfl]; omega) HOJ.out (by dsimp only; rw [HD.out, show tak 6 = 1 from rfl, HSJ.out]; rw [HNX.out]; unfold okN; rw [HD1'.out, decide_eq_true (show d ≤ 60 by omega), decide_eq_true h7]; simp)]
                    dsimp only
                    rw [HD.out, show tak 6 = 1 from rfl, HSJ.out]
                    rw [HNX.out]
                  have LS : Hid (((ds.set p d).set (k + 1) (d)).length = n + 1) := by unfold Hid; simp [HL.out]
                  have NS : Hid (NB (V2.setCell ⟨g, k + 1, none⟩ (.int .i64 (d))) g ((ds.set p d).set (k + 1) (d))) := GV2.out.set (k + 1) (d)
                  have BS : Hid (Below w.heap.size w (V2.setCell ⟨g, k + 1, none⟩ (.int .i64 (d)))) := BV2.out.setCell (by show w.heap.size ≤ g; omega) _
                  have M6 : Hid (∀ j, ((ds.set p d).set (k + 1) (d)).getD j 0 ≤ 60) := set_le (set_le H60.out (by omega)) (by omega)
                  clear HE HV HD HS HRD hvs HSJ HNX HJ HOJ HD1' H60 HL GV
                  --@l49
                  as_aux_lemma =>
                    go_wp2_with (go_at_call 40; refine (CI.out _).mono ?_; rintro e w' ⟨rfl, rfl⟩)
                    go_roundw
                    case rel => exact ⟨k + 1, _, by omega, by go_num, LS, NS, BS, M6, ES⟩
                    case measure => simp [intOf]; omega
                  --@@
                by_cases h8 : z1 = d
                · have h9 : (z1 != d) = false := by simp [h8]
                  have H8 : Hid (z1 = d) := h8
                  clear h8
                  have ES : Hid (goS n L (n - (k + 1)) (k + 1) ((ds.set p d).set (k + 1) (d)) = R) := by
                    unfold Hid
                    rw [← HE.out]
                    refine (goS_step hlt ?_).symm
                    rw [← HV.out, st_yes HJ.out (by dsimp only; rw [HD.out, show tak 6 = 1 from rfl]; omega) HOJ.out (by dsimp only; rw [HD.out, show tak 6 = 1 from rfl, HSJ.out]; rw [HNX.out]; unfold okN; rw [HD1'.out, decide_eq_true (show d ≤ 60 by omega), decide_eq_false h7, show (z1 == d) = true by simp [H8.out]]; simp)]
                    dsimp only
                    rw [HD.out, show tak 6 = 1 from rfl, HSJ.out]
                    rw [HNX.out]
                  have LS : Hid (((ds.set p d).set (k + 1) (d)).length = n + 1) := by unfold Hid; simp [HL.out]
                  have NS : Hid (NB (V2.setCell ⟨g, k + 1, none⟩ (.int .i64 (d))) g ((ds.set p d).set (k + 1) (d))) := GV2.out.set (k + 1) (d)
                  have BS : Hid (Below w.heap.size w (V2.setCell ⟨g, k + 1, none⟩ (.int .i64 (d)))) := BV2.out.setCell (by show w.heap.size ≤ g; omega) _
                  have M6 : Hid (∀ j, ((ds.set p d).set (k + 1) (d)).getD j 0 ≤ 60) := set_le (set_le H60.out (by omega)) (by omega)
                  clear HE HV HD HS HRD hvs HSJ HNX HJ HOJ HD1' H60 HL GV
                  --@l50
                  as_aux_lemma =>
                    go_wp2_with (go_at_call 40; refine (CI.out _).mono ?_; rintro e w' ⟨rfl, rfl⟩)
                    go_roundw
                    case rel => exact ⟨k + 1, _, by omega, by go_num, LS, NS, BS, M6, ES⟩
                    case measure => simp [intOf]; omega
                  --@@
                have h9 : (z1 != d) = true := by simp [h8]
                have H8 : Hid (¬ z1 = d) := h8
                clear h8
                have E : Hid (resC n L = none) := by
                  unfold Hid
                  rw [← HR.out, ← HE.out]
                  exact goS_stop hlt (by rw [← HV.out]; exact st_no4 (by dsimp only; rw [HD.out, show tak 6 = 1 from rfl, HSJ.out]; rw [HNX.out]; unfold okN; rw [HD1'.out, decide_eq_false h7, show (z1 == d) = false by simp [H8.out]]; simp))
                clear HE HV HD HS HRD hvs
                --@l51
                as_aux_lemma =>
                  go_wp2_with (go_at_call 40; refine (CI.out _).mono ?_; rintro e w' ⟨rfl, rfl⟩)
                  go_ret2
                  exact ⟨⟨by rw [E.out, HG0.out]; rfl, fun r hr => by rw [E.out] at hr; cases hr⟩, BV2.out⟩
                --@@
              · have h10 : (dp != d) = true := by simp [hm2]
                have HM2 : Hid (¬ dp = d) := hm2
                clear hm2
                have E : Hid (resC n L = none) := by
                  unfold Hid
                  rw [← HR.out, ← HE.out]
                  exact goS_stop hlt (by rw [← HV.out]; exact st_no3 (by unfold okJ; rw [show jmp (6 : Int) = true from rfl]; dsimp only; rw [Int.toNat_natCast, HDP.out, HD.out, decide_eq_false (by omega), show (dp == d) = false by simp [HM2.out]]; rfl))
                clear HE HV HD HS HRD hvs
                --@l52
                as_aux_lemma =>
                  go_wp2_with (go_at_call 40; refine (CI.out _).mono ?_; rintro e w' ⟨rfl, rfl⟩)
                  go_ret2
                  exact ⟨⟨by rw [E.out, HG0.out]; rfl, fun r hr => by rw [E.out] at hr; cases hr⟩, BV.out⟩
                --@@
            have HOJ : Hid (okJ (⟨6, (p : Int), vk, vn, vt⟩ : IN) (ds.getD k 0) ds = true) := by unfold Hid okJ; rw [show jmp (6 : Int) = true from rfl]; dsimp only; rw [Int.toNat_natCast, HDP.out, decide_eq_true (by omega)]; simp
            have HSJ : Hid (setJ (⟨6, (p : Int), vk, vn, vt⟩ : IN) d ds = (ds.set p d)) := by unfold Hid setJ; rw [show jmp ((6 : Int)) = true from rfl]; simp
            have HNX : Hid (d - 1 + 1 = d) := by unfold Hid; omega
            by_cases h7 : z1 < 0
            · have ES : Hid (goS n L (n - (k + 1)) (k + 1) ((ds.set p d).set (k + 1) (d)) = R) := by
                unfold Hid
                rw [← HE.out]
                refine (goS_step hlt ?_).symm
                rw [← HV.out, st_yes HJ.out (by dsimp only; rw [HD.out, show tak 6 = 1 from rfl]; omega) HOJ.out (by dsimp only; rw [HD.out, show tak 6 = 1 from rfl, HSJ.out]; rw [HNX.out]; unfold okN; rw [HD1'.out, decide_eq_true (show d ≤ 60 by omega), decide_eq_true h7]; simp)]
                dsimp only
                rw [HD.out, show tak 6 = 1 from rfl, HSJ.out]
                rw [HNX.out]
              have LS : Hid (((ds.set p d).set (k + 1) (d)).length = n + 1) := by unfold Hid; simp [HL.out]
              have NS : Hid (NB (V2.setCell ⟨g, k + 1, none⟩ (.int .i64 (d))) g ((ds.set p d).set (k + 1) (d))) := GV2.out.set (k + 1) (d)
              have BS : Hid (Below w.heap.size w (V2.setCell ⟨g, k + 1, none⟩ (.int .i64 (d)))) := BV2.out.setCell (by show w.heap.size ≤ g; omega) _
              have M6 : Hid (∀ j, ((ds.set p d).set (k + 1) (d)).getD j 0 ≤ 60) := set_le (set_le H60.out (by omega)) (by omega)
              clear HE HV HD HS HRD hvs HSJ HNX HJ HOJ HD1' H60 HL GV
              --@l53
              as_aux_lemma =>
                go_wp2_with (go_at_call 40; refine (CI.out _).mono ?_; rintro e w' ⟨rfl, rfl⟩)
                go_roundw
                case rel => exact ⟨k + 1, _, by omega, by go_num, LS, NS, BS, M6, ES⟩
                case measure => simp [intOf]; omega
              --@@
            by_cases h8 : z1 = d
            · have h9 : (z1 != d) = false := by simp [h8]
              have H8 : Hid (z1 = d) := h8
              clear h8
              have ES : Hid (goS n L (n - (k + 1)) (k + 1) ((ds.set p d).set (k + 1) (d)) = R) := by
                unfold Hid
                rw [← HE.out]
                refine (goS_step hlt ?_).symm
                rw [← HV.out, st_yes HJ.out (by dsimp only; rw [HD.out, show tak 6 = 1 from rfl]; omega) HOJ.out (by dsimp only; rw [HD.out, show tak 6 = 1 from rfl, HSJ.out]; rw [HNX.out]; unfold okN; rw [HD1'.out, decide_eq_true (show d ≤ 60 by omega), decide_eq_false h7, show (z1 == d) = true by simp [H8.out]]; simp)]
                dsimp only
                rw [HD.out, show tak 6 = 1 from rfl, HSJ.out]
                rw [HNX.out]
              have LS : Hid (((ds.set p d).set (k + 1) (d)).length = n + 1) := by unfold Hid; simp [HL.out]
              have NS : Hid (NB (V2.setCell ⟨g, k + 1, none⟩ (.int .i64 (d))) g ((ds.set p d).set (k + 1) (d))) := GV2.out.set (k + 1) (d)
              have BS : Hid (Below w.heap.size w (V2.setCell ⟨g, k + 1, none⟩ (.int .i64 (d)))) := BV2.out.setCell (by show w.heap.size ≤ g; omega) _
              have M6 : Hid (∀ j, ((ds.set p d).set (k + 1) (d)).getD j 0 ≤ 60) := set_le (set_le H60.out (by omega)) (by omega)
              clear HE HV HD HS HRD hvs HSJ HNX HJ HOJ HD1' H60 HL GV
              --@l54
              as_aux_lemma =>
                go_wp2_with (go_at_call 40; refine (CI.out _).mono ?_; rintro e w' ⟨rfl, rfl⟩)
                go_roundw
                case rel => exact ⟨k + 1, _, by omega, by go_num, LS, NS, BS, M6, ES⟩
                case measure => simp [intOf]; omega
              --@@
            have h9 : (z1 != d) = true := by simp [h8]
            have H8 : Hid (¬ z1 = d) := h8
            clear h8
            have E : Hid (resC n L = none) := by
              unfold Hid
              rw [← HR.out, ← HE.out]
              exact goS_stop hlt (by rw [← HV.out]; exact st_no4 (by dsimp only; rw [HD.out, show tak 6 = 1 from rfl, HSJ.out]; rw [HNX.out]; unfold okN; rw [HD1'.out, decide_eq_false h7, show (z1 == d) = false by simp [H8.out]]; simp))
            clear HE HV HD HS HRD hvs
            --@l55
            as_aux_lemma =>
              go_wp2_with (go_at_call 40; refine (CI.out _).mono ?_; rintro e w' ⟨rfl, rfl⟩)
              go_ret2
              exact ⟨⟨by rw [E.out, HG0.out]; rfl, fun r hr => by rw [E.out] at hr; cases hr⟩, BV2.out⟩
            --@@
          have n1 : (vo == 1) = false := by simp [ho1]
          have n2 : (vo == 2) = false := by simp [ho2]
          have n3 : (vo == 3) = false := by simp [ho3]
          have n4 : (vo == 4) = false := by simp [ho4]
          have n5 : (vo == 5) = false := by simp [ho5]
          have n6 : (vo == 6) = false := by simp [ho6]
          have HN : Hid (justB n k ⟨vo, vp, vk, vn, vt⟩ = false) := by unfold Hid justB; rw [if_neg ho1, if_neg ho2, if_neg ho3, if_neg ho4]; dsimp only; rw [show jmp vo = false by unfold jmp; rw [n5, n6]; rfl]; rfl
          clear ho1 ho2 ho3 ho4 ho5 ho6
          have E : Hid (resC n L = none) := by
            unfold Hid
            rw [← HR.out, ← HE.out]
            exact goS_stop hlt (by rw [← HV.out]; exact st_no1 HN.out)
          clear HE HV HD HS HRD hvs
          --@l56
          as_aux_lemma =>
            go_wp2_with (first | (go_at_call 40; refine (c_in _ _ _ _).mono ?_; rintro e w' ⟨rfl, rfl⟩))
            go_ret2
            exact ⟨⟨by rw [E.out, HG0.out]; rfl, fun r hr => by rw [E.out] at hr; cases hr⟩, BV.out⟩
          --@@
        · have e : k = n := by omega
          subst e
          obtain ⟨E1, E2⟩ := resS_fin (HE.out.trans HR.out)
          obtain ⟨d, hd⟩ : ∃ d, ds.getD k 0 = d := ⟨_, rfl⟩
          rw [hd] at E1
          have HE1 : Hid ((resC k L).isSome = (d == 1)) := E1
          have HE2 : Hid (∀ r, resC k L = some r → ds = r) := E2
          have q0 := G.out.cell (i := k) (by have := HL.out; omega)
          rw [hd] at q0
          have g1 : (0 : Int) ≤ (k : Int) := by omega
          have g2 : (k : Int) < (k : Int) + 1 := by omega
          clear E1 E2 hd HE
          --@e
          go_wp2_with fail
          go_region
          go_wp2
          go_ret2
          exact ⟨⟨by rw [HE1.out, HG0.out]; rfl, fun r hr => by rw [← HE2.out r hr, HG0.out]; exact G.out⟩, Below.drew B.out⟩
          --@@

end Go.Proofs.YtcgcaomaofppiaaDoor
