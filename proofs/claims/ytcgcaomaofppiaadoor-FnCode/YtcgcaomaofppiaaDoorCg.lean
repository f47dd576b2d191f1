/-
  How many values stand at a time: the program.
-/
import Derived.Test.YtcgcaomaofppiaaDoorCf
import Derived.Test.YtcgcaomaofppiaaDoorYq
import Derived.Deep.RegionHeld3
import Derived.Deep.QuietTactic
import Derived.BigQuiet
namespace Go.Proofs.YtcgcaomaofppiaaDoor
open Go Go.RowKit
attribute [local go_sem ↓] Go.wp_at_zero Go.wp_at_succ

set_option linter.unusedVariables false
def TakH (w : World) : Prop := w.cell? ⟨0, 0, none⟩ = some (.int .i64 0) ∧ w.cell? ⟨0, 1, none⟩ = some (.int .i64 0) ∧ w.cell? ⟨0, 2, none⟩ = some (.int .i64 0) ∧ w.cell? ⟨0, 3, none⟩ = some (.int .i64 1) ∧ w.cell? ⟨0, 4, none⟩ = some (.int .i64 2) ∧ w.cell? ⟨0, 5, none⟩ = some (.int .i64 1) ∧ w.cell? ⟨0, 6, none⟩ = some (.int .i64 1)
theorem TakH.lt {w : World} (h : TakH w) : 0 < w.heap.size := World.block_lt_of_cell? w ⟨0, 0, none⟩ h.1
theorem TakH.belowB {w w' : World} {B : Nat} (h : TakH w) (hb : Below B w w') (hB : 0 < B) : TakH w' := by
  obtain ⟨h0, h1, h2, h3, h4, h5, h6⟩ := h
  exact ⟨(hb.cell (p := ⟨0, 0, none⟩) hB).trans h0, (hb.cell (p := ⟨0, 1, none⟩) hB).trans h1, (hb.cell (p := ⟨0, 2, none⟩) hB).trans h2, (hb.cell (p := ⟨0, 3, none⟩) hB).trans h3, (hb.cell (p := ⟨0, 4, none⟩) hB).trans h4, (hb.cell (p := ⟨0, 5, none⟩) hB).trans h5, (hb.cell (p := ⟨0, 6, none⟩) hB).trans h6⟩
theorem TakH.below {w w' : World} (h : TakH w) (hb : Below w.heap.size w w') : TakH w' := h.belowB hb h.lt
theorem TakH.at {w : World} (h : TakH w) {o : Nat} (h1 : 1 ≤ o) (h6 : o ≤ 6) : w.cell? ⟨0, o, none⟩ = some (.int .i64 (tak (o : Int))) := by
  obtain ⟨c0, c1, c2, c3, c4, c5, c6⟩ := h
  have : o = 1 ∨ o = 2 ∨ o = 3 ∨ o = 4 ∨ o = 5 ∨ o = 6 := by omega
  rcases this with rfl | rfl | rfl | rfl | rfl | rfl
  · exact c1
  · exact c2
  · exact c3
  · exact c4
  · exact c5
  · exact c6
theorem just_op {n i : Nat} {x : IN} (h : justB n i x = true) : 1 ≤ x.o ∧ x.o ≤ 6 := by
  unfold justB at h
  split at h
  · omega
  · split at h
    · omega
    · split at h
      · omega
      · split at h
        · omega
        · have hj : jmp x.o = true := by
            cases hj : jmp x.o
            · rw [hj] at h; cases h
            · rfl
          have : x.o = 5 ∨ x.o = 6 := by simpa [jmp] using hj
          omega
def okC (n : Nat) (L : List IN) : Bool := decide (n ≤ 80) && (resC n L).isSome
def depC (n : Nat) (L : List IN) : Int := match resC n L with | some ds => mxI ds | none => 0
theorem goI_step {n k : Nat} {L : List IN} {ds d : List Int} (hk : k < n) (h : stI n k (L.getD k zeroI) ds = some d) : goI n L (n - k) k ds = goI n L (n - (k + 1)) (k + 1) d := by
  obtain ⟨f, hf⟩ : ∃ f, n - k = f + 1 := ⟨n - k - 1, by omega⟩
  rw [hf, show n - (k + 1) = f by omega, goI, h]
theorem goI_stop {n k : Nat} {L : List IN} {ds : List Int} (hk : k < n) (h : stI n k (L.getD k zeroI) ds = none) : goI n L (n - k) k ds = none := by
  obtain ⟨f, hf⟩ : ∃ f, n - k = f + 1 := ⟨n - k - 1, by omega⟩
  rw [hf, goI, h]
theorem okC_no {n : Nat} {L : List IN} (h : resC n L = none) : okC n L = false := by unfold okC; rw [h]; simp
theorem rep_ds0 (n : Nat) : (List.replicate (n + 1) (-1 : Int)).set 0 0 = ds0 n := by rw [List.replicate_succ]; rfl
theorem resC_fin {n : Nat} {L : List IN} {ds : List Int} (hn : n ≤ 80) (h : goI n L (n - n) n ds = resC n L) : okC n L = (ds.getD n 0 == 1) ∧ (okC n L = true → mxI ds = depC n L) := by
  rw [Nat.sub_self, goI, finD] at h
  unfold okC depC
  by_cases hd : ds.getD n 0 = 1
  · rw [if_pos hd] at h
    rw [← h, hd]
    exact ⟨by simp [hn], fun _ => rfl⟩
  · rw [if_neg hd] at h
    rw [← h]
    exact ⟨by simp; exact hd, fun he => by simp at he⟩
set_option maxRecDepth 100000 in
set_option maxHeartbeats 4000000 in
theorem c_most (L : List IN) (a : Option Addr) (n c : Nat) (w : World) (hr : RdI w a n L) (hm : n ≤ maxLen) (hs : ∀ v ∈ L, v.t.size ≤ maxLen) (ht : TakH w) :
    Calls Tryd.prog 38 #[.slice a n c] w fun e w' => (∃ m : Int, e = .returned (.tuple #[.int .i64 m, .bool (okC n L)]) ∧ (okC n L = true → m = depC n L)) ∧ Below w.heap.size w w' := by
  unfold maxLen at hm
  by_cases h80 : 80 < n
  · have E : Hid (okC n L = false) := by unfold Hid okC; rw [decide_eq_false (by omega)]; rfl
    clear hr hs ht
    go_enter Tryd.func38, Tryd.ntmps38
    go_wp2
    go_ret2
    exact ⟨⟨0, by rw [E.out]; rfl, fun h => by rw [E.out] at h; cases h⟩, Below.refl _ _⟩
  have hn80 : n ≤ 80 := by omega
  obtain ⟨R, hR⟩ : ∃ R, R = resC n L := ⟨_, rfl⟩
  have HR : Hid (R = resC n L) := hR
  have HS : Hid (∀ v ∈ L, v.t.size ≤ maxLen) := hs
  have HT : Hid (TakH w) := ht
  have HRD : Hid (RdI w a n L) := hr
  clear hr hs ht hR
  obtain ⟨V, hV⟩ : ∃ V, w.alloc (.cells #[.int .i64 (-1)] 3) = V := ⟨_, rfl⟩
  have BV : Hid (Below w.heap.size w V) := by unfold Hid; rw [← hV]; exact (Below.refl _ _).alloc (Nat.le_refl _) _
  have XV : Box V w.heap.size 3 #[.int .i64 (-1)] := by rw [← hV]; exact Box.new _ _ _
  obtain ⟨g, hg⟩ : ∃ g, V.heap.size = g := ⟨_, rfl⟩
  have hgw : w.heap.size < g := by rw [← hg]; exact XV.lt
  have CR := c_repeat w.heap.size 0 1 (n + 1) V (XV.cell 0) (by omega) (by omega)
  rw [show ((n + 1 : Nat) : Int) = (n : Int) + 1 by omega, hg] at CR
  clear XV
  go_enter Tryd.func38, Tryd.ntmps38
  go_wp2_with fail
  refine CR.mono ?_
  rintro e w1 ⟨rfl, G1, hb1⟩
  have B1 : Hid (Below w.heap.size w w1) := BV.out.trans (hb1.mono (by omega))
  have HG1 : Hid (NB w1 g (List.replicate (n + 1) (-1))) := G1
  have c0 := G1.cell (i := 0) (by simp)
  have f0 := G1.thaw 0
  have G2 : Hid (NB (w1.setCell ⟨g, 0, none⟩ (.int .i64 0)) g (ds0 n)) := by
    unfold Hid
    rw [← rep_ds0]
    exact G1.set 0 0
  have B2 : Hid (Below w.heap.size w (w1.setCell ⟨g, 0, none⟩ (.int .i64 0))) := B1.out.setCell (by show w.heap.size ≤ g; omega) _
  clear CR hb1 G1 B1 HG1 hV BV hg
  have gn : (0 : Int) < (n : Int) + 1 := by omega
  go_wp2_with fail
  go_loopw [20] (fun i wr => ∃ (k : Nat) (ds : List Int), k ≤ n ∧ i = .int .i64 (k : Int) ∧ Hid (ds.length = n + 1) ∧ Hid (NB wr g ds) ∧ Hid (Below w.heap.size w wr) ∧ Hid (goI n L (n - k) k ds = R)) (fun i _ => n - (intOf i).toNat)
  case atStart => exact ⟨0, ds0 n, by omega, rfl, by show (ds0 n).length = n + 1; simp [ds0], G2, B2, by show goI n L (n - 0) 0 (ds0 n) = R; rw [HR.out, Nat.sub_zero]; exact res_eq n L⟩
  case round =>
    clear G2 B2 c0 f0 gn
    obtain ⟨k, ds, hk, rfl, HL, G, B, HE⟩ := hrel
    by_cases hlt : k < n
    · obtain ⟨b, off, hab, hbl, hc⟩ := HRD.out.2 (by omega)
      subst hab
      obtain ⟨⟨vo, vp, vk, vn, vt⟩, hv⟩ : ∃ v, v = L.getD k zeroI := ⟨_, rfl⟩
      obtain ⟨d0, d1, d2, d3, d4⟩ := RdI.at hc hlt hv
      dsimp only at d0 d1 d2 d3 d4
      have e0 : wr.cell? ⟨b, off + k * 5, none⟩ = some (.int .i64 vo) := by rw [B.out.cell (p := ⟨b, off + k * 5, none⟩) hbl, d0]
      have e1 : wr.cell? ⟨b, off + k * 5 + 1, none⟩ = some (.int .i64 vp) := by rw [B.out.cell (p := ⟨b, off + k * 5 + 1, none⟩) hbl, d1]
      have e2 : wr.cell? ⟨b, off + k * 5 + 2, none⟩ = some (.int .i64 vk) := by rw [B.out.cell (p := ⟨b, off + k * 5 + 2, none⟩) hbl, d2]
      have e3 : wr.cell? ⟨b, off + k * 5 + 3, none⟩ = some (.int .i64 vn) := by rw [B.out.cell (p := ⟨b, off + k * 5 + 3, none⟩) hbl, d3]
      have e4 : wr.cell? ⟨b, off + k * 5 + 4, none⟩ = some (.string vt) := by rw [B.out.cell (p := ⟨b, off + k * 5 + 4, none⟩) hbl, d4]
      have HV : Hid ((⟨vo, vp, vk, vn, vt⟩ : IN) = L.getD k zeroI) := hv
      have hvs : vt.size ≤ maxLen := by
        have := getD_ofX (d := zeroI) HS.out (show k < L.length by have := HRD.out.1; omega)
        rw [← hv] at this
        exact this
      obtain ⟨J, hJ⟩ : ∃ J, justB n k ⟨vo, vp, vk, vn, vt⟩ = J := ⟨_, rfl⟩
      have CJ : Hid (∀ W, Below w.heap.size w W → Calls Tryd.prog 67 #[.slice (some ⟨b, off, none⟩) n c, .int .i64 (k : Int)] W fun e w' => e = .returned (.bool J) ∧ Below W.heap.size W w') := fun W hW => by
        rw [← hJ]
        exact c_hasJust L _ n c k _ W (HRD.out.below hW) hlt (by omega) hv hvs
      have g1 : (0 : Int) ≤ (k : Int) := by omega
      have g2 : (k : Int) < (n : Int) := by omega
      have g3 : (k : Int) < (n : Int) + 1 := by omega
      obtain ⟨d, hd⟩ : ∃ d, ds.getD k 0 = d := ⟨_, rfl⟩
      have HD : Hid (ds.getD k 0 = d) := hd
      clear hc hv d0 d1 d2 d3 d4 hd
      obtain ⟨V1, hV1⟩ : ∃ W, wr.alloc (.cells #[.int .i64 vo, .int .i64 vp, .int .i64 vk, .int .i64 vn, .string vt] 59) = W := ⟨_, rfl⟩
      have bV : Below wr.heap.size wr V1 := by rw [← hV1]; exact (Below.refl _ _).alloc (Nat.le_refl _) _
      have BV : Hid (Below w.heap.size w V1) := B.out.trans (bV.mono B.out.size)
      have XV : Hid (Box V1 wr.heap.size 59 #[.int .i64 vo, .int .i64 vp, .int .i64 vk, .int .i64 vn, .string vt]) := by unfold Hid; rw [← hV1]; exact Box.new _ _ _
      have GV : Hid (NB V1 g ds) := G.out.below bV
      have lg : g < wr.heap.size := Box.lt G.out
      have CQ : Hid (∀ r : Out V1, Calls Tryd.prog 67 #[.slice (some ⟨b, off, none⟩) n c, .int .i64 (k : Int)] r.y fun e w' => e = .returned (.bool J) ∧ Below r.y.heap.size r.y w') := fun r => CJ.out r.y (BV.out.trans (r.p.mono BV.out.size))
      clear bV B G CJ
      cases hJb : J
      · subst hJb
        have E : Hid (okC n L = false) := by
          unfold Hid
          apply okC_no
          rw [← HR.out, ← HE.out]
          refine goI_stop hlt ?_
          rw [← HV.out]
          unfold stI
          rw [hJ, if_neg (by simp)]
        clear hJ HE HD HV hvs
        --@a
        go_wp2_with fail
        clear hV1 e0 e1 e2 e3 e4
        haveI nonE := Out.some V1
        refine q_begin (by kernel_rfl) (by kernel_rfl) ?_
        repeat (go_big_quiet_step (exact q_call (CQ.out _)))
        refine wpQuiet_nil ?_
        rintro w3 ⟨⟨y', hb3⟩, hy⟩
        have hy' : w3 = y' := hy
        clear hy
        subst hy'
        have B3 : Hid (Below w.heap.size w w3) := BV.out.trans (hb3.mono BV.out.size)
        clear hb3
        go_wp2
        go_ret2
        exact ⟨⟨0, by rw [E.out]; rfl, fun h => by rw [E.out] at h; cases h⟩, B3.out⟩
        --@@
      · subst hJb
        have hop := just_op hJ
        dsimp only at hop
        obtain ⟨o, rfl⟩ : ∃ o : Nat, vo = (o : Int) := ⟨vo.toNat, by omega⟩
        have ho1 : 1 ≤ o := by omega
        have ho6 : o ≤ 6 := by omega
        have g4 : (0 : Int) ≤ (o : Int) := by omega
        have g5 : (o : Int) < 7 := by omega
        obtain ⟨tk, htk⟩ : ∃ tk, tak (o : Int) = tk := ⟨_, rfl⟩
        have HTK : Hid (tak (o : Int) = tk) := htk
        have htk0 : 0 ≤ tk ∧ tk ≤ 2 := by rw [← htk]; unfold tak; split <;> (try split) <;> (try split) <;> omega
        have HJ : Hid (justB n k ⟨(o : Int), vp, vk, vn, vt⟩ = true) := hJ
        have FA : Hid (∀ W, Below V1.heap.size V1 W → W.cell? ⟨g, k, none⟩ = some (.int .i64 d) ∧ W.cell? ⟨wr.heap.size, 0, none⟩ = some (.int .i64 (o : Int)) ∧ W.cell? ⟨0, o, none⟩ = some (.int .i64 tk)) := fun W hW => by
          refine ⟨?_, ?_, ?_⟩
          · have := (GV.out.below hW).cell (i := k) (by have := HL.out; omega)
            rwa [HD.out] at this
          · exact (XV.out.belowS hW).cell 0
          · have := (HT.out.below (BV.out.trans (hW.mono BV.out.size))).at ho1 ho6
            rwa [HTK.out] at this
        clear hJ hop htk hvs
        by_cases hdt : d < tk
        · have E : Hid (okC n L = false) := by
            unfold Hid
            apply okC_no
            rw [← HR.out, ← HE.out]
            refine goI_stop hlt ?_
            rw [← HV.out]
            unfold stI
            rw [if_neg (by dsimp only; rw [HD.out, HTK.out]; omega)]
          clear HE HD HV HTK HJ
          --@b
          go_wp2_with fail
          clear hV1 e0 e1 e2 e3 e4
          have q0 := fun r : Out V1 => (FA.out r.y r.p).1
          have q1 := fun r : Out V1 => (FA.out r.y r.p).2.1
          have q2 := fun r : Out V1 => (FA.out r.y r.p).2.2
          have k1 : decide (d < tk) = true := decide_eq_true hdt
          haveI nonE := Out.some V1
          refine q_begin (by kernel_rfl) (by kernel_rfl) ?_
          repeat (go_big_quiet_step (exact q_call (CQ.out _)))
          refine wpQuiet_nil ?_
          rintro w3 ⟨⟨y', hb3⟩, hy⟩
          have hy' : w3 = y' := hy
          clear hy
          subst hy'
          have B3 : Hid (Below w.heap.size w w3) := BV.out.trans (hb3.mono BV.out.size)
          clear hb3 q0 q1 q2
          go_wp2
          go_ret2
          exact ⟨⟨0, by rw [E.out]; rfl, fun h => by rw [E.out] at h; cases h⟩, B3.out⟩
          --@@
        by_cases h60 : 60 < d
        · have E : Hid (okC n L = false) := by
            unfold Hid
            apply okC_no
            rw [← HR.out, ← HE.out]
            refine goI_stop hlt ?_
            rw [← HV.out]
            unfold stI
            rw [if_neg (by dsimp only; rw [HD.out, HTK.out]; omega)]
          clear HE HD HV HTK HJ
          --@c
          go_wp2_with fail
          clear hV1 e0 e1 e2 e3 e4
          have q0 := fun r : Out V1 => (FA.out r.y r.p).1
          have q1 := fun r : Out V1 => (FA.out r.y r.p).2.1
          have q2 := fun r : Out V1 => (FA.out r.y r.p).2.2
          have k1 : decide (d < tk) = false := decide_eq_false (by omega)
          have k2 : decide (60 < d) = true := decide_eq_true h60
          haveI nonE := Out.some V1
          refine q_begin (by kernel_rfl) (by kernel_rfl) ?_
          repeat (go_big_quiet_step (exact q_call (CQ.out _)))
          refine wpQuiet_nil ?_
          rintro w3 ⟨⟨y', hb3⟩, hy⟩
          have hy' : w3 = y' := hy
          clear hy
          subst hy'
          have B3 : Hid (Below w.heap.size w w3) := BV.out.trans (hb3.mono BV.out.size)
          clear hb3 q0 q1 q2
          go_wp2
          go_ret2
          exact ⟨⟨0, by rw [E.out]; rfl, fun h => by rw [E.out] at h; cases h⟩, B3.out⟩
          --@@
        obtain ⟨bh, hbh⟩ : ∃ x, d - tk + 1 = x := ⟨_, rfl⟩
        have hb0 : 0 ≤ bh ∧ bh ≤ 61 := by omega
        have HBH : Hid (d - tk + 1 = bh) := hbh
        --@d
        go_wp2_with fail
        clear hV1 e0 e1 e2 e3 e4 hbh
        have q0 := fun r : Out V1 => (FA.out r.y r.p).1
        have q1 := fun r : Out V1 => (FA.out r.y r.p).2.1
        have q2 := fun r : Out V1 => (FA.out r.y r.p).2.2
        have k1 : decide (d < tk) = false := decide_eq_false (by omega)
        have k2 : decide (60 < d) = false := decide_eq_false (by omega)
        haveI nonE := Out.some V1
        refine q_begin (by kernel_rfl) (by kernel_rfl) ?_
        repeat (go_big_quiet_step (exact q_call (CQ.out _)))
        refine wpQuiet_nil ?_
        rintro w3 ⟨⟨y', hb3⟩, hy⟩
        have hy' : w3 = y' := hy
        clear hy
        subst hy'
        have B3 : Hid (Below w.heap.size w w3) := BV.out.trans (hb3.mono BV.out.size)
        have X3 : Hid (Box w3 wr.heap.size 59 #[.int .i64 (o : Int), .int .i64 vp, .int .i64 vk, .int .i64 vn, .string vt]) := XV.out.belowS hb3
        have G3 : Hid (NB w3 g ds) := GV.out.below hb3
        obtain ⟨p0, p1, p2⟩ := FA.out w3 hb3
        clear q0 q1 q2 k1 k2
        clear hb3 FA XV GV CQ BV
        have g6 : (0 : Int) ≤ (k : Int) + 1 := by omega
        have g7 : (k : Int) + 1 < (n : Int) + 1 := by omega
        have CL : Hid (∀ W, NB W g ds → Calls Tryd.prog 68 #[.slice (some ⟨g, 0, none⟩) (n + 1) (n + 1), .int .i64 ((k : Int) + 1), .int .i64 bh] W fun e w' => e = .returned (.bool (leadB ds (k + 1) bh)) ∧ NB w' g (leadT ds (k + 1) bh) ∧ Inn g (g + 1) W w') := fun W hW => c_leads g (n + 1) ds (k + 1) bh W hW HL.out (by omega)
        go_wp2_with fail
        go_region
        rw [HBH.out]
        clear p0 p2
        go_wp2_with fail
        refine (CL.out _ (show NB w3.drew g ds from G3.out)).mono ?_
        rintro e w4 ⟨rfl, G4, I4⟩
        have I4' : Inn g (g + 1) w3 w4 := ⟨I4.os, I4.tape, I4.output, I4.size, I4.block⟩
        have B4 : Hid (Below w.heap.size w w4) := B3.out.trans (I4'.below (by omega) B3.out.size)
        have X4 : Hid (Box w4 wr.heap.size 59 #[.int .i64 (o : Int), .int .i64 vp, .int .i64 vk, .int .i64 vn, .string vt]) := X3.out.inn I4' (by omega)
        have HG4 : Hid (NB w4 g (leadT ds (k + 1) bh)) := G4
        clear I4 I4' G4 B3 X3 G3 CL p1
        obtain ⟨l1, hl1⟩ : ∃ x, leadB ds (k + 1) bh = x := ⟨_, rfl⟩
        rw [hl1]
        have HL1 : Hid (leadB ds (k + 1) bh = l1) := hl1
        clear hl1
        have y0 : w4.cell? ⟨wr.heap.size, 0, none⟩ = some (.int .i64 (o : Int)) := X4.out.cell 0
        have y1 : w4.cell? ⟨wr.heap.size, 1, none⟩ = some (.int .i64 vp) := X4.out.cell 1
        have HST : Hid (stI n k (L.getD k zeroI) ds = if leadB ds (k + 1) bh then (if jmp (o : Int) then (if leadB (leadT ds (k + 1) bh) vp.toNat bh then some (leadT (leadT ds (k + 1) bh) vp.toNat bh) else none) else some (leadT ds (k + 1) bh)) else none) := by
          unfold Hid
          rw [← HV.out]
          unfold stI
          rw [if_pos (by dsimp only; rw [HD.out, HTK.out]; exact ⟨HJ.out, by omega, by omega⟩)]
          dsimp only
          rw [HD.out, HTK.out, HBH.out]
        cases hl : l1
        · subst hl
          have E : Hid (okC n L = false) := by
            unfold Hid
            apply okC_no
            rw [← HR.out, ← HE.out]
            exact goI_stop hlt (by rw [HST.out, HL1.out]; rfl)
          go_wp2
          go_ret2
          exact ⟨⟨0, by rw [E.out]; rfl, fun h => by rw [E.out] at h; cases h⟩, B4.out⟩
        subst hl
        obtain ⟨jb, hjb⟩ : ∃ x, jmp (o : Int) = x := ⟨_, rfl⟩
        have HJB : Hid (jmp (o : Int) = jb) := hjb
        have CI : Hid (∀ W, Calls Tryd.prog 69 #[.int .i64 (o : Int)] W fun e w' => e = .returned (.bool jb) ∧ w' = W) := fun W => by rw [← hjb]; exact c_isJ _ W
        clear hjb
        cases hj : jb
        · subst hj
          have ES : Hid (goI n L (n - (k + 1)) (k + 1) (leadT ds (k + 1) bh) = R) := by
            unfold Hid
            rw [← HE.out]
            exact (goI_step hlt (by rw [HST.out, HL1.out, HJB.out]; rfl)).symm
          have HL4 : Hid ((leadT ds (k + 1) bh).length = n + 1) := by unfold Hid; rw [lead_len]; exact HL.out
          clear HST HJ HL1 HJB HE HV HD HTK HBH X4
          go_wp2_with (go_at_call 69; refine (CI.out _).mono ?_; rintro e w4 ⟨rfl, rfl⟩)
          go_roundw
          case rel => exact ⟨k + 1, leadT ds (k + 1) bh, by omega, by go_num, HL4, HG4, B4, ES⟩
          case measure => simp [intOf]; omega
        · subst hj
          obtain ⟨hp1, hp2⟩ := just_j HJ.out HJB.out
          dsimp only at hp1 hp2
          obtain ⟨p, rfl⟩ : ∃ p : Nat, vp = (p : Int) := ⟨vp.toNat, by omega⟩
          have g8 : (0 : Int) ≤ (p : Int) := by omega
          have CL2 : Hid (∀ W, NB W g (leadT ds (k + 1) bh) → Calls Tryd.prog 68 #[.slice (some ⟨g, 0, none⟩) (n + 1) (n + 1), .int .i64 (p : Int), .int .i64 bh] W fun e w' => e = .returned (.bool (leadB (leadT ds (k + 1) bh) p bh)) ∧ NB w' g (leadT (leadT ds (k + 1) bh) p bh) ∧ Inn g (g + 1) W w') := fun W hW => c_leads g (n + 1) _ p bh W hW (by rw [lead_len]; exact HL.out) (by omega)
          go_wp2_with (go_at_call 69; refine (CI.out _).mono ?_; rintro e w4 ⟨rfl, rfl⟩)
          refine (CL2.out _ HG4.out).mono ?_
          rintro e w5 ⟨rfl, G5, I5⟩
          have B5 : Hid (Below w.heap.size w w5) := B4.out.trans (I5.below (by omega) B4.out.size)
          have HG5 : Hid (NB w5 g (leadT (leadT ds (k + 1) bh) p bh)) := G5
          clear I5 G5 B4 X4 HG4 CL2 y0 y1 CI
          obtain ⟨l2, hl2⟩ : ∃ x, leadB (leadT ds (k + 1) bh) p bh = x := ⟨_, rfl⟩
          rw [hl2]
          have HL2 : Hid (leadB (leadT ds (k + 1) bh) p bh = l2) := hl2
          clear hl2
          cases hl : l2
          · subst hl
            have E : Hid (okC n L = false) := by
              unfold Hid
              apply okC_no
              rw [← HR.out, ← HE.out]
              exact goI_stop hlt (by rw [HST.out, HL1.out, HJB.out, Int.toNat_natCast, HL2.out]; rfl)
            go_wp2
            go_ret2
            exact ⟨⟨0, by rw [E.out]; rfl, fun h => by rw [E.out] at h; cases h⟩, B5.out⟩
          · subst hl
            have ES : Hid (goI n L (n - (k + 1)) (k + 1) (leadT (leadT ds (k + 1) bh) p bh) = R) := by
              unfold Hid
              rw [← HE.out]
              exact (goI_step hlt (by rw [HST.out, HL1.out, HJB.out, Int.toNat_natCast, HL2.out]; rfl)).symm
            have HL4 : Hid ((leadT (leadT ds (k + 1) bh) p bh).length = n + 1) := by unfold Hid; rw [lead_len, lead_len]; exact HL.out
            clear HST HJ HL1 HJB HE HV HD HTK HBH HL2
            go_wp2
            go_roundw
            case rel => exact ⟨k + 1, _, by omega, by go_num, HL4, HG5, B5, ES⟩
            case measure => simp [intOf]; omega
        --@@
    · have e : k = n := by omega
      subst e
      obtain ⟨E1, E2⟩ := resC_fin hn80 (HE.out.trans HR.out)
      obtain ⟨d, hd⟩ : ∃ d, ds.getD k 0 = d := ⟨_, rfl⟩
      rw [hd] at E1
      have HE1 : Hid (okC k L = (d == 1)) := E1
      have HE2 : Hid (okC k L = true → mxI ds = depC k L) := E2
      have q0 := G.out.cell (i := k) (by have := HL.out; omega)
      rw [hd] at q0
      have CM : Hid (∀ W, NB W g ds → Calls Tryd.prog 70 #[.slice (some ⟨g, 0, none⟩) (k + 1) (k + 1)] W fun e w' => e = .returned (.int .i64 (mxI ds)) ∧ w' = W) := fun W hW => c_max g (k + 1) ds W hW HL.out (by omega) (by omega)
      have g1 : (0 : Int) ≤ (k : Int) := by omega
      have g2 : (k : Int) < (k : Int) + 1 := by omega
      clear E1 E2 hd HE
      --@e
      go_wp2_with fail
      have CMQ : Hid (∀ r : Out wr, Calls Tryd.prog 70 #[.slice (some ⟨g, 0, none⟩) (k + 1) (k + 1)] r.y fun e w' => e = .returned (.int .i64 (mxI ds)) ∧ w' = r.y) := fun r => CM.out r.y (G.out.below r.p)
      have qq := fun r : Out wr => q_cell q0 r
      haveI nonE := Out.some wr
      refine q_begin (by kernel_rfl) (by kernel_rfl) ?_
      repeat (go_big_quiet_step (exact q_same (CMQ.out _)))
      refine wpQuiet_nil ?_
      rintro w3 ⟨⟨y', hb3⟩, hy⟩
      have hy' : w3 = y' := hy
      clear hy
      subst hy'
      have B3 : Hid (Below w.heap.size w w3) := B.out.trans (hb3.mono B.out.size)
      clear hb3 qq CMQ CM q0
      go_wp2
      go_ret2
      exact ⟨⟨mxI ds, by rw [HE1.out]; rfl, HE2.out⟩, B3.out⟩
      --@@

end Go.Proofs.YtcgcaomaofppiaaDoor
