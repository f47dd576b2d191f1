/-
  LocksOK: the specification's walk.
-/
import Derived.Test.YtmjacoocnkcilaaDoorLq
namespace Go.Proofs.YtmjacoocnkcilaaDoor
open Go Go.RowKit
attribute [local go_sem ↓] Go.wp_at_zero Go.wp_at_succ

theorem okP_no {vs : List LK} {ws : List WK} {i : Nat} (hi : i < vs.length) (h : (okK (vs.getD i dK) && !(vs.take i).any (pairBad (vs.getD i dK))) = false) : okLs vs ws = false := by
  have hp : okP vs vs.length = false := by
    cases hc : okP vs vs.length
    · rfl
    · have := (okP_iff vs vs.length).1 hc i hi
      rw [this.1, this.2] at h
      simp at h
  rw [fit_pairs] at hp
  unfold okLs
  cases h1 : vs.all okK
  · simp
  · rw [h1, Bool.true_and] at hp
    rw [hp]; simp
theorem okP_yes {vs : List LK} {ws : List WK} (n0 : vs.length ≤ 60) (n1 : ws.length ≤ 100) (hp : okP vs vs.length = true) : okLs vs ws = ws.all okW := by
  rw [fit_pairs] at hp
  unfold okLs
  rw [decide_eq_true n0, decide_eq_true n1, Bool.true_and, Bool.true_and, hp, Bool.true_and]
theorem okW_no {vs : List LK} {ws : List WK} {i : Nat} (hi : i < ws.length) (h : okW (ws.getD i dW) = false) : okLs vs ws = false := by
  have : ws.all okW = false := by
    rw [List.all_eq_false]
    refine ⟨ws.getD i dW, ?_, by rw [h]; simp⟩
    rw [List.getD_eq_getElem?_getD, List.getElem?_eq_getElem hi]; exact List.getElem_mem hi
  unfold okLs
  rw [this]; simp
set_option maxRecDepth 100000 in
set_option maxHeartbeats 8000000 in
theorem c_specLO (h : HL) (vs : List LK) (ws : List WK) (w : World) (r : RdL w h vs ws) (f0 : vs.length ≤ 1048576) (f1 : ws.length ≤ 1048576) :
    Calls Tryd.prog 16 #[.agg #[.slice h.a0 vs.length h.c0, .slice h.a1 ws.length h.c1]] w fun e w' => e = .returned (.bool (okLs vs ws)) ∧ Below w.heap.size w w' := by
  have R : Hid (RdL w h vs ws) := r
  clear r
  obtain ⟨V, hV⟩ : ∃ V, w.alloc (.cells #[.slice h.a0 vs.length h.c0, .slice h.a1 ws.length h.c1] 34) = V := ⟨_, rfl⟩
  have B : Hid (Below w.heap.size w V) := by unfold Hid; rw [← hV]; exact (Below.refl _ _).alloc (Nat.le_refl _) _
  have X : Hid (Box V w.heap.size 34 #[.slice h.a0 vs.length h.c0, .slice h.a1 ws.length h.c1]) := by unfold Hid; rw [← hV]; exact Box.new _ _ _
  obtain ⟨x0, x1⟩ := box2 X.out
  by_cases n0 : vs.length ≤ 60
  case neg =>
    have c0 : (60 : Int) < (vs.length : Int) := by omega
    have E : Hid (okLs vs ws = false) := by simp [Hid, okLs, n0]
    go_enter Tryd.func16, Tryd.ntmps16
    go_wp2
    go_ret
    exact ⟨ret_bool E.out.symm, B.out⟩
  have c0 : ¬ (60 : Int) < (vs.length : Int) := by omega
  by_cases n1 : ws.length ≤ 100
  case neg =>
    have c1 : (100 : Int) < (ws.length : Int) := by omega
    have E : Hid (okLs vs ws = false) := by simp [Hid, okLs, n1]
    go_enter Tryd.func16, Tryd.ntmps16
    go_wp2
    go_ret
    exact ⟨ret_bool E.out.symm, B.out⟩
  have c1 : ¬ (100 : Int) < (ws.length : Int) := by omega
  go_enter Tryd.func16, Tryd.ntmps16
  go_wp2
  go_loopw [3] (fun s wr => ∃ i : Nat, i ≤ vs.length ∧ s = .int .i64 (i : Int) ∧ Hid (okP vs i = true) ∧ Hid (Below V.heap.size V wr)) (fun s _ => vs.length - (intOf s).toNat)
  case atStart => exact ⟨0, by omega, rfl, rfl, Below.refl _ _⟩
  case round =>
    obtain ⟨i, hi, rfl, HP, HB⟩ := hrel
    have Xr := X.out.belowS HB.out
    have HBw : Hid (Below w.heap.size w wr) := B.out.trans (HB.out.mono B.out.size)
    clear x0 x1
    obtain ⟨x0, x1⟩ := box2 Xr
    by_cases hlt : i < vs.length
    · obtain ⟨hl, hcs⟩ := R.out.1
      obtain ⟨b, off, ha, hbl, hc⟩ := hcs (by omega)
      rw [ha] at x0
      have HAD : Hid (h.a0 = some ⟨b, off, none⟩) := ha
      clear ha
      obtain ⟨⟨ax, ab, ar, am⟩, hv⟩ : ∃ v, v = vs.getD i dK := ⟨_, rfl⟩
      obtain ⟨d0, d1, d2, d3⟩ := hc i hlt
      rw [← hv] at d0 d1 d2 d3
      have e0 : wr.cell? ⟨b, off + i * 4, none⟩ = some (.int .i64 ax) := by rw [HBw.out.cell (p := ⟨b, off + i * 4, none⟩) hbl, d0]
      have e1 : wr.cell? ⟨b, off + i * 4 + 1, none⟩ = some (.int .i64 ab) := by rw [HBw.out.cell (p := ⟨b, off + i * 4 + 1, none⟩) hbl, d1]
      have e2 : wr.cell? ⟨b, off + i * 4 + 2, none⟩ = some (.int .i64 ar) := by rw [HBw.out.cell (p := ⟨b, off + i * 4 + 2, none⟩) hbl, d2]
      have e3 : wr.cell? ⟨b, off + i * 4 + 3, none⟩ = some (.int .i64 am) := by rw [HBw.out.cell (p := ⟨b, off + i * 4 + 3, none⟩) hbl, d3]
      have HV : Hid ((⟨ax, ab, ar, am⟩ : LK) = vs.getD i dK) := hv
      have HC : Hid (∀ k, k < vs.length → w.cell? ⟨b, off + k * 4, none⟩ = some (.int .i64 (vs.getD k dK).x) ∧ w.cell? ⟨b, off + k * 4 + 1, none⟩ = some (.int .i64 (vs.getD k dK).b) ∧ w.cell? ⟨b, off + k * 4 + 2, none⟩ = some (.int .i64 (vs.getD k dK).r) ∧ w.cell? ⟨b, off + k * 4 + 3, none⟩ = some (.int .i64 (vs.getD k dK).m)) := hc
      have HBL : Hid (b < w.heap.size) := hbl
      obtain ⟨w2, hw2⟩ : ∃ W, wr.alloc (.cells #[.int .i64 ax, .int .i64 ab, .int .i64 ar, .int .i64 am] 55) = W := ⟨_, rfl⟩
      have hb2 : Below wr.heap.size wr w2 := by rw [← hw2]; exact (Below.refl _ _).alloc (Nat.le_refl _) _
      have A2 : Hid (Box w2 wr.heap.size 55 #[.int .i64 ax, .int .i64 ab, .int .i64 ar, .int .i64 am]) := by unfold Hid; rw [← hw2]; exact Box.new _ _ _
      have X2 : Hid (Box w2 w.heap.size 34 #[.slice h.a0 vs.length h.c0, .slice h.a1 ws.length h.c1]) := Xr.belowS hb2
      have B2 : Hid (Below w.heap.size w w2) := HBw.out.trans (hb2.mono HBw.out.size)
      have V2 : Hid (Below V.heap.size V w2) := HB.out.trans (hb2.mono HB.out.size)
      have q0 := A2.out.cell 0
      have q1 := A2.out.cell 1
      have q2 := A2.out.cell 2
      have q3 := A2.out.cell 3
      simp only [List.getElem?_toArray, List.getElem?_cons_zero, List.getElem?_cons_succ] at q0 q1 q2 q3
      obtain ⟨p, hp⟩ : ∃ p, okK ⟨ax, ab, ar, am⟩ = p := ⟨_, rfl⟩
      have CK : Hid (∀ W : World, Calls Tryd.prog 45 #[.int .i64 ax, .int .i64 ab, .int .i64 ar, .int .i64 am] W fun e w' => e = .returned (.bool p) ∧ w' = W) := fun W => by rw [← hp]; exact c_ask ax ab ar am W
      have NO : Hid ((p && !(vs.take i).any (pairBad ⟨ax, ab, ar, am⟩)) = false → okLs vs ws = false) := fun hh => okP_no hlt (by rw [← hv, hp]; exact hh)
      have YES : Hid (p = true → (vs.take i).any (pairBad ⟨ax, ab, ar, am⟩) = false → okP vs (i + 1) = true) := fun h1 h2 => by
        show (okP vs i && (okK (vs.getD i dK) && !(vs.take i).any (pairBad (vs.getD i dK)))) = true
        rw [HP.out, ← hv, hp, h1, h2]; rfl
      clear hc hcs d0 d1 d2 d3 hv hp hb2 Xr
      go_wp2_with fail
      refine (CK.out w2).mono ?_
      rintro e wq ⟨rfl, hwq⟩; rw [hwq]; clear hwq
      cases p
      · go_wp2
        go_ret
        exact ⟨ret_bool (NO.out (by first | rfl | trivial)).symm, B2.out⟩
      go_wp2
      go_loopw [5] (fun s wr => ∃ k : Nat, k ≤ i ∧ s = .int .i64 (k : Int) ∧ Hid ((vs.take k).any (pairBad ⟨ax, ab, ar, am⟩) = false) ∧ Hid (Below w2.heap.size w2 wr)) (fun s _ => i - (intOf s).toNat)
      case atStart => exact ⟨0, by omega, rfl, rfl, Below.refl _ _⟩
      case round =>
        obtain ⟨k, hk, rfl, HK, HB2⟩ := hrel
        have Ar := A2.out.belowS HB2.out
        have Xr := X2.out.belowS HB2.out
        have HBr : Hid (Below w.heap.size w wr) := B2.out.trans (HB2.out.mono B2.out.size)
        clear x0 x1 q0 q1 q2 q3 e0 e1 e2 e3
        obtain ⟨x0, x1⟩ := box2 Xr
        rw [HAD.out] at x0
        by_cases hkl : k < i
        · obtain ⟨⟨bx, bb, br, bm⟩, hv⟩ : ∃ v, v = vs.getD k dK := ⟨_, rfl⟩
          obtain ⟨d0, d1, d2, d3⟩ := HC.out k (by omega)
          rw [← hv] at d0 d1 d2 d3
          have hbl := HBL.out
          have e0 : wr.cell? ⟨b, off + k * 4, none⟩ = some (.int .i64 bx) := by rw [HBr.out.cell (p := ⟨b, off + k * 4, none⟩) hbl, d0]
          have e1 : wr.cell? ⟨b, off + k * 4 + 1, none⟩ = some (.int .i64 bb) := by rw [HBr.out.cell (p := ⟨b, off + k * 4 + 1, none⟩) hbl, d1]
          have e2 : wr.cell? ⟨b, off + k * 4 + 2, none⟩ = some (.int .i64 br) := by rw [HBr.out.cell (p := ⟨b, off + k * 4 + 2, none⟩) hbl, d2]
          have e3 : wr.cell? ⟨b, off + k * 4 + 3, none⟩ = some (.int .i64 bm) := by rw [HBr.out.cell (p := ⟨b, off + k * 4 + 3, none⟩) hbl, d3]
          have HS : Hid ((vs.take (k + 1)).any (pairBad ⟨ax, ab, ar, am⟩) = ((vs.take k).any (pairBad ⟨ax, ab, ar, am⟩) || pairBad ⟨ax, ab, ar, am⟩ ⟨bx, bb, br, bm⟩)) := by
            unfold Hid
            have hk' : k < vs.length := by omega
            rw [List.take_add_one, List.any_append, List.getElem?_eq_getElem hk', hv, List.getD_eq_getElem?_getD, List.getElem?_eq_getElem hk']
            simp
          have NOB : Hid (pairBad ⟨ax, ab, ar, am⟩ ⟨bx, bb, br, bm⟩ = true → okLs vs ws = false) := fun hh => NO.out (by
            have : (vs.take i).any (pairBad ⟨ax, ab, ar, am⟩) = true := by
              rw [List.any_eq_true]
              refine ⟨vs.getD k dK, ?_, by rw [← hv]; exact hh⟩
              have hk' : k < vs.length := by omega
              rw [List.getD_eq_getElem?_getD, List.getElem?_eq_getElem hk']
              exact List.mem_take_iff_getElem.2 ⟨k, by omega, rfl⟩
            rw [this]; rfl)
          obtain ⟨w3, hw3⟩ : ∃ W, wr.alloc (.cells #[.int .i64 bx, .int .i64 bb, .int .i64 br, .int .i64 bm] 55) = W := ⟨_, rfl⟩
          have hb3 : Below wr.heap.size wr w3 := by rw [← hw3]; exact (Below.refl _ _).alloc (Nat.le_refl _) _
          have Br : Box w3 wr.heap.size 55 #[.int .i64 bx, .int .i64 bb, .int .i64 br, .int .i64 bm] := by rw [← hw3]; exact Box.new _ _ _
          have A3 := Ar.belowS hb3
          have HB3 : Hid (Below w2.heap.size w2 w3) := HB2.out.trans (hb3.mono HB2.out.size)
          have HW3 : Hid (Below w.heap.size w w3) := HBr.out.trans (hb3.mono HBr.out.size)
          have q0 := A3.cell 0
          have q1 := A3.cell 1
          have q2 := A3.cell 2
          have q3 := A3.cell 3
          have r0 := Br.cell 0
          have r1 := Br.cell 1
          have r2 := Br.cell 2
          have r3 := Br.cell 3
          simp only [List.getElem?_toArray, List.getElem?_cons_zero, List.getElem?_cons_succ] at q0 q1 q2 q3 r0 r1 r2 r3
          clear d0 d1 d2 d3 hv hb3 Ar Br A3 Xr hbl
          by_cases eb : ab = bb
          case neg =>
            have cb : (ab == bb) = false := by simpa using eb
            have PF : Hid (pairBad (⟨ax, ab, ar, am⟩ : LK) ⟨bx, bb, br, bm⟩ = false) := by simp [Hid, pairBad, eb]
            go_wp2
            go_roundw
            case rel => exact ⟨k + 1, by omega, by go_num, by unfold Hid; rw [HS.out, HK.out, PF.out]; rfl, HB3⟩
            case measure => simp [intOf]; omega
          subst eb
          by_cases er : ar = br
          case neg =>
            have cr : (ar == br) = false := by simpa using er
            have PF : Hid (pairBad (⟨ax, ab, ar, am⟩ : LK) ⟨bx, ab, br, bm⟩ = false) := by simp [Hid, pairBad, er]
            go_wp2
            go_roundw
            case rel => exact ⟨k + 1, by omega, by go_num, by unfold Hid; rw [HS.out, HK.out, PF.out]; rfl, HB3⟩
            case measure => simp [intOf]; omega
          subst er
          by_cases ex : ax = bx
          · subst ex
            have cx : (ax != ax) = false := by simp
            by_cases em : am = bm
            · subst em
              have PF : Hid (pairBad (⟨ax, ab, ar, am⟩ : LK) ⟨ax, ab, ar, am⟩ = true) := by simp [Hid, pairBad]
              go_wp2
              go_ret
              exact ⟨ret_bool (NOB.out PF.out).symm, HW3.out⟩
            · have cm : (am == bm) = false := by simpa using em
              have PF : Hid (pairBad (⟨ax, ab, ar, am⟩ : LK) ⟨ax, ab, ar, bm⟩ = false) := by simp [Hid, pairBad, em]
              go_wp2
              go_roundw
              case rel => exact ⟨k + 1, by omega, by go_num, by unfold Hid; rw [HS.out, HK.out, PF.out]; rfl, HB3⟩
              case measure => simp [intOf]; omega
          · have cx : (ax != bx) = true := by simpa using ex
            have cx2 : (ax == bx) = false := by simpa using ex
            obtain ⟨f, hf⟩ : ∃ f, fitB am bm = f := ⟨_, rfl⟩
            have CF : Hid (∀ W : World, Calls Tryd.prog 40 #[.int .i64 am, .int .i64 bm] W fun e w' => e = .returned (.bool f) ∧ w' = W) := fun W => by rw [← hf]; exact c_fit am bm W
            have PF : Hid (pairBad (⟨ax, ab, ar, am⟩ : LK) ⟨bx, ab, ar, bm⟩ = !f) := by simp [Hid, pairBad, ex, hf]
            clear hf
            go_wp2_with fail
            refine (CF.out w3).mono ?_
            rintro e wq ⟨rfl, hwq⟩; rw [hwq]; clear hwq
            cases f
            · go_wp2
              go_ret
              exact ⟨ret_bool (NOB.out PF.out).symm, HW3.out⟩
            · go_wp2
              go_roundw
              case rel => exact ⟨k + 1, by omega, by go_num, by unfold Hid; rw [HS.out, HK.out, PF.out]; rfl, HB3⟩
              case measure => simp [intOf]; omega
        · have e : k = i := by omega
          rw [e] at HK
          have cge : ¬ (k : Int) < (i : Int) := by omega
          clear e
          have HVr : Hid (Below V.heap.size V wr) := V2.out.trans (HB2.out.mono V2.out.size)
          go_wp2
          go_roundw
          case rel => exact ⟨i + 1, by omega, by go_num, YES.out (by first | rfl | trivial) HK.out, HVr⟩
          case measure => simp [intOf]; omega
    · have e : i = vs.length := by omega
      rw [e] at HP
      have cge : ¬ (i : Int) < (vs.length : Int) := by omega
      clear e
      have AL : Hid (okLs vs ws = ws.all okW) := okP_yes n0 n1 HP.out
      go_wp2
      go_loopw [7] (fun s wr => ∃ k : Nat, k ≤ ws.length ∧ s = .int .i64 (k : Int) ∧ Hid ((ws.take k).all okW = true) ∧ Hid (Below V.heap.size V wr)) (fun s _ => ws.length - (intOf s).toNat)
      case atStart => exact ⟨0, by omega, rfl, rfl, HB⟩
      case round =>
        obtain ⟨k, hk, rfl, HK, HB2⟩ := hrel
        have Xr := X.out.belowS HB2.out
        have HBr : Hid (Below w.heap.size w wr) := B.out.trans (HB2.out.mono B.out.size)
        clear x0 x1
        obtain ⟨x0, x1⟩ := box2 Xr
        by_cases hkl : k < ws.length
        · obtain ⟨hl, hcs⟩ := R.out.2
          obtain ⟨b, off, ha, hbl, hc⟩ := hcs (by omega)
          rw [ha] at x1
          clear ha
          obtain ⟨⟨vx, vf⟩, hv⟩ : ∃ v, v = ws.getD k dW := ⟨_, rfl⟩
          obtain ⟨d0, d1⟩ := hc k hkl
          rw [← hv] at d0 d1
          have e0 : wr.cell? ⟨b, off + k * 2, none⟩ = some (.int .i64 vx) := by rw [HBr.out.cell (p := ⟨b, off + k * 2, none⟩) hbl, d0]
          have e1 : wr.cell? ⟨b, off + k * 2 + 1, none⟩ = some (.int .i64 vf) := by rw [HBr.out.cell (p := ⟨b, off + k * 2 + 1, none⟩) hbl, d1]
          have HS : Hid (okW ⟨vx, vf⟩ = true → (ws.take (k + 1)).all okW = true) := fun hh => by
            rw [List.take_add_one, List.all_append, HK.out, List.getElem?_eq_getElem hkl]
            rw [List.getD_eq_getElem?_getD, List.getElem?_eq_getElem hkl] at hv
            simp only [Option.getD_some] at hv
            simp [← hv, hh]
          have NW : Hid (okW ⟨vx, vf⟩ = false → okLs vs ws = false) := fun hh => okW_no hkl (by rw [← hv]; exact hh)
          obtain ⟨w3, hw3⟩ : ∃ W, wr.alloc (.cells #[.int .i64 vx, .int .i64 vf] 59) = W := ⟨_, rfl⟩
          have hb3 : Below wr.heap.size wr w3 := by rw [← hw3]; exact (Below.refl _ _).alloc (Nat.le_refl _) _
          have Br : Box w3 wr.heap.size 59 #[.int .i64 vx, .int .i64 vf] := by rw [← hw3]; exact Box.new _ _ _
          have HB3 : Hid (Below V.heap.size V w3) := HB2.out.trans (hb3.mono HB2.out.size)
          have HW3 : Hid (Below w.heap.size w w3) := HBr.out.trans (hb3.mono HBr.out.size)
          obtain ⟨r0, r1⟩ := box2 Br
          obtain ⟨p1, h1⟩ : ∃ p, inB vx 1 60 = p := ⟨_, rfl⟩
          obtain ⟨p2, h2⟩ : ∃ p, inB vf 1 60 = p := ⟨_, rfl⟩
          have C1 : Hid (∀ W : World, Calls Tryd.prog 39 #[.int .i64 vx, .int .i64 1, .int .i64 60] W fun e w' => e = .returned (.bool p1) ∧ w' = W) := fun W => by rw [← h1]; exact c_in vx 1 60 W
          have C2 : Hid (∀ W : World, Calls Tryd.prog 39 #[.int .i64 vf, .int .i64 1, .int .i64 60] W fun e w' => e = .returned (.bool p2) ∧ w' = W) := fun W => by rw [← h2]; exact c_in vf 1 60 W
          have EW : Hid (okW ⟨vx, vf⟩ = (p1 && p2 && decide (vx ≠ vf))) := by unfold Hid okW; rw [h1, h2]
          clear h1 h2 hc hcs d0 d1 hv hb3 Br Xr
          go_wp2_with fail
          refine (C1.out w3).mono ?_
          rintro e wq ⟨rfl, hwq⟩; rw [hwq]; clear hwq
          cases p1
          · go_wp2
            go_ret
            exact ⟨ret_bool (NW.out (by rw [EW.out]; rfl)).symm, HW3.out⟩
          go_wp2_with fail
          refine (C2.out w3).mono ?_
          rintro e wq ⟨rfl, hwq⟩; rw [hwq]; clear hwq
          cases p2
          · go_wp2
            go_ret
            exact ⟨ret_bool (NW.out (by rw [EW.out]; rfl)).symm, HW3.out⟩
          by_cases ex : vx = vf
          · subst ex
            go_wp2
            go_ret
            exact ⟨ret_bool (NW.out (by rw [EW.out]; simp)).symm, HW3.out⟩
          · have cx : (vx == vf) = false := by simpa using ex
            go_wp2
            go_roundw
            case rel => exact ⟨k + 1, by omega, by go_num, HS.out (by rw [EW.out, decide_eq_true ex]; rfl), HB3⟩
            case measure => simp [intOf]; omega
        · have e : k = ws.length := by omega
          have HA := HK.out
          rw [e, List.take_length] at HA
          have cge2 : ¬ (k : Int) < (ws.length : Int) := by omega
          clear e
          have E : Hid (okLs vs ws = true) := AL.out.trans HA
          clear HA
          go_wp2
          go_ret
          exact ⟨ret_bool E.out.symm, HBr.out⟩

end Go.Proofs.YtmjacoocnkcilaaDoor
