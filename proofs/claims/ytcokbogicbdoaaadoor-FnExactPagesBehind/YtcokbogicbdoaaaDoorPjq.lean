/-
  PagesBehind of the specification.
-/
import Derived.Test.YtcokbogicbdoaaaDoorPiq
import Derived.Test.YtcokbogicbdoaaaDoorYtdq
import Derived.Test.YtcokbogicbdoaaaDoorGtq
import Derived.Test.YtcokbogicbdoaaaDoorZzah
import Derived.Deep.RegionHeld3
namespace Go.Proofs.YtcokbogicbdoaaaDoor
open Go Go.RowKit
attribute [local go_sem ↓] Go.wp_at_zero Go.wp_at_succ

/-- The bytes of a page, with their sum. -/
def pgZ (P : G.DG) (no : Int) : List Int := G.pbZ P no ++ sumZ (Crc.crc (G.pbZ P no) : Nat)
theorem sum_in {c : Int} (h0 : 0 ≤ c) (h1 : c < 4294967296) : ∀ z ∈ sumZ c, 0 ≤ z ∧ z < 256 := by
  intro z hz
  simp [sumZ] at hz
  rcases hz with rfl | rfl | rfl | rfl <;> omega
theorem pgZ_in {P : G.DG} {no : Int} (h : G.okG P = true) (h1 : 0 ≤ no ∧ no ≤ 255) : ∀ z ∈ pgZ P no, 0 ≤ z ∧ z < 256 := by
  intro z hz
  unfold pgZ at hz
  rcases List.mem_append.1 hz with hz | hz
  · exact G.pb_bytes h h1 z hz
  · exact sum_in (by omega) (by have := crc_lt _ (G.pb_bytes h h1); omega) z hz
theorem pgS_ne {P Q : G.DG} {no : Int} (h : G.okG P = true) (h' : G.okG Q = true) (h1 : 0 ≤ no ∧ no ≤ 255) (hne : ¬ Q = P) : ((strOfNums (pgZ P no)).toList == (strOfNums (pgZ Q no)).toList) = false := by
  rw [beq_eq_false_iff_ne]
  intro e
  have e2 := congrArg strZ (toList_inj e)
  rw [strZ_of (pgZ_in h h1), strZ_of (pgZ_in h' h1)] at e2
  exact hne (G.pb_inj h' h e2.symm)
theorem DG_ne {E P : G.DG} (h : ¬ E = P) : (decide (E.L = P.L) && decide (E.S = P.S)) = false := by
  rw [← Bool.not_eq_true]
  simp only [Bool.and_eq_true, decide_eq_true_eq]
  rintro ⟨h1, h2⟩
  cases E; cases P
  simp only at h1 h2
  exact h (by rw [h1, h2])
set_option maxRecDepth 100000 in
set_option maxHeartbeats 8000000 in
theorem c_l03B (h : G.HG) (P : G.DG) (no : Int) (w : World) (r : G.RdG w h P) (hok : G.okG P = true) (hno : 0 ≤ no ∧ no ≤ 255) :
    Calls Tryd.prog 16 #[.int .i64 no, .agg #[.int .i64 h.l, .slice h.a h.n h.c]] w fun e w' => (∃ a n c, e = .returned (.slice a n c) ∧ RdV w' a n ((pgZ P no).map (Value.int .u8))) ∧ Below w.heap.size w w' := by
  refine (G.c_bytes h P no w r hok hno _ rfl).mono ?_
  rintro e w' ⟨⟨a, c, rfl, ho⟩, hb⟩
  exact ⟨⟨a, _, c, rfl, RdV.own ho⟩, hb⟩
set_option maxRecDepth 100000 in
set_option maxHeartbeats 8000000 in
theorem c_specPB (h : HD) (D : DD) (ep : Int) (la : Option Addr) (ln lc : Nat) (L : List DR) (su : Int) (fa : Option Addr) (fn fc : Nat) (F : List FF) (ha : Int) (w : World) (r : RdD w h D) (hf : Fit D) (rl : RdQ w la ln L) (hln : ln ≤ 1048576) (hls : ∀ v ∈ L, v.b.size ≤ 1048576 ∧ v.a.size ≤ 1048576) (rf : RdF w fa fn F) (hfn : fn ≤ 1048576) (hfs : ∀ i, i < fn → G.FitG (F.getD i zeroF).D) :
    Calls Tryd.prog 6 #[.agg #[.slice h.a0 h.n0 h.c0, .slice h.a1 h.n1 h.c1, .bool h.b, .slice h.a2 h.n2 h.c2, .int .i64 ep, .slice la ln lc, .int .i64 su, .slice fa fn fc, .int .i64 ha]] w fun e w' => e = .returned (.tuple #[.bool (okST D h.n0 ep ln L su fn F ha && behB (rdS D.S D.C) F), .int .i64 (if okST D h.n0 ep ln L su fn F ha then 0 else 1)]) ∧ Below w.heap.size w w' := by
  obtain ⟨V, hV⟩ : ∃ V, w.alloc (.cells #[.slice h.a0 h.n0 h.c0, .slice h.a1 h.n1 h.c1, .bool h.b, .slice h.a2 h.n2 h.c2, .int .i64 ep, .slice la ln lc, .int .i64 su, .slice fa fn fc, .int .i64 ha] 40) = V := ⟨_, rfl⟩
  have B0 : Hid (Below w.heap.size w V) := by unfold Hid; rw [← hV]; exact (Below.refl _ _).alloc (Nat.le_refl _) _
  have X0 : Hid (Box V w.heap.size 40 #[.slice h.a0 h.n0 h.c0, .slice h.a1 h.n1 h.c1, .bool h.b, .slice h.a2 h.n2 h.c2, .int .i64 ep, .slice la ln lc, .int .i64 su, .slice fa fn fc, .int .i64 ha]) := by unfold Hid; rw [← hV]; exact Box.new _ _ _
  have CS := c_specST h ep la ln lc su fa fn fc ha D L F V (r.below B0.out) hf (rl.below B0.out) hln hls (rf.below B0.out) hfn hfs
  have RD : Hid (RdD w h D) := r
  have RF : Hid (RdF w fa fn F) := rf
  clear r rl rf hls hfs hf
  obtain ⟨x0, x1, x2, x3, x4, x5, x6, x7, x8⟩ := box9 X0.out
  cases hok : okST D h.n0 ep ln L su fn F ha
  · rw [hok] at CS
    clear hok
    go_enter Tryd.func6, Tryd.ntmps6
    go_wp2_with fail
    refine CS.mono ?_
    rintro e w1 ⟨rfl, hb⟩
    have B1 : Hid (Below w.heap.size w w1) := B0.out.trans (hb.mono B0.out.size)
    clear hb CS
    go_wp2
    go_ret2
    exact ⟨rfl, B1.out⟩
  have ST : Hid (StF D h.n0 fn F) := st_parts hok
  rw [hok] at CS
  have E0 : Hid ((true && behB (rdS D.S D.C) F) = behB (rdS D.S D.C) F) := rfl
  clear hok
  go_enter Tryd.func6, Tryd.ntmps6
  go_wp2_with fail
  refine CS.mono ?_
  rintro e w1 ⟨rfl, hb⟩
  have B1 : Hid (Below w.heap.size w w1) := B0.out.trans (hb.mono B0.out.size)
  have X1 : Hid (Box w1 w.heap.size 40 #[.slice h.a0 h.n0 h.c0, .slice h.a1 h.n1 h.c1, .bool h.b, .slice h.a2 h.n2 h.c2, .int .i64 ep, .slice la ln lc, .int .i64 su, .slice fa fn fc, .int .i64 ha]) := X0.out.belowS hb
  clear hb CS x0 x1 x2 x3 x4 x5 x6 x7 x8 B0 X0 hV
  obtain ⟨x0, x1, x2, x3, x4, x5, x6, x7, x8⟩ := box9 X1.out
  go_wp2
  go_loopw [4] (fun i wr => ∃ k : Nat, k ≤ fn ∧ i = .int .i64 k ∧ Hid (behB (rdS D.S D.C) (F.drop k) = behB (rdS D.S D.C) F) ∧ Hid (Box wr w.heap.size 40 #[.slice h.a0 h.n0 h.c0, .slice h.a1 h.n1 h.c1, .bool h.b, .slice h.a2 h.n2 h.c2, .int .i64 ep, .slice la ln lc, .int .i64 su, .slice fa fn fc, .int .i64 ha]) ∧ Hid (Below w.heap.size w wr)) (fun i _ => fn - (intOf i).toNat)
  case atStart => exact ⟨0, by omega, rfl, rfl, X1, B1⟩
  case round =>
    clear x0 x1 x2 x3 x4 x5 x6 x7 x8 X1 B1
    obtain ⟨k, hk, rfl, HI, XR, BR⟩ := hrel
    have hl : F.length = fn := RF.out.1
    by_cases hlt : k < fn
    · have RFw := RF.out.below BR.out
      obtain ⟨b, off, hfa, hbl, hc⟩ := RFw.2.1 (by omega)
      subst hfa
      obtain ⟨d0, d1, d2, d3, d4⟩ := hc k hlt
      have RG := RFw.2.2 k hlt
      have HAT := behB_at (T := (rdS D.S D.C)) (F := F) (k := k) (by omega)
      have HFR := ST.out.fr hl k hlt
      obtain ⟨⟨no, g, E, d, fi⟩, hv⟩ : ∃ v, v = F.getD k zeroF := ⟨_, rfl⟩
      rw [← hv] at d0 d1 d2 d3 d4 RG HAT HFR
      dsimp only at d0 d1 d2 d3 d4 RG HAT HFR
      obtain ⟨m, rfl⟩ : ∃ m : Nat, no = (m : Int) := ⟨no.toNat, by omega⟩
      obtain ⟨P, hP⟩ := ST.out.pg m (by omega)
      have HP : Hid (pgO m ((rdS D.S D.C) (1 + m)) = some P) := hP
      have HAT' : Hid (behB (rdS D.S D.C) (F.drop k) = (byLog ⟨m, g, E, d, fi⟩ P && behB (rdS D.S D.C) (F.drop (k + 1)))) := by
        unfold Hid
        rw [HAT]
        unfold pgP
        rw [Int.toNat_natCast, hP]
        rfl
      have OKE : Hid (G.okG E = true ∧ G.okG P = true) := ⟨HFR.2, pgO_ok hP⟩
      have hm8 : m < 8 := by omega
      have RGE : Hid (G.RdG wr g E) := RG
      have g1 : (0 : Int) ≤ (k : Int) := by omega
      have g2 : (k : Int) < (fn : Int) := by omega
      obtain ⟨W, hW⟩ : ∃ W, wr.alloc (.cells #[.int .i64 m, .int .i64 g.l, .slice g.a g.n g.c, .bool d, .int .i64 fi] 51) = W := ⟨_, rfl⟩
      have hbA : Below wr.heap.size wr W := by rw [← hW]; exact (Below.refl _ _).alloc (Nat.le_refl _) _
      have BX : Hid (Below w.heap.size w W) := BR.out.trans (hbA.mono BR.out.size)
      have XW : Hid (Box W w.heap.size 40 #[.slice h.a0 h.n0 h.c0, .slice h.a1 h.n1 h.c1, .bool h.b, .slice h.a2 h.n2 h.c2, .int .i64 ep, .slice la ln lc, .int .i64 su, .slice (some ⟨b, off, none⟩) fn fc, .int .i64 ha]) := XR.out.belowS hbA
      have NW : Hid (Box W wr.heap.size 51 #[.int .i64 m, .int .i64 g.l, .slice g.a g.n g.c, .bool d, .int .i64 fi]) := by unfold Hid; rw [← hW]; exact Box.new _ _ _
      have RGW : Hid (G.RdG W g E) := RGE.out.below hbA
      have CD := c_l05Page2 h D m W (RD.out.below BX.out) ST.out.ok (by have := ST.out.nn; omega)
      have nb : Hid (w.heap.size < wr.heap.size) := XR.out.lt
      obtain ⟨v0, v1, v2, v3, v4, v5, v6, v7, v8⟩ := box9 XR.out
      clear hc hv HAT hP HFR RG RFw hbA BR RGE
      obtain ⟨x0, x1, x2, x3, x4, x5, x6, x7, x8⟩ := box9 XW.out
      obtain ⟨y0, y1, y2, y3, y4⟩ := box5 NW.out
      go_wp2_with fail
      refine CD.mono ?_
      rintro e w3 ⟨⟨h', rfl, hRP⟩, hb3⟩
      have RP3 : Hid (G.RdG w3 h' P) := hRP P HP.out
      have B3 : Hid (Below w.heap.size w w3) := BX.out.trans (hb3.mono BX.out.size)
      have X3 : Hid (Box w3 w.heap.size 40 #[.slice h.a0 h.n0 h.c0, .slice h.a1 h.n1 h.c1, .bool h.b, .slice h.a2 h.n2 h.c2, .int .i64 ep, .slice la ln lc, .int .i64 su, .slice (some ⟨b, off, none⟩) fn fc, .int .i64 ha]) := XW.out.belowS hb3
      have N3 : Hid (Box w3 wr.heap.size 51 #[.int .i64 m, .int .i64 g.l, .slice g.a g.n g.c, .bool d, .int .i64 fi]) := NW.out.belowS hb3
      have R3 : Hid (G.RdG w3 g E) := RGW.out.below hb3
      clear hb3 CD hRP x0 x1 x2 x3 x4 x5 x6 x7 x8 v0 v1 v2 v3 v4 v5 v6 v7 v8 XR y0 y1 y2 y3 y4 d0 d1 d2 d3 d4 hW BX XW NW RGW
      obtain ⟨U, hU⟩ : ∃ U, w3.alloc (.cells #[.int .i64 h'.l, .slice h'.a h'.n h'.c] 49) = U := ⟨_, rfl⟩
      have hbU : Below w3.heap.size w3 U := by rw [← hU]; exact (Below.refl _ _).alloc (Nat.le_refl _) _
      have BU : Hid (Below w.heap.size w U) := B3.out.trans (hbU.mono B3.out.size)
      have XU : Hid (Box U w.heap.size 40 #[.slice h.a0 h.n0 h.c0, .slice h.a1 h.n1 h.c1, .bool h.b, .slice h.a2 h.n2 h.c2, .int .i64 ep, .slice la ln lc, .int .i64 su, .slice (some ⟨b, off, none⟩) fn fc, .int .i64 ha]) := X3.out.belowS hbU
      have NU : Hid (Box U wr.heap.size 51 #[.int .i64 m, .int .i64 g.l, .slice g.a g.n g.c, .bool d, .int .i64 fi]) := N3.out.belowS hbU
      have PU : Hid (Box U w3.heap.size 49 #[.int .i64 h'.l, .slice h'.a h'.n h'.c]) := by unfold Hid; rw [← hU]; exact Box.new _ _ _
      have RU : Hid (G.RdG U g E) := R3.out.below hbU
      have RPU : Hid (G.RdG U h' P) := RP3.out.below hbU
      have eg : Hid (E.L = g.l) := RU.out.1.symm
      have ep' : Hid (P.L = h'.l) := RPU.out.1.symm
      clear hbU B3 X3 N3 R3 RP3
      obtain ⟨y0, y1, y2, y3, y4⟩ := box5 NU.out
      obtain ⟨z0, z1⟩ := G.box2 PU.out
      cases d
      case true =>
        have FE : Hid (byLog ⟨m, g, E, true, fi⟩ P = (decide (h'.l < fi) && decide (fi ≤ g.l))) := by unfold Hid byLog; rw [eg.out, ep'.out]; rfl
        clear RU RPU OKE
        by_cases h1 : g.l < fi
        · have EE : Hid (behB (rdS D.S D.C) F = false) := by unfold Hid; rw [← HI.out, HAT'.out, FE.out, decide_eq_false (show ¬ fi ≤ g.l by omega)]; simp
          clear HI HAT' FE
          go_wp2
          go_ret2
          exact ⟨ret_bi (by first | rw [E0.out, EE.out] | rw [EE.out]) rfl, BU.out⟩
        by_cases h2 : h'.l < fi
        case neg =>
          have EE : Hid (behB (rdS D.S D.C) F = false) := by unfold Hid; rw [← HI.out, HAT'.out, FE.out, decide_eq_false h2]; simp
          have c2 : fi ≤ h'.l := by omega
          clear HI HAT' FE
          go_wp2
          go_ret2
          exact ⟨ret_bi (by first | rw [E0.out, EE.out] | rw [EE.out]) rfl, BU.out⟩
        have EE : Hid (behB (rdS D.S D.C) (F.drop (k + 1)) = behB (rdS D.S D.C) F) := by unfold Hid; rw [← HI.out, HAT'.out, FE.out, decide_eq_true h2, decide_eq_true (show fi ≤ g.l by omega)]; rfl
        clear HI HAT' FE
        go_wp2
        go_roundw
        case rel => exact ⟨k + 1, by omega, by go_num, EE, XU, BU⟩
        case measure => simp [intOf]; omega
      case false =>
        have FE : Hid (byLog ⟨m, g, E, false, fi⟩ P = (decide (E.L = P.L) && decide (E.S = P.S))) := rfl
        have CP : Hid (∀ x, Below U.heap.size U x → Calls Tryd.prog 16 #[.int .i64 m, .agg #[.int .i64 h'.l, .slice h'.a h'.n h'.c]] x fun e w' => (∃ a n c, e = .returned (.slice a n c) ∧ RdV w' a n ((pgZ P m).map (Value.int .u8))) ∧ Below x.heap.size x w') := fun x hx => c_l03B h' P m x (RPU.out.below hx) OKE.out.2 (by omega)
        have CF : Hid (∀ x, Below U.heap.size U x → Calls Tryd.prog 16 #[.int .i64 m, .agg #[.int .i64 g.l, .slice g.a g.n g.c]] x fun e w' => (∃ a n c, e = .returned (.slice a n c) ∧ RdV w' a n ((pgZ E m).map (Value.int .u8))) ∧ Below x.heap.size x w') := fun x hx => c_l03B g E m x (RU.out.below hx) OKE.out.1 (by omega)
        by_cases hEP : E = P
        · have EE : Hid (behB (rdS D.S D.C) (F.drop (k + 1)) = behB (rdS D.S D.C) F) := by unfold Hid; rw [← HI.out, HAT'.out, FE.out, hEP]; simp
          have cs : ((strOfNums (pgZ P m)).toList == (strOfNums (pgZ E m)).toList) = true := by rw [hEP]; simp
          clear RU RPU OKE hEP FE HI HAT'
          go_wp2_with fail
          have QF : Hid True := trivial
          have QP : Hid True := trivial
          go_region_held (fun x => x.cell? ⟨wr.heap.size, 0, none⟩ = some (.int .i64 m) ∧ x.cell? ⟨wr.heap.size, 1, none⟩ = some (.int .i64 g.l) ∧ x.cell? ⟨wr.heap.size, 2, none⟩ = some (.slice g.a g.n g.c) ∧ x.cell? ⟨w3.heap.size, 0, none⟩ = some (.int .i64 h'.l) ∧ x.cell? ⟨w3.heap.size, 1, none⟩ = some (.slice h'.a h'.n h'.c))
            (first | exact ⟨far6 hbf (far6 hbp y0), far6 hbf (far6 hbp y1), far6 hbf (far6 hbp y2), far6 hbf (far6 hbp z0), far6 hbf (far6 hbp z1)⟩ | exact ⟨far6 hbp (far6 hbf y0), far6 hbp (far6 hbf y1), far6 hbp (far6 hbf y2), far6 hbp (far6 hbf z0), far6 hbp (far6 hbf z1)⟩ | exact ⟨far6 hbp y0, far6 hbp y1, far6 hbp y2, far6 hbp z0, far6 hbp z1⟩ | exact ⟨far6 hbf y0, far6 hbf y1, far6 hbf y2, far6 hbf z0, far6 hbf z1⟩ | go_keep)
            (first
              | (go_at_call_of 16 (Value.agg #[Value.int IntKind.i64 h'.l, Value.slice h'.a h'.n h'.c]); refine (CP.out _ (by first | exact QF.out | exact (Below.refl _ _).drew)).mono ?_; rintro e wp ⟨⟨ap, np, cp, rfl, vp⟩, hbp⟩
                 have QP : Hid (Below U.heap.size U wp) := (by unfold Hid; first | exact QF.out.trans (hbp.mono QF.out.size) | exact (Below.refl U.heap.size U).drew.trans hbp)
                 have hcp := conv8 (cap := cp) vp
                 have BEp : Hid (Below w.heap.size w wp) := BU.out.trans (QP.out.mono BU.out.size)
                 have XEp : Hid (Box wp w.heap.size 40 #[.slice h.a0 h.n0 h.c0, .slice h.a1 h.n1 h.c1, .bool h.b, .slice h.a2 h.n2 h.c2, .int .i64 ep, .slice la ln lc, .int .i64 su, .slice (some ⟨b, off, none⟩) fn fc, .int .i64 ha]) := XU.out.belowS QP.out
                 (try have hcf2 := conv8 (cap := cf) (vf.below hbp)))
              | (go_at_call_of 16 (Value.agg #[Value.int IntKind.i64 g.l, Value.slice g.a g.n g.c]); refine (CF.out _ (by first | exact QP.out | exact (Below.refl _ _).drew)).mono ?_; rintro e wf ⟨⟨af, nf, cf, rfl, vf⟩, hbf⟩
                 have QF : Hid (Below U.heap.size U wf) := (by unfold Hid; first | exact QP.out.trans (hbf.mono QP.out.size) | exact (Below.refl U.heap.size U).drew.trans hbf)
                 have hcf := conv8 (cap := cf) vf
                 have BEf : Hid (Below w.heap.size w wf) := BU.out.trans (QF.out.mono BU.out.size)
                 have XEf : Hid (Box wf w.heap.size 40 #[.slice h.a0 h.n0 h.c0, .slice h.a1 h.n1 h.c1, .bool h.b, .slice h.a2 h.n2 h.c2, .int .i64 ep, .slice la ln lc, .int .i64 su, .slice (some ⟨b, off, none⟩) fn fc, .int .i64 ha]) := XU.out.belowS QF.out
                 (try have hcp2 := conv8 (cap := cp) (vp.below hbf))))
          all_goals
            clear y0 y1 y2 y3 y4 z0 z1 cs CP CF
            go_wp2
            go_roundw
            case rel => first | exact ⟨k + 1, by omega, by go_num, EE, XEf, BEf⟩ | exact ⟨k + 1, by omega, by go_num, EE, XEp, BEp⟩
            case measure => simp [intOf]; omega
        · have EE : Hid (behB (rdS D.S D.C) F = false) := by unfold Hid; rw [← HI.out, HAT'.out, FE.out, DG_ne hEP]; rfl
          have cs : ((strOfNums (pgZ P m)).toList == (strOfNums (pgZ E m)).toList) = false := pgS_ne OKE.out.2 OKE.out.1 (by omega) hEP
          clear RU RPU OKE hEP FE HI HAT'
          go_wp2_with fail
          have QF : Hid True := trivial
          have QP : Hid True := trivial
          go_region_held (fun x => x.cell? ⟨wr.heap.size, 0, none⟩ = some (.int .i64 m) ∧ x.cell? ⟨wr.heap.size, 1, none⟩ = some (.int .i64 g.l) ∧ x.cell? ⟨wr.heap.size, 2, none⟩ = some (.slice g.a g.n g.c) ∧ x.cell? ⟨w3.heap.size, 0, none⟩ = some (.int .i64 h'.l) ∧ x.cell? ⟨w3.heap.size, 1, none⟩ = some (.slice h'.a h'.n h'.c))
            (first | exact ⟨far6 hbf (far6 hbp y0), far6 hbf (far6 hbp y1), far6 hbf (far6 hbp y2), far6 hbf (far6 hbp z0), far6 hbf (far6 hbp z1)⟩ | exact ⟨far6 hbp (far6 hbf y0), far6 hbp (far6 hbf y1), far6 hbp (far6 hbf y2), far6 hbp (far6 hbf z0), far6 hbp (far6 hbf z1)⟩ | exact ⟨far6 hbp y0, far6 hbp y1, far6 hbp y2, far6 hbp z0, far6 hbp z1⟩ | exact ⟨far6 hbf y0, far6 hbf y1, far6 hbf y2, far6 hbf z0, far6 hbf z1⟩ | go_keep)
            (first
              | (go_at_call_of 16 (Value.agg #[Value.int IntKind.i64 h'.l, Value.slice h'.a h'.n h'.c]); refine (CP.out _ (by first | exact QF.out | exact (Below.refl _ _).drew)).mono ?_; rintro e wp ⟨⟨ap, np, cp, rfl, vp⟩, hbp⟩
                 have QP : Hid (Below U.heap.size U wp) := (by unfold Hid; first | exact QF.out.trans (hbp.mono QF.out.size) | exact (Below.refl U.heap.size U).drew.trans hbp)
                 have hcp := conv8 (cap := cp) vp
                 have BEp : Hid (Below w.heap.size w wp) := BU.out.trans (QP.out.mono BU.out.size)
                 have XEp : Hid (Box wp w.heap.size 40 #[.slice h.a0 h.n0 h.c0, .slice h.a1 h.n1 h.c1, .bool h.b, .slice h.a2 h.n2 h.c2, .int .i64 ep, .slice la ln lc, .int .i64 su, .slice (some ⟨b, off, none⟩) fn fc, .int .i64 ha]) := XU.out.belowS QP.out
                 (try have hcf2 := conv8 (cap := cf) (vf.below hbp)))
              | (go_at_call_of 16 (Value.agg #[Value.int IntKind.i64 g.l, Value.slice g.a g.n g.c]); refine (CF.out _ (by first | exact QP.out | exact (Below.refl _ _).drew)).mono ?_; rintro e wf ⟨⟨af, nf, cf, rfl, vf⟩, hbf⟩
                 have QF : Hid (Below U.heap.size U wf) := (by unfold Hid; first | exact QP.out.trans (hbf.mono QP.out.size) | exact (Below.refl U.heap.size U).drew.trans hbf)
                 have hcf := conv8 (cap := cf) vf
                 have BEf : Hid (Below w.heap.size w wf) := BU.out.trans (QF.out.mono BU.out.size)
                 have XEf : Hid (Box wf w.heap.size 40 #[.slice h.a0 h.n0 h.c0, .slice h.a1 h.n1 h.c1, .bool h.b, .slice h.a2 h.n2 h.c2, .int .i64 ep, .slice la ln lc, .int .i64 su, .slice (some ⟨b, off, none⟩) fn fc, .int .i64 ha]) := XU.out.belowS QF.out
                 (try have hcp2 := conv8 (cap := cp) (vp.below hbf))))
          all_goals
            clear y0 y1 y2 y3 y4 z0 z1 cs CP CF
            go_wp2
            go_ret2
            first | exact ⟨ret_bi (by first | rw [E0.out, EE.out] | rw [EE.out]) rfl, BEf.out⟩ | exact ⟨ret_bi (by first | rw [E0.out, EE.out] | rw [EE.out]) rfl, BEp.out⟩
    · have e : k = fn := by omega
      subst e
      have EE : Hid (behB (rdS D.S D.C) F = true) := by unfold Hid; rw [← HI.out, List.drop_eq_nil_of_le (by omega)]; rfl
      obtain ⟨x0, x1, x2, x3, x4, x5, x6, x7, x8⟩ := box9 XR.out
      go_wp2
      go_ret2
      exact ⟨ret_bi (by first | rw [E0.out, EE.out] | rw [EE.out]) rfl, BR.out⟩

end Go.Proofs.YtcokbogicbdoaaaDoor
