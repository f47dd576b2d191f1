/-
  PagesBehind: what it tells, and the program.
-/
import Derived.Test.YtcokbogicbdoaaaDoorZzam
import Derived.Test.YtcokbogicbdoaaaDoorYsgq
import Derived.Deep.RegionHeld3
namespace Go.Proofs.YtcokbogicbdoaaaDoor
open Go Go.RowKit
attribute [local go_sem ↓] Go.wp_at_zero Go.wp_at_succ

/-- The page that a disk tells. -/
def pgP (T : Nat → ByteArray) (no : Int) : G.DG := (pgO no (T (1 + no.toNat))).getD G.newG
def behB (T : Nat → ByteArray) (F : List FF) : Bool := F.all fun f => byLog f (pgP T f.no)
theorem behB_at {T : Nat → ByteArray} {F : List FF} {k : Nat} (h : k < F.length) : behB T (F.drop k) = (byLog (F.getD k zeroF) (pgP T (F.getD k zeroF).no) && behB T (F.drop (k + 1))) := by
  unfold behB
  rw [List.drop_eq_getElem_cons h, List.getD_eq_getElem?_getD, List.getElem?_eq_getElem h]
  rfl
theorem byLog_says {f g : FF} {P : G.DG} (h : saysF f = saysF g) : byLog f P = byLog g P := by
  simp only [saysF, Prod.mk.injEq] at h
  obtain ⟨_, h2, h3, h4⟩ := h
  unfold byLog
  rw [h2, h3, h4]
theorem behB_same {T : Nat → ByteArray} : ∀ {F gs : List FF}, SameF F gs → behB T gs = behB T F
  | [], [], _ => rfl
  | [], _ :: _, h => by have := h.len; simp at this
  | _ :: _, [], h => by have := h.len; simp at this
  | f :: F, g :: gs, h => by
    unfold SameF at h
    simp only [List.map_cons, List.cons.injEq] at h
    have q := h.1
    simp only [saysF, Prod.mk.injEq] at q
    show (byLog g (pgP T g.no) && behB T gs) = (byLog f (pgP T f.no) && behB T F)
    rw [behB_same (F := F) (gs := gs) h.2, byLog_says h.1, q.1]
theorem arF_all {last : Int} : ∀ (fs : List FF) (tk : List Nat), arF last tk fs = true → ∀ i, i < fs.length → okFr (fs.getD i zeroF).no (fs.getD i zeroF).D (fs.getD i zeroF).d (fs.getD i zeroF).fi last = true
  | [], _, _, i, hi => absurd hi (by simp)
  | f :: fs, tk, h, i, hi => by
    unfold arF at h
    simp only [Bool.and_eq_true] at h
    cases i with
    | zero => exact h.1
    | succ i => exact arF_all fs _ h.2.2 i (by simpa using hi)
theorem okFr_parts {no : Int} {D : G.DG} {d : Bool} {fi last : Int} (h : okFr no D d fi last = true) : (0 ≤ no ∧ no < 8) ∧ G.okG D = true := by
  unfold okFr at h
  simp only [Bool.and_eq_true, decide_eq_true_eq] at h
  exact ⟨h.1, h.2.1⟩
theorem newG_ok : G.okG G.newG = true := by decide +kernel
theorem pgO_ok {no : Int} {s : ByteArray} {P : G.DG} (h : pgO no s = some P) : G.okG P = true := by
  unfold pgO at h
  split at h
  · cases h; exact newG_ok
  · split at h
    · exact G.rpD_ok h
    · cases h
structure StF (D : DD) (n0 fn : Nat) (F : List FF) : Prop where
  ok : okD D = true
  nn : n0 = 69
  few : fn ≤ 3
  fr : F.length = fn → ∀ i, i < fn → (0 ≤ (F.getD i zeroF).no ∧ (F.getD i zeroF).no < 8) ∧ G.okG (F.getD i zeroF).D = true
  pg : ∀ p : Nat, p < 8 → ∃ P, pgO p (rdS D.S D.C (1 + p)) = some P
theorem st_parts {D : DD} {n0 : Nat} {ep : Int} {ln : Nat} {L : List DR} {su : Int} {fn : Nat} {F : List FF} {ha : Int} (h : okST D n0 ep ln L su fn F ha = true) : StF D n0 fn F := by
  unfold okST at h
  simp only [Bool.and_eq_true, decide_eq_true_eq] at h
  obtain ⟨h0, h1, _, _, _, _, _, _, _, ⟨h3, h4⟩, _, _, h5⟩ := h
  refine ⟨h0, h1, h3, fun hl i hi => okFr_parts (arF_all F [] h4 i (by omega)), fun p hp => ?_⟩
  unfold hasPg at h5
  rw [List.all_eq_true] at h5
  have := h5 p (List.mem_range.2 hp)
  unfold okPg at this
  split at this
  · exact ⟨_, by assumption⟩
  · cases this
theorem okG_fit {D : G.DG} (h : G.okG D = true) : G.FitG D := G.ok_fitG h
theorem ret_bi {a b : Bool} {c d : Int} (h : a = b) (h' : c = d) : Ending.returned (.tuple #[.bool a, .int .i64 c]) = .returned (.tuple #[.bool b, .int .i64 d]) := by rw [h, h']
set_option maxRecDepth 100000 in
set_option maxHeartbeats 8000000 in
theorem c_implPB (h : HD) (D : DD) (ep : Int) (la : Option Addr) (ln lc : Nat) (L : List DR) (su : Int) (fa : Option Addr) (fn fc : Nat) (F : List FF) (ha : Int) (w : World) (r : RdD w h D) (hf : Fit D) (rl : RdQ w la ln L) (hln : ln ≤ 1048576) (hls : ∀ v ∈ L, v.b.size ≤ 1048576 ∧ v.a.size ≤ 1048576) (rf : RdF w fa fn F) (hfn : fn ≤ 1048576) (hfs : ∀ i, i < fn → G.FitG (F.getD i zeroF).D) (ht : TabH w) :
    Calls Tryd.prog 8 #[.agg #[.slice h.a0 h.n0 h.c0, .slice h.a1 h.n1 h.c1, .bool h.b, .slice h.a2 h.n2 h.c2, .int .i64 ep, .slice la ln lc, .int .i64 su, .slice fa fn fc, .int .i64 ha]] w fun e w' => e = .returned (.tuple #[.bool (okST D h.n0 ep ln L su fn F ha && behB (rdS D.S D.C) F), .int .i64 (if okST D h.n0 ep ln L su fn F ha then 0 else 1)]) ∧ Below w.heap.size w w' := by
  obtain ⟨V, hV⟩ : ∃ V, w.alloc (.cells #[.slice h.a0 h.n0 h.c0, .slice h.a1 h.n1 h.c1, .bool h.b, .slice h.a2 h.n2 h.c2, .int .i64 ep, .slice la ln lc, .int .i64 su, .slice fa fn fc, .int .i64 ha] 40) = V := ⟨_, rfl⟩
  have B0 : Hid (Below w.heap.size w V) := by unfold Hid; rw [← hV]; exact (Below.refl _ _).alloc (Nat.le_refl _) _
  have X0 : Hid (Box V w.heap.size 40 #[.slice h.a0 h.n0 h.c0, .slice h.a1 h.n1 h.c1, .bool h.b, .slice h.a2 h.n2 h.c2, .int .i64 ep, .slice la ln lc, .int .i64 su, .slice fa fn fc, .int .i64 ha]) := by unfold Hid; rw [← hV]; exact Box.new _ _ _
  have CS := c_implST h D ep la ln lc L su fa fn fc F ha V (r.below B0.out) hf (rl.below B0.out) hln (fun v hv => by have := hls v hv; unfold maxLen; omega) (rf.below B0.out) hfn hfs (ht.below B0.out)
  have HT : Hid (TabH w) := ht
  have RD : Hid (RdD w h D) := r
  have RF : Hid (RdF w fa fn F) := rf
  clear r rl rf hls hfs ht hf
  obtain ⟨x0, x1, x2, x3, x4, x5, x6, x7, x8⟩ := box9 X0.out
  cases hok : okST D h.n0 ep ln L su fn F ha
  · rw [hok] at CS
    clear hok
    go_enter Tryd.func8, Tryd.ntmps8
    go_wp2_with fail
    refine CS.mono ?_
    rintro e w1 ⟨rfl, hb⟩
    have B1 : Hid (Below w.heap.size w w1) := B0.out.trans (hb.mono B0.out.size)
    clear hb CS
    go_wp2
    go_ret2
    exact ⟨rfl, B1.out⟩
  have ST : Hid (StF D h.n0 fn F) := st_parts hok
  rw [hok] at CS
  have E0 : Hid ((true && behB (rdS D.S D.C) F) = behB (rdS D.S D.C) F) := rfl
  clear hok
  go_enter Tryd.func8, Tryd.ntmps8
  go_wp2_with fail
  refine CS.mono ?_
  rintro e w1 ⟨rfl, hb⟩
  have B1 : Hid (Below w.heap.size w w1) := B0.out.trans (hb.mono B0.out.size)
  have X1 : Hid (Box w1 w.heap.size 40 #[.slice h.a0 h.n0 h.c0, .slice h.a1 h.n1 h.c1, .bool h.b, .slice h.a2 h.n2 h.c2, .int .i64 ep, .slice la ln lc, .int .i64 su, .slice fa fn fc, .int .i64 ha]) := X0.out.belowS hb
  clear hb CS x0 x1 x2 x3 x4 x5 x6 x7 x8 B0 X0 hV
  obtain ⟨x0, x1, x2, x3, x4, x5, x6, x7, x8⟩ := box9 X1.out
  go_wp2
  go_loopw [14] (fun i wr => ∃ k : Nat, k ≤ fn ∧ i = .int .i64 k ∧ Hid (behB (rdS D.S D.C) (F.drop k) = behB (rdS D.S D.C) F) ∧ Hid (Box wr w.heap.size 40 #[.slice h.a0 h.n0 h.c0, .slice h.a1 h.n1 h.c1, .bool h.b, .slice h.a2 h.n2 h.c2, .int .i64 ep, .slice la ln lc, .int .i64 su, .slice fa fn fc, .int .i64 ha]) ∧ Hid (Below w.heap.size w wr)) (fun i _ => fn - (intOf i).toNat)
  case atStart => exact ⟨0, by omega, rfl, rfl, X1, B1⟩
  case round =>
    clear x0 x1 x2 x3 x4 x5 x6 x7 x8 X1 B1
    obtain ⟨k, hk, rfl, HI, XR, BR⟩ := hrel
    have hl : F.length = fn := RF.out.1
    by_cases hlt : k < fn
    · have RFw := RF.out.below BR.out
      obtain ⟨b, off, hfa, hbl, hc⟩ := RFw.2.1 (by omega)
      subst hfa
      obtain ⟨d0, d1, d2, d3, d4⟩ := hc k hlt
      have RG := RFw.2.2 k hlt
      have HAT := behB_at (T := (rdS D.S D.C)) (F := F) (k := k) (by omega)
      have HFR := ST.out.fr hl k hlt
      obtain ⟨⟨no, g, E, d, fi⟩, hv⟩ : ∃ v, v = F.getD k zeroF := ⟨_, rfl⟩
      rw [← hv] at d0 d1 d2 d3 d4 RG HAT HFR
      dsimp only at d0 d1 d2 d3 d4 RG HAT HFR
      obtain ⟨m, rfl⟩ : ∃ m : Nat, no = (m : Int) := ⟨no.toNat, by omega⟩
      obtain ⟨P, hP⟩ := ST.out.pg m (by omega)
      have HP : Hid (pgO m ((rdS D.S D.C) (1 + m)) = some P) := hP
      have HAT' : Hid (behB (rdS D.S D.C) (F.drop k) = (byLog ⟨m, g, E, d, fi⟩ P && behB (rdS D.S D.C) (F.drop (k + 1)))) := by
        unfold Hid
        rw [HAT]
        unfold pgP
        rw [Int.toNat_natCast, hP]
        rfl
      have OKE : Hid (G.okG E = true ∧ G.okG P = true) := ⟨HFR.2, pgO_ok hP⟩
      have hm8 : m < 8 := by omega
      have RGE : Hid (G.RdG wr g E) := RG
      have g1 : (0 : Int) ≤ (k : Int) := by omega
      have g2 : (k : Int) < (fn : Int) := by omega
      obtain ⟨W, hW⟩ : ∃ W, wr.alloc (.cells #[.int .i64 m, .int .i64 g.l, .slice g.a g.n g.c, .bool d, .int .i64 fi] 51) = W := ⟨_, rfl⟩
      have hbA : Below wr.heap.size wr W := by rw [← hW]; exact (Below.refl _ _).alloc (Nat.le_refl _) _
      have BX : Hid (Below w.heap.size w W) := BR.out.trans (hbA.mono BR.out.size)
      have XW : Hid (Box W w.heap.size 40 #[.slice h.a0 h.n0 h.c0, .slice h.a1 h.n1 h.c1, .bool h.b, .slice h.a2 h.n2 h.c2, .int .i64 ep, .slice la ln lc, .int .i64 su, .slice (some ⟨b, off, none⟩) fn fc, .int .i64 ha]) := XR.out.belowS hbA
      have NW : Hid (Box W wr.heap.size 51 #[.int .i64 m, .int .i64 g.l, .slice g.a g.n g.c, .bool d, .int .i64 fi]) := by unfold Hid; rw [← hW]; exact Box.new _ _ _
      have RGW : Hid (G.RdG W g E) := RGE.out.below hbA
      have CD := c_readDP2 h D m W (RD.out.below BX.out) ST.out.ok (by have := ST.out.nn; omega) (HT.out.below BX.out)
      have nb : Hid (w.heap.size < wr.heap.size) := XR.out.lt
      clear hc hv HAT hP HFR RG RFw hbA XR BR RGE
      obtain ⟨x0, x1, x2, x3, x4, x5, x6, x7, x8⟩ := box9 XW.out
      obtain ⟨y0, y1, y2, y3, y4⟩ := box5 NW.out
      go_wp2_with fail
      refine CD.mono ?_
      rintro e w3 ⟨⟨h', c, rfl, hc0, hRP⟩, hb3⟩
      have RP3 : Hid (G.RdG w3 h' P) := hRP P HP.out
      have B3 : Hid (Below w.heap.size w w3) := BX.out.trans (hb3.mono BX.out.size)
      have X3 : Hid (Box w3 w.heap.size 40 #[.slice h.a0 h.n0 h.c0, .slice h.a1 h.n1 h.c1, .bool h.b, .slice h.a2 h.n2 h.c2, .int .i64 ep, .slice la ln lc, .int .i64 su, .slice (some ⟨b, off, none⟩) fn fc, .int .i64 ha]) := XW.out.belowS hb3
      have N3 : Hid (Box w3 wr.heap.size 51 #[.int .i64 m, .int .i64 g.l, .slice g.a g.n g.c, .bool d, .int .i64 fi]) := NW.out.belowS hb3
      have R3 : Hid (G.RdG w3 g E) := RGW.out.below hb3
      clear hb3 CD hc0 hRP x0 x1 x2 x3 x4 x5 x6 x7 x8 y0 y1 y2 y3 y4 d0 d1 d2 d3 d4 hW BX XW NW RGW
      obtain ⟨U, hU⟩ : ∃ U, w3.alloc (.cells #[.int .i64 h'.l, .slice h'.a h'.n h'.c] 49) = U := ⟨_, rfl⟩
      have hbU : Below w3.heap.size w3 U := by rw [← hU]; exact (Below.refl _ _).alloc (Nat.le_refl _) _
      have BU : Hid (Below w.heap.size w U) := B3.out.trans (hbU.mono B3.out.size)
      have XU : Hid (Box U w.heap.size 40 #[.slice h.a0 h.n0 h.c0, .slice h.a1 h.n1 h.c1, .bool h.b, .slice h.a2 h.n2 h.c2, .int .i64 ep, .slice la ln lc, .int .i64 su, .slice (some ⟨b, off, none⟩) fn fc, .int .i64 ha]) := X3.out.belowS hbU
      have NU : Hid (Box U wr.heap.size 51 #[.int .i64 m, .int .i64 g.l, .slice g.a g.n g.c, .bool d, .int .i64 fi]) := N3.out.belowS hbU
      have PU : Hid (Box U w3.heap.size 49 #[.int .i64 h'.l, .slice h'.a h'.n h'.c]) := by unfold Hid; rw [← hU]; exact Box.new _ _ _
      have CB := c_byLog m fi d g h' E P U (R3.out.below hbU) (RP3.out.below hbU) (okG_fit OKE.out.1) (okG_fit OKE.out.2)
      clear hbU B3 X3 N3 R3 RP3
      obtain ⟨y0, y1, y2, y3, y4⟩ := box5 NU.out
      obtain ⟨z0, z1⟩ := G.box2 PU.out
      cases hby : byLog ⟨m, g, E, d, fi⟩ P
      · have EE : Hid (behB (rdS D.S D.C) F = false) := by unfold Hid; rw [← HI.out, HAT'.out, hby]; rfl
        rw [hby] at CB
        clear hby HI HAT'
        go_wp2_with fail
        refine CB.mono ?_
        rintro e w5 ⟨rfl, hb5⟩
        have B5 : Hid (Below w.heap.size w w5) := BU.out.trans (hb5.mono BU.out.size)
        clear hb5 CB
        go_wp2
        go_ret2
        exact ⟨ret_bi (by first | rw [E0.out, EE.out] | rw [EE.out]) rfl, B5.out⟩
      · have EE : Hid (behB (rdS D.S D.C) (F.drop (k + 1)) = behB (rdS D.S D.C) F) := by unfold Hid; rw [← HI.out, HAT'.out, hby]; rfl
        rw [hby] at CB
        clear hby HI HAT'
        go_wp2_with fail
        refine CB.mono ?_
        rintro e w5 ⟨rfl, hb5⟩
        have B5 : Hid (Below w.heap.size w w5) := BU.out.trans (hb5.mono BU.out.size)
        have X5 : Hid (Box w5 w.heap.size 40 #[.slice h.a0 h.n0 h.c0, .slice h.a1 h.n1 h.c1, .bool h.b, .slice h.a2 h.n2 h.c2, .int .i64 ep, .slice la ln lc, .int .i64 su, .slice (some ⟨b, off, none⟩) fn fc, .int .i64 ha]) := XU.out.belowS hb5
        clear hb5 CB BU XU NU PU y0 y1 y2 y3 y4 z0 z1 hU
        go_wp2
        go_roundw
        case rel => exact ⟨k + 1, by omega, by go_num, EE, X5, B5⟩
        case measure => simp [intOf]; omega
    · have e : k = fn := by omega
      subst e
      have EE : Hid (behB (rdS D.S D.C) F = true) := by unfold Hid; rw [← HI.out, List.drop_eq_nil_of_le (by omega)]; rfl
      go_wp2
      go_ret2
      exact ⟨ret_bi (by first | rw [E0.out, EE.out] | rw [EE.out]) rfl, BR.out⟩

end Go.Proofs.YtcokbogicbdoaaaDoor
