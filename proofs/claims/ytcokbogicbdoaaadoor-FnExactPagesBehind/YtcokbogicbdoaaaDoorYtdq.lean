/-
  Right stores: the walks of the specification's l05Frame and StoreOK.
-/
import Derived.Test.YtcokbogicbdoaaaDoorYsgq
import Derived.Test.YtcokbogicbdoaaaDoorZzal
import Derived.Test.YtcokbogicbdoaaaDoorRnq
import Derived.Test.YtcokbogicbdoaaaDoorGkq
import Derived.Test.YtcokbogicbdoaaaDoorOkq
import Derived.Test.YtcokbogicbdoaaaDoorZzak
namespace Go.Proofs.YtcokbogicbdoaaaDoor
open Go Go.RowKit
attribute [local go_sem ↓] Go.wp_at_zero Go.wp_at_succ

/-- Where a page's first frame stands. -/
def ixF (no : Int) : Nat → List FF → Int
  | _, [] => -1
  | i, f :: fs => if f.no = no then (i : Int) else ixF no (i + 1) fs
theorem ixF_at {no : Int} {fs : List FF} {k : Nat} (h : k < fs.length) : ixF no k (fs.drop k) = if (fs.getD k zeroF).no = no then (k : Int) else ixF no (k + 1) (fs.drop (k + 1)) := by
  rw [List.drop_eq_getElem_cons h, List.getD_eq_getElem?_getD, List.getElem?_eq_getElem h]
  rfl
theorem ixF_skip (no : Int) : ∀ (A B : List FF) (i : Nat), (∀ f ∈ A, f.no ≠ no) → ixF no i (A ++ B) = ixF no (i + A.length) B
  | [], B, i, _ => by simp
  | a :: A, B, i, h => by
    show (if a.no = no then (i : Int) else ixF no (i + 1) (A ++ B)) = _
    rw [if_neg (h a (by simp)), ixF_skip no A B (i + 1) (fun f hf => h f (by simp [hf])), List.length_cons]
    congr 1
    omega
theorem ixF_lt (no : Int) : ∀ (A B : List FF) (i : Nat), (∃ f ∈ A, f.no = no) → ixF no i (A ++ B) < (i : Int) + A.length
  | [], B, i, h => by obtain ⟨f, hf, _⟩ := h; cases hf
  | a :: A, B, i, h => by
    show (if a.no = no then (i : Int) else ixF no (i + 1) (A ++ B)) < _
    by_cases e : a.no = no
    · rw [if_pos e, List.length_cons]; omega
    · rw [if_neg e]
      have := ixF_lt no A B (i + 1) (by
        obtain ⟨f, hf, hn⟩ := h
        rcases List.mem_cons.1 hf with rfl | hf
        · exact absurd hn e
        · exact ⟨f, hf, hn⟩)
      rw [List.length_cons]
      omega
theorem ixF_here {no : Int} {F : List FF} {k : Nat} (hk : k < F.length) (hn : (F.getD k zeroF).no = no) (h : ¬ ∃ f ∈ F.take k, f.no = no) : ixF no 0 F = k := by
  have e := ixF_skip no (F.take k) (F.drop k) 0 (fun f hf hn => h ⟨f, hf, hn⟩)
  rw [List.take_append_drop, List.length_take, Nat.min_eq_left (by omega), Nat.zero_add, ixF_at hk, if_pos hn] at e
  exact e
theorem ixF_not {no : Int} {F : List FF} {k : Nat} (hk : k < F.length) (h : ∃ f ∈ F.take k, f.no = no) : ixF no 0 F < k := by
  have e := ixF_lt no (F.take k) (F.drop k) 0 h
  rw [List.take_append_drop, List.length_take, Nat.min_eq_left (by omega)] at e
  simpa using e
theorem take_ex {no : Int} {F : List FF} {k : Nat} (hk : k < F.length) : (∃ f ∈ F.take (k + 1), f.no = no) ↔ (F.getD k zeroF).no = no ∨ ∃ f ∈ F.take k, f.no = no := by
  rw [List.take_add_one, List.getD_eq_getElem?_getD, List.getElem?_eq_getElem hk]
  constructor
  · rintro ⟨f, hf, hn⟩
    rcases List.mem_append.1 hf with hf | hf
    · exact .inr ⟨f, hf, hn⟩
    · simp at hf; subst hf; exact .inl hn
  · rintro (hn | ⟨f, hf, hn⟩)
    · exact ⟨F[k], List.mem_append.2 (.inr (by simp)), hn⟩
    · exact ⟨f, List.mem_append.2 (.inl hf), hn⟩
theorem okLS_e {D : DR} (h : okLS D = true) : 1 ≤ D.e := by
  obtain ⟨ve, vl, vt, vk, vp, vn, vg, vz, vb, va⟩ := D
  by_cases hc : 1 ≤ ve
  · exact hc
  · have := ls_f1 (e := ve) (l := vl) (t := vt) (k := vk) (p := vp) (n := vn) (g := vg) (s := vz) (b := vb) (a := va) (fun q => hc q.1.1)
    rw [h] at this
    cases this
set_option maxRecDepth 100000 in
set_option maxHeartbeats 8000000 in
theorem c_l05Fr (h : HD) (ep : Int) (la : Option Addr) (ln lc : Nat) (su : Int) (fa : Option Addr) (fn fc : Nat) (ha : Int) (F : List FF) (no : Int) (w : World) (rf : RdF w fa fn F) (hfn : fn ≤ 1048576) :
    Calls Tryd.prog 29 #[.agg #[.slice h.a0 h.n0 h.c0, .slice h.a1 h.n1 h.c1, .bool h.b, .slice h.a2 h.n2 h.c2, .int .i64 ep, .slice la ln lc, .int .i64 su, .slice fa fn fc, .int .i64 ha], .int .i64 no] w fun e w' => e = .returned (.int .i64 (ixF no 0 F)) ∧ Below w.heap.size w w' := by
  obtain ⟨hl, hcs, _⟩ := rf
  obtain ⟨V, hV⟩ : ∃ V, w.alloc (.cells #[.slice h.a0 h.n0 h.c0, .slice h.a1 h.n1 h.c1, .bool h.b, .slice h.a2 h.n2 h.c2, .int .i64 ep, .slice la ln lc, .int .i64 su, .slice fa fn fc, .int .i64 ha] 40) = V := ⟨_, rfl⟩
  have B0 : Hid (Below w.heap.size w V) := by unfold Hid; rw [← hV]; exact (Below.refl _ _).alloc (Nat.le_refl _) _
  have X0 : Hid (Box V w.heap.size 40 #[.slice h.a0 h.n0 h.c0, .slice h.a1 h.n1 h.c1, .bool h.b, .slice h.a2 h.n2 h.c2, .int .i64 ep, .slice la ln lc, .int .i64 su, .slice fa fn fc, .int .i64 ha]) := by unfold Hid; rw [← hV]; exact Box.new _ _ _
  go_enter Tryd.func29, Tryd.ntmps29
  go_wp2
  go_loopw [5] (fun i wr => ∃ k : Nat, k ≤ fn ∧ i = .int .i64 k ∧ Hid (ixF no k (F.drop k) = ixF no 0 F) ∧ wr = V) (fun i _ => fn - (intOf i).toNat)
  case atStart => exact ⟨0, by omega, rfl, rfl, by first | rfl | trivial | exact hV⟩
  case round =>
    obtain ⟨k, hk, rfl, HI, rfl⟩ := hrel
    obtain ⟨x0, x1, x2, x3, x4, x5, x6, x7, x8⟩ := box9 X0.out
    by_cases hlt : k < fn
    · obtain ⟨b, off, rfl, hbl, hc⟩ := hcs (by omega)
      have d0 := (hc k hlt).1
      have HA := ixF_at (no := no) (fs := F) (k := k) (by omega)
      obtain ⟨f, hv⟩ : ∃ v, v = F.getD k zeroF := ⟨_, rfl⟩
      rw [← hv] at d0 HA
      obtain ⟨q, hq⟩ : ∃ q, q = f.no := ⟨_, rfl⟩
      rw [← hq] at d0 HA
      have e0 := (B0.out.cell (p := ⟨b, off + k * 5, none⟩) hbl).trans d0
      have HA' : Hid (_ = _) := HA
      clear hc hcs hv HA d0 hq hV
      by_cases hn : q = no
      · have E : Hid (ixF no 0 F = (k : Int)) := by unfold Hid; rw [← HI.out, HA'.out, if_pos hn]
        subst hn
        go_wp2
        go_ret
        exact ⟨ret_int E.out.symm, B0.out⟩
      · have E : Hid (ixF no (k + 1) (F.drop (k + 1)) = ixF no 0 F) := by unfold Hid; rw [← HI.out, HA'.out, if_neg hn]
        go_wp2
        go_roundw
        case rel => exact ⟨k + 1, by omega, by go_num, E, by first | rfl | trivial⟩
        case measure => simp [intOf]; omega
    · have e : k = fn := by omega
      subst e
      have E : Hid (ixF no 0 F = -1) := by unfold Hid; rw [← HI.out, List.drop_eq_nil_of_le (by omega)]; rfl
      go_wp2
      go_ret
      exact ⟨ret_int E.out.symm, B0.out⟩
theorem okST_rest {D : DD} {n0 : Nat} {ep : Int} {ln : Nat} {L : List DR} {su : Int} {fn : Nat} {F : List FF} {ha : Int} (h0 : okD D = true) (h1 : n0 = 69) (h2 : inB ep 1 60 = true) (h3 : ln ≤ 60) (h4 : inB su 0 (ln : Int) = true) (h5 : fn ≤ 3) (h6 : inB ha 0 2 = true) : okST D n0 ep ln L su fn F ha = ((inPl 0 L && ofEp ep 0 L) && (arF (ln : Int) [] F && hasPg (rdS D.S D.C) su)) := by
  have a2 := of_decide_eq_true h2
  have a4 := of_decide_eq_true h4
  have a6 := of_decide_eq_true h6
  unfold okST
  rw [h0, decide_eq_true h1, decide_eq_true a2.1, decide_eq_true a2.2, decide_eq_true h3, decide_eq_true a4.1, decide_eq_true a4.2, decide_eq_true h5, decide_eq_true a6.1, decide_eq_true (show ha < 3 by omega)]
  simp only [Bool.true_and, Bool.and_assoc]
theorem okST_no {D : DD} {n0 : Nat} {ep : Int} {ln : Nat} {L : List DR} {su : Int} {fn : Nat} {F : List FF} {ha : Int} (h : okD D = false ∨ ¬ n0 = 69 ∨ inB ep 1 60 = false ∨ ¬ ln ≤ 60 ∨ inB su 0 (ln : Int) = false ∨ ¬ fn ≤ 3 ∨ inB ha 0 2 = false) : okST D n0 ep ln L su fn F ha = false := by
  cases hs : okST D n0 ep ln L su fn F ha
  · rfl
  exfalso
  unfold okST at hs
  simp only [Bool.and_eq_true, decide_eq_true_eq] at hs
  obtain ⟨p0, p1, p2, p3, p4, p5, p6, p7, p8, ⟨p9, p10⟩, p11, p12, p13⟩ := hs
  rcases h with h | h | h | h | h | h | h
  · rw [p0] at h; cases h
  · exact h p1
  · rw [inB, decide_eq_false_iff_not] at h; exact h ⟨p2, p3⟩
  · exact h p4
  · rw [inB, decide_eq_false_iff_not] at h; exact h ⟨p7, p8⟩
  · exact h p9
  · rw [inB, decide_eq_false_iff_not] at h; exact h ⟨p11, by omega⟩
theorem okFr_bad {no : Int} {D : G.DG} {d : Bool} {fi last : Int} (h : inB no 0 7 = false ∨ G.okG D = false ∨ ¬ D.L ≤ last ∨ inB fi 0 last = false ∨ ¬ d = decide (0 < fi)) : okFr no D d fi last = false := by
  cases hs : okFr no D d fi last
  · rfl
  exfalso
  unfold okFr at hs
  simp only [Bool.and_eq_true, decide_eq_true_eq, beq_iff_eq] at hs
  obtain ⟨p0, p1, p2, p3, p4, p5⟩ := hs
  rcases h with h | h | h | h | h
  · rw [inB, decide_eq_false_iff_not] at h; exact h ⟨p0.1, by omega⟩
  · rw [p1] at h; cases h
  · exact h p2
  · rw [inB, decide_eq_false_iff_not] at h; exact h ⟨p3, p4⟩
  · exact h p5
theorem okFr_good {no : Int} {D : G.DG} {d : Bool} {fi last : Int} (h0 : inB no 0 7 = true) (h1 : G.okG D = true) (h2 : D.L ≤ last) (h3 : inB fi 0 last = true) (h4 : d = decide (0 < fi)) : okFr no D d fi last = true := by
  have a0 := of_decide_eq_true h0
  have a3 := of_decide_eq_true h3
  unfold okFr
  rw [decide_eq_true (show 0 ≤ no ∧ no < 8 by omega), h1, decide_eq_true h2, decide_eq_true a3.1, decide_eq_true a3.2, h4]
  simp
set_option maxRecDepth 100000 in
set_option maxHeartbeats 8000000 in
theorem c_specST (h : HD) (ep : Int) (la : Option Addr) (ln lc : Nat) (su : Int) (fa : Option Addr) (fn fc : Nat) (ha : Int) (D : DD) (L : List DR) (F : List FF) (w : World) (r : RdD w h D) (hf : Fit D) (rl : RdQ w la ln L) (hln : ln ≤ 1048576) (hls : ∀ v ∈ L, v.b.size ≤ 1048576 ∧ v.a.size ≤ 1048576) (rf : RdF w fa fn F) (hfn : fn ≤ 1048576) (hfs : ∀ i, i < fn → G.FitG (F.getD i zeroF).D) :
    Calls Tryd.prog 10 #[.agg #[.slice h.a0 h.n0 h.c0, .slice h.a1 h.n1 h.c1, .bool h.b, .slice h.a2 h.n2 h.c2, .int .i64 ep, .slice la ln lc, .int .i64 su, .slice fa fn fc, .int .i64 ha]] w fun e w' => e = .returned (.bool (okST D h.n0 ep ln L su fn F ha)) ∧ Below w.heap.size w w' := by
  obtain ⟨V, hV⟩ : ∃ V, w.alloc (.cells #[.slice h.a0 h.n0 h.c0, .slice h.a1 h.n1 h.c1, .bool h.b, .slice h.a2 h.n2 h.c2, .int .i64 ep, .slice la ln lc, .int .i64 su, .slice fa fn fc, .int .i64 ha] 40) = V := ⟨_, rfl⟩
  have B0 : Hid (Below w.heap.size w V) := by unfold Hid; rw [← hV]; exact (Below.refl _ _).alloc (Nat.le_refl _) _
  have X0 : Hid (Box V w.heap.size 40 #[.slice h.a0 h.n0 h.c0, .slice h.a1 h.n1 h.c1, .bool h.b, .slice h.a2 h.n2 h.c2, .int .i64 ep, .slice la ln lc, .int .i64 su, .slice fa fn fc, .int .i64 ha]) := by unfold Hid; rw [← hV]; exact Box.new _ _ _
  have C1 : Hid (∀ W, Below w.heap.size w W → Calls Tryd.prog 25 #[.agg #[.slice h.a0 h.n0 h.c0, .slice h.a1 h.n1 h.c1, .bool h.b, .slice h.a2 h.n2 h.c2]] W fun e w' => e = .returned (.bool (okD D)) ∧ Below W.heap.size W w') := fun W hW => c_specOK h D W (r.below hW) hf
  have C4 : Hid (∀ no W, Below w.heap.size w W → Calls Tryd.prog 29 #[.agg #[.slice h.a0 h.n0 h.c0, .slice h.a1 h.n1 h.c1, .bool h.b, .slice h.a2 h.n2 h.c2, .int .i64 ep, .slice la ln lc, .int .i64 su, .slice fa fn fc, .int .i64 ha], .int .i64 no] W fun e w' => e = .returned (.int .i64 (ixF no 0 F)) ∧ Below W.heap.size W w') := fun no W hW => c_l05Fr h ep la ln lc su fa fn fc ha F no W (rf.below hW) hfn
  have C5 : Hid (okD D = true → h.n0 = 69 → ∀ (p : Nat), p < 8 → ∀ W, Below w.heap.size w W → Calls Tryd.prog 15 #[.agg #[.slice h.a0 h.n0 h.c0, .slice h.a1 h.n1 h.c1, .bool h.b, .slice h.a2 h.n2 h.c2], .int .i64 (p : Int)] W fun e w' => (∃ h' : G.HG, e = .returned (.tuple #[.agg #[.int .i64 h'.l, .slice h'.a h'.n h'.c], .bool (pgO p (rdS D.S D.C (1 + p))).isSome]) ∧ ∀ P, pgO p (rdS D.S D.C (1 + p)) = some P → h'.l = P.L) ∧ Below W.heap.size W w') := fun hok h69 p hp W hW => c_l05Page h D p W (r.below hW) hok (by omega)
  have RF : Hid (RdF w fa fn F) := rf
  have RL : Hid (RdQ w la ln L) := rl
  have HLS : Hid (∀ v ∈ L, v.b.size ≤ 1048576 ∧ v.a.size ≤ 1048576) := hls
  have HFS : Hid (∀ i, i < fn → G.FitG (F.getD i zeroF).D) := hfs
  clear r hf rl hls rf hfs
  obtain ⟨x0, x1, x2, x3, x4, x5, x6, x7, x8⟩ := box9 X0.out
  go_enter Tryd.func10, Tryd.ntmps10
  go_wp2_with fail
  refine (C1.out V B0.out).mono ?_
  rintro e w1 ⟨rfl, hb⟩
  have B1 : Hid (Below w.heap.size w w1) := B0.out.trans (hb.mono B0.out.size)
  have X1 : Hid (Box w1 w.heap.size 40 #[.slice h.a0 h.n0 h.c0, .slice h.a1 h.n1 h.c1, .bool h.b, .slice h.a2 h.n2 h.c2, .int .i64 ep, .slice la ln lc, .int .i64 su, .slice fa fn fc, .int .i64 ha]) := X0.out.belowS hb
  clear hb X0 B0 C1 hV x0 x1 x2 x3 x4 x5 x6 x7 x8
  obtain ⟨x0, x1, x2, x3, x4, x5, x6, x7, x8⟩ := box9 X1.out
  cases hok : okD D
  case false =>
    have E : Hid (okST D h.n0 ep ln L su fn F ha = false) := okST_no (.inl hok)
    clear hok
    go_wp2
    go_ret
    exact ⟨ret_bool E.out.symm, B1.out⟩
  have KOK : Hid (okD D = true) := hok
  clear hok
  by_cases h69 : h.n0 = 69
  case neg =>
    have E : Hid (okST D h.n0 ep ln L su fn F ha = false) := okST_no (.inr (.inl h69))
    have c1 : ((h.n0 : Int) != 69) = true := by simp; omega
    clear h69
    go_wp2
    go_ret
    exact ⟨ret_bool E.out.symm, B1.out⟩
  have c1 : ((h.n0 : Int) != 69) = false := by simp; omega
  have H69 : Hid (h.n0 = 69) := h69
  clear h69
  go_wp2_with fail
  refine (c_in ep 1 60 w1).mono ?_
  rintro e w' ⟨rfl, hw⟩
  have hw' := hw.symm
  subst hw'
  clear hw
  cases hep : inB ep 1 60
  case false =>
    have E : Hid (okST D h.n0 ep ln L su fn F ha = false) := okST_no (.inr (.inr (.inl hep)))
    clear hep
    go_wp2
    go_ret
    exact ⟨ret_bool E.out.symm, B1.out⟩
  have Khep : Hid (inB ep 1 60 = true) := hep
  clear hep
  by_cases hl6 : ln ≤ 60
  case neg =>
    have E : Hid (okST D h.n0 ep ln L su fn F ha = false) := okST_no (.inr (.inr (.inr (.inl hl6))))
    go_wp2
    go_ret
    exact ⟨ret_bool E.out.symm, B1.out⟩
  go_wp2_with fail
  refine (c_in su 0 (ln : Int) w1).mono ?_
  rintro e w' ⟨rfl, hw⟩
  have hw' := hw.symm
  subst hw'
  clear hw
  cases hsu : inB su 0 (ln : Int)
  case false =>
    have E : Hid (okST D h.n0 ep ln L su fn F ha = false) := okST_no (.inr (.inr (.inr (.inr (.inl hsu)))))
    clear hsu
    go_wp2
    go_ret
    exact ⟨ret_bool E.out.symm, B1.out⟩
  have Khsu : Hid (inB su 0 (ln : Int) = true) := hsu
  clear hsu
  by_cases hf3 : fn ≤ 3
  case neg =>
    have E : Hid (okST D h.n0 ep ln L su fn F ha = false) := okST_no (.inr (.inr (.inr (.inr (.inr (.inl hf3))))))
    go_wp2
    go_ret
    exact ⟨ret_bool E.out.symm, B1.out⟩
  go_wp2_with fail
  refine (c_in ha 0 2 w1).mono ?_
  rintro e w' ⟨rfl, hw⟩
  have hw' := hw.symm
  subst hw'
  clear hw
  cases hha : inB ha 0 2
  case false =>
    have E : Hid (okST D h.n0 ep ln L su fn F ha = false) := okST_no (.inr (.inr (.inr (.inr (.inr (.inr (hha)))))))
    clear hha
    go_wp2
    go_ret
    exact ⟨ret_bool E.out.symm, B1.out⟩
  have Khha : Hid (inB ha 0 2 = true) := hha
  clear hha
  have E0 : Hid (okST D h.n0 ep ln L su fn F ha = ((inPl 0 L && ofEp ep 0 L) && (arF (ln : Int) [] F && hasPg (rdS D.S D.C) su))) := okST_rest KOK.out H69.out Khep.out hl6 Khsu.out hf3 Khha.out
  clear Khep Khsu Khha c1 x0 x1 x2 x3 x4 x5 x6 x7 x8
  go_wp2
  go_loopw [3] (fun i wr => ∃ (k : Nat) (q : Int), k ≤ ln ∧ i = .int .i64 k ∧ Hid ((k = 0 → q = 0) ∧ (0 < k → q = (L.getD (k - 1) zeroR).e)) ∧ Hid ((inPl k (L.drop k) && ofEp ep q (L.drop k)) = (inPl 0 L && ofEp ep 0 L)) ∧ Hid (Box wr w.heap.size 40 #[.slice h.a0 h.n0 h.c0, .slice h.a1 h.n1 h.c1, .bool h.b, .slice h.a2 h.n2 h.c2, .int .i64 ep, .slice la ln lc, .int .i64 su, .slice fa fn fc, .int .i64 ha]) ∧ Hid (Below w.heap.size w wr)) (fun i _ => ln - (intOf i).toNat)
  case atStart => exact ⟨0, 0, by omega, rfl, ⟨fun _ => rfl, fun h => absurd h (by omega)⟩, rfl, X1, B1⟩
  case round =>
    obtain ⟨k, q, hk, rfl, HQ, HI, X2, B2⟩ := hrel
    obtain ⟨x0, x1, x2, x3, x4, x5, x6, x7, x8⟩ := box9 X2.out
    by_cases hlt : k < ln
    · obtain ⟨hl, hcs⟩ := RL.out
      obtain ⟨b, off, hla, hbl, hc⟩ := hcs (by omega)
      rw [hla] at x5
      obtain ⟨⟨ve, vl, vt, vk, vp, vn, vg, vz, vb, va⟩, hv⟩ : ∃ v, v = L.getD k zeroR := ⟨_, rfl⟩
      obtain ⟨d0, d1, d2, d3, d4, d5, d6, d7, d8, d9⟩ := RdQ.at hc hlt hv
      dsimp only at d0 d1 d2 d3 d4 d5 d6 d7 d8 d9
      have e0 := (B2.out.cell (p := ⟨b, off + k * 10, none⟩) hbl).trans d0
      have e1 := (B2.out.cell (p := ⟨b, off + k * 10 + 1, none⟩) hbl).trans d1
      have e2 := (B2.out.cell (p := ⟨b, off + k * 10 + 2, none⟩) hbl).trans d2
      have e3 := (B2.out.cell (p := ⟨b, off + k * 10 + 3, none⟩) hbl).trans d3
      have e4 := (B2.out.cell (p := ⟨b, off + k * 10 + 4, none⟩) hbl).trans d4
      have e5 := (B2.out.cell (p := ⟨b, off + k * 10 + 5, none⟩) hbl).trans d5
      have e6 := (B2.out.cell (p := ⟨b, off + k * 10 + 6, none⟩) hbl).trans d6
      have e7 := (B2.out.cell (p := ⟨b, off + k * 10 + 7, none⟩) hbl).trans d7
      have e8 := (B2.out.cell (p := ⟨b, off + k * 10 + 8, none⟩) hbl).trans d8
      have e9 := (B2.out.cell (p := ⟨b, off + k * 10 + 9, none⟩) hbl).trans d9
      have hss := getD_of (d := zeroR) HLS.out (show k < L.length by omega)
      have HA := inPl_at (vs := L) (k := k) (by omega)
      have HE := ofEp_at (vs := L) (k := k) (most := ep) (q := q) (by omega)
      rw [← hv] at HA HE hss
      have HA' : Hid (_ = _) := HA
      have HE' : Hid (_ = _) := HE
      have HV : Hid (⟨ve, vl, vt, vk, vp, vn, vg, vz, vb, va⟩ = L.getD k zeroR) := hv
      have HC : Hid (∀ i, i < ln → ∀ j, j < 10 → w.cell? ⟨b, off + i * 10 + j, none⟩ = (cQ (L.getD i zeroR))[j]?) := hc
      have C0 : Hid (∀ wx, Calls Tryd.prog 27 #[.agg #[.int .i64 ve, .int .i64 vl, .int .i64 vt, .int .i64 vk, .int .i64 vp, .int .i64 vn, .int .i64 vg, .int .i64 vz, .string vb, .string va]] wx fun e w' => e = .returned (.bool (okLS ⟨ve, vl, vt, vk, vp, vn, vg, vz, vb, va⟩)) ∧ Below wx.heap.size wx w') := fun wx => c_specLR ve vl vt vk vp vn vg vz vb va wx hss.1 hss.2
      have LE := okLS_e (D := ⟨ve, vl, vt, vk, vp, vn, vg, vz, vb, va⟩)
      have LQ := okLS_eq ⟨ve, vl, vt, vk, vp, vn, vg, vz, vb, va⟩
      have g1 : (0 : Int) ≤ (k : Int) := by omega
      have g2 : (k : Int) < (ln : Int) := by omega
      have HLE : Hid (okLS ⟨ve, vl, vt, vk, vp, vn, vg, vz, vb, va⟩ = true → 1 ≤ ve) := LE
      have HLQ : Hid (okLS ⟨ve, vl, vt, vk, vp, vn, vg, vz, vb, va⟩ = okLR ⟨ve, vl, vt, vk, vp, vn, vg, vz, vb, va⟩) := LQ
      clear hc hcs hv HA HE hss LE LQ hla hl d0 d1 d2 d3 d4 d5 d6 d7 d8 d9
      obtain ⟨W, hW⟩ : ∃ W, wr.alloc (.cells #[.int .i64 ve, .int .i64 vl, .int .i64 vt, .int .i64 vk, .int .i64 vp, .int .i64 vn, .int .i64 vg, .int .i64 vz, .string vb, .string va] 68) = W := ⟨_, rfl⟩
      have hbA : Below wr.heap.size wr W := by rw [← hW]; exact (Below.refl _ _).alloc (Nat.le_refl _) _
      have HN : Hid (Box W wr.heap.size 68 #[.int .i64 ve, .int .i64 vl, .int .i64 vt, .int .i64 vk, .int .i64 vp, .int .i64 vn, .int .i64 vg, .int .i64 vz, .string vb, .string va]) := by unfold Hid; rw [← hW]; exact Box.new _ _ _
      have HB : Hid (Below w.heap.size w W) := B2.out.trans (hbA.mono B2.out.size)
      have X3 : Hid (Box W w.heap.size 40 #[.slice h.a0 h.n0 h.c0, .slice h.a1 h.n1 h.c1, .bool h.b, .slice h.a2 h.n2 h.c2, .int .i64 ep, .slice la ln lc, .int .i64 su, .slice fa fn fc, .int .i64 ha]) := X2.out.belowS hbA
      obtain ⟨y0, y1, y2, y3, y4, y5, y6, y7, y8, y9⟩ := box10 HN.out
      have ZX : Hid (∀ j v, wr.cell? ⟨w.heap.size, j, none⟩ = some v → W.cell? ⟨w.heap.size, j, none⟩ = some v) := fun j v hj => far6 hbA hj
      have u0 := ZX.out 0 _ x0
      have u1 := ZX.out 1 _ x1
      have u2 := ZX.out 2 _ x2
      have u3 := ZX.out 3 _ x3
      have u4 := ZX.out 4 _ x4
      have u5 := ZX.out 5 _ x5
      have u6 := ZX.out 6 _ x6
      have u7 := ZX.out 7 _ x7
      have u8 := ZX.out 8 _ x8
      clear ZX hbA X2 B2
      go_wp2_with fail
      clear hW x0 x1 x2 x3 x4 x5 x6 x7 x8 e0 e1 e2 e3 e4 e5 e6 e7 e8 e9
      have qu0 := fun r : Out W => q_cell u0 r
      have qu1 := fun r : Out W => q_cell u1 r
      have qu2 := fun r : Out W => q_cell u2 r
      have qu3 := fun r : Out W => q_cell u3 r
      have qu4 := fun r : Out W => q_cell u4 r
      have qu5 := fun r : Out W => q_cell u5 r
      have qu6 := fun r : Out W => q_cell u6 r
      have qu7 := fun r : Out W => q_cell u7 r
      have qu8 := fun r : Out W => q_cell u8 r
      have qy0 := fun r : Out W => q_cell y0 r
      have qy1 := fun r : Out W => q_cell y1 r
      have qy2 := fun r : Out W => q_cell y2 r
      have qy3 := fun r : Out W => q_cell y3 r
      have qy4 := fun r : Out W => q_cell y4 r
      have qy5 := fun r : Out W => q_cell y5 r
      have qy6 := fun r : Out W => q_cell y6 r
      have qy7 := fun r : Out W => q_cell y7 r
      have qy8 := fun r : Out W => q_cell y8 r
      have qy9 := fun r : Out W => q_cell y9 r
      clear u0 u1 u2 u3 u4 u5 u6 u7 u8 y0 y1 y2 y3 y4 y5 y6 y7 y8 y9
      cases hok : okLS ⟨ve, vl, vt, vk, vp, vn, vg, vz, vb, va⟩
      case false =>
        have C : Hid (∀ wx, Calls Tryd.prog 27 #[.agg #[.int .i64 ve, .int .i64 vl, .int .i64 vt, .int .i64 vk, .int .i64 vp, .int .i64 vn, .int .i64 vg, .int .i64 vz, .string vb, .string va]] wx fun e w' => e = .returned (.bool false) ∧ Below wx.heap.size wx w') := by rw [← hok]; exact C0
        have E : Hid (okST D h.n0 ep ln L su fn F ha = false) := by
          unfold Hid
          rw [E0.out, ← HI.out, HA'.out, HE'.out, ← HLQ.out, hok]
          simp
        haveI nx := Out.some W
        refine q_begin (by kernel_rfl) (by kernel_rfl) ?_
        repeat (go_big_quiet_step (exact q_call (C.out _)))
        refine wpQuiet_nil ?_
        rintro w3 ⟨⟨y', hb3⟩, hy⟩
        have hy' : w3 = y' := hy
        clear hy
        subst hy'
        have B3 : Hid (Below w.heap.size w w3) := HB.out.trans (hb3.mono HB.out.size)
        clear hb3 qy0 qy1 qy2 qy3 qy4 qy5 qy6 qy7 qy8 qy9 qu0 qu1 qu2 qu3 qu4 qu5 qu6 qu7 qu8 C
        go_wp2
        go_ret
        exact ⟨ret_bool E.out.symm, B3.out⟩
      have C : Hid (∀ wx, Calls Tryd.prog 27 #[.agg #[.int .i64 ve, .int .i64 vl, .int .i64 vt, .int .i64 vk, .int .i64 vp, .int .i64 vn, .int .i64 vg, .int .i64 vz, .string vb, .string va]] wx fun e w' => e = .returned (.bool true) ∧ Below wx.heap.size wx w') := by rw [← hok]; exact C0
      have hve : 1 ≤ ve := HLE.out hok
      have hoR : Hid (okLR ⟨ve, vl, vt, vk, vp, vn, vg, vz, vb, va⟩ = true) := by unfold Hid; rw [← HLQ.out, hok]
      clear hok C0 HLE HLQ
      by_cases hq : vl = (k : Int) + 1
      case neg =>
        have cq : (vl != (k : Int) + 1) = true := by simpa using hq
        have cq2 : decide (vl = (k : Int) + 1) = false := decide_eq_false hq
        have E : Hid (okST D h.n0 ep ln L su fn F ha = false) := by
          unfold Hid
          rw [E0.out, ← HI.out, HA'.out, HE'.out, hoR.out, decide_eq_false hq]
          simp
        haveI nx := Out.some W
        refine q_begin (by kernel_rfl) (by kernel_rfl) ?_
        repeat (go_big_quiet_step (exact q_call (C.out _)))
        refine wpQuiet_nil ?_
        rintro w3 ⟨⟨y', hb3⟩, hy⟩
        have hy' : w3 = y' := hy
        clear hy
        subst hy'
        have B3 : Hid (Below w.heap.size w w3) := HB.out.trans (hb3.mono HB.out.size)
        clear hb3 qy0 qy1 qy2 qy3 qy4 qy5 qy6 qy7 qy8 qy9 qu0 qu1 qu2 qu3 qu4 qu5 qu6 qu7 qu8 C
        go_wp2
        go_ret
        exact ⟨ret_bool E.out.symm, B3.out⟩
      have cq : (vl != (k : Int) + 1) = false := by simpa using hq
      have cq2 : decide (vl = (k : Int) + 1) = true := decide_eq_true hq
      have HQ1 : Hid (vl = (k : Int) + 1) := hq
      clear hq
      by_cases h2 : ep < ve
      case pos =>
        have ce : decide (ep < ve) = true := decide_eq_true h2
        have E : Hid (okST D h.n0 ep ln L su fn F ha = false) := by
          unfold Hid
          rw [E0.out, ← HI.out, HA'.out, HE'.out, hoR.out, decide_eq_true HQ1.out, decide_eq_false (show ¬ ve ≤ ep by omega)]
          simp
        haveI nx := Out.some W
        refine q_begin (by kernel_rfl) (by kernel_rfl) ?_
        repeat (go_big_quiet_step (exact q_call (C.out _)))
        refine wpQuiet_nil ?_
        rintro w3 ⟨⟨y', hb3⟩, hy⟩
        have hy' : w3 = y' := hy
        clear hy
        subst hy'
        have B3 : Hid (Below w.heap.size w w3) := HB.out.trans (hb3.mono HB.out.size)
        clear hb3 qy0 qy1 qy2 qy3 qy4 qy5 qy6 qy7 qy8 qy9 qu0 qu1 qu2 qu3 qu4 qu5 qu6 qu7 qu8 C
        go_wp2
        go_ret
        exact ⟨ret_bool E.out.symm, B3.out⟩
      have ce : decide (ep < ve) = false := decide_eq_false (by omega)
      have HE2 : Hid (ve ≤ ep) := by unfold Hid; omega
      clear h2
      by_cases hk0 : k = 0
      case pos =>
        have cz : decide (0 < (k : Int)) = false := decide_eq_false (by omega)
        have cz2 : decide (0 < k) = false := decide_eq_false (by omega)
        have HK0 : Hid (k = 0) := hk0
        clear hk0
        have E : Hid ((inPl (k + 1) (L.drop (k + 1)) && ofEp ep ve (L.drop (k + 1))) = (inPl 0 L && ofEp ep 0 L)) := by
          unfold Hid
          rw [← HI.out, HA'.out, HE'.out, hoR.out, decide_eq_true HQ1.out, decide_eq_true HE2.out, decide_eq_true (show q ≤ ve by have := HQ.out.1 HK0.out; omega)]
          rfl
        haveI nx := Out.some W
        refine q_begin (by kernel_rfl) (by kernel_rfl) ?_
        repeat (go_big_quiet_step (exact q_call (C.out _)))
        refine wpQuiet_nil ?_
        rintro w3 ⟨⟨y', hb3⟩, hy⟩
        have hy' : w3 = y' := hy
        clear hy
        subst hy'
        have B3 : Hid (Below w.heap.size w w3) := HB.out.trans (hb3.mono HB.out.size)
        have X5 : Hid (Box w3 w.heap.size 40 #[.slice h.a0 h.n0 h.c0, .slice h.a1 h.n1 h.c1, .bool h.b, .slice h.a2 h.n2 h.c2, .int .i64 ep, .slice la ln lc, .int .i64 su, .slice fa fn fc, .int .i64 ha]) := X3.out.belowS hb3
        have HQN : Hid ((k + 1 = 0 → ve = 0) ∧ (0 < k + 1 → ve = (L.getD (k + 1 - 1) zeroR).e)) := ⟨fun h => absurd h (by omega), fun _ => by rw [Nat.add_sub_cancel, ← HV.out]⟩
        clear hb3 qy0 qy1 qy2 qy3 qy4 qy5 qy6 qy7 qy8 qy9 qu0 qu1 qu2 qu3 qu4 qu5 qu6 qu7 qu8 C
        go_wp2
        go_roundw
        case rel => exact ⟨k + 1, ve, by omega, by go_num, HQN, E, X5, B3⟩
        case measure => simp [intOf]; omega
      obtain ⟨j, rfl⟩ : ∃ j, k = j + 1 := ⟨k - 1, by omega⟩
      have p0 : W.cell? ⟨b, off + j * 10, none⟩ = some (.int .i64 (L.getD j zeroR).e) := (HB.out.cell (p := ⟨b, off + j * 10, none⟩) hbl).trans (HC.out j (by omega) 0 (by omega))
      obtain ⟨pe, hpe⟩ : ∃ z, z = (L.getD j zeroR).e := ⟨_, rfl⟩
      rw [← hpe] at p0
      have HPE : Hid (q = pe) := by unfold Hid; rw [hpe]; have := HQ.out.2 (by omega); rwa [Nat.add_sub_cancel] at this
      have cz : decide (0 < (j : Int) + 1) = true := decide_eq_true (by omega)
      have cz2 : decide (0 < j + 1) = true := decide_eq_true (by omega)
      have cqa0 : decide (vl = (j : Int) + 1 + 1) = true := decide_eq_true (by have := HQ1.out; omega)
      have cqb0 : (vl != (j : Int) + 1 + 1) = false := by have := HQ1.out; simp; omega
      have cqa1 : decide (vl = (j : Int) + 2) = true := decide_eq_true (by have := HQ1.out; omega)
      have cqb1 : (vl != (j : Int) + 2) = false := by have := HQ1.out; simp; omega
      have cqa2 : decide (vl = ((j + 1 : Nat) : Int) + 1) = true := decide_eq_true (by have := HQ1.out; omega)
      have cqb2 : (vl != ((j + 1 : Nat) : Int) + 1) = false := by have := HQ1.out; simp; omega
      clear hk0
      have g3 : (0 : Int) ≤ (j : Int) := by omega
      have g4 : (j : Int) < (ln : Int) := by omega
      clear hpe HQ HC
      by_cases h4 : ve < pe
      case pos =>
        have cp : decide (ve < pe) = true := decide_eq_true h4
        have E : Hid (okST D h.n0 ep ln L su fn F ha = false) := by
          unfold Hid
          rw [E0.out, ← HI.out, HA'.out, HE'.out, hoR.out, decide_eq_true HQ1.out, decide_eq_false (show ¬ q ≤ ve by have := HPE.out; omega)]
          simp
        have p1 := fun r : Out W => q_cell p0 r
        haveI nx := Out.some W
        refine q_begin (by kernel_rfl) (by kernel_rfl) ?_
        repeat (go_big_quiet_step (exact q_call (C.out _)))
        refine wpQuiet_nil ?_
        rintro w3 ⟨⟨y', hb3⟩, hy⟩
        have hy' : w3 = y' := hy
        clear hy
        subst hy'
        have B3 : Hid (Below w.heap.size w w3) := HB.out.trans (hb3.mono HB.out.size)
        clear hb3 qy0 qy1 qy2 qy3 qy4 qy5 qy6 qy7 qy8 qy9 qu0 qu1 qu2 qu3 qu4 qu5 qu6 qu7 qu8 C
        go_wp2
        go_ret
        exact ⟨ret_bool E.out.symm, B3.out⟩
      have cp : decide (ve < pe) = false := decide_eq_false (by omega)
      have E : Hid ((inPl (j + 1 + 1) (L.drop (j + 1 + 1)) && ofEp ep ve (L.drop (j + 1 + 1))) = (inPl 0 L && ofEp ep 0 L)) := by
        unfold Hid
        rw [← HI.out, HA'.out, HE'.out, hoR.out, decide_eq_true HQ1.out, decide_eq_true HE2.out, decide_eq_true (show q ≤ ve by have := HPE.out; omega)]
        rfl
      have p1 := fun r : Out W => q_cell p0 r
      haveI nx := Out.some W
      refine q_begin (by kernel_rfl) (by kernel_rfl) ?_
      repeat (go_big_quiet_step (exact q_call (C.out _)))
      refine wpQuiet_nil ?_
      rintro w3 ⟨⟨y', hb3⟩, hy⟩
      have hy' : w3 = y' := hy
      clear hy
      subst hy'
      have B3 : Hid (Below w.heap.size w w3) := HB.out.trans (hb3.mono HB.out.size)
      have X5 : Hid (Box w3 w.heap.size 40 #[.slice h.a0 h.n0 h.c0, .slice h.a1 h.n1 h.c1, .bool h.b, .slice h.a2 h.n2 h.c2, .int .i64 ep, .slice la ln lc, .int .i64 su, .slice fa fn fc, .int .i64 ha]) := X3.out.belowS hb3
      have HQN : Hid ((j + 1 + 1 = 0 → ve = 0) ∧ (0 < j + 1 + 1 → ve = (L.getD (j + 1 + 1 - 1) zeroR).e)) := ⟨fun h => absurd h (by omega), fun _ => by rw [Nat.add_sub_cancel, ← HV.out]⟩
      clear hb3 qy0 qy1 qy2 qy3 qy4 qy5 qy6 qy7 qy8 qy9 qu0 qu1 qu2 qu3 qu4 qu5 qu6 qu7 qu8 p0 p1 C
      go_wp2
      go_roundw
      case rel => exact ⟨j + 1 + 1, ve, by omega, by go_num, HQN, E, X5, B3⟩
      case measure => simp [intOf]; omega
    have hge : ¬ (k : Int) < (ln : Int) := by omega
    have EL : Hid ((inPl 0 L && ofEp ep 0 L) = true) := by unfold Hid; rw [← HI.out, List.drop_eq_nil_of_le (by have := RL.out.1; omega)]; rfl
    have E1 : Hid (okST D h.n0 ep ln L su fn F ha = (arF (ln : Int) [] F && hasPg (rdS D.S D.C) su)) := by unfold Hid; rw [E0.out, EL.out]; rfl
    clear HI HQ EL E0 RL HLS B1 X1
    go_wp2
    clear hge hlt hk x0 x1 x2 x3 x4 x5 x6 x7 x8
    go_loopw [5] (fun i wr => ∃ (k : Nat) (tk : List Nat), k ≤ fn ∧ i = .int .i64 k ∧ Hid (∀ m : Nat, tk.contains m = true ↔ ∃ f ∈ F.take k, f.no = (m : Int)) ∧ Hid (arF (ln : Int) tk (F.drop k) = arF (ln : Int) [] F) ∧ Hid (Box wr w.heap.size 40 #[.slice h.a0 h.n0 h.c0, .slice h.a1 h.n1 h.c1, .bool h.b, .slice h.a2 h.n2 h.c2, .int .i64 ep, .slice la ln lc, .int .i64 su, .slice fa fn fc, .int .i64 ha]) ∧ Hid (Below w.heap.size w wr)) (fun i _ => fn - (intOf i).toNat)
    case atStart => exact ⟨0, [], by omega, rfl, fun m => by simp, rfl, X2, B2⟩
    case round =>
      clear X2 B2
      obtain ⟨k, tk, hk, rfl, HTK, HA, X2, B2⟩ := hrel
      obtain ⟨x0, x1, x2, x3, x4, x5, x6, x7, x8⟩ := box9 X2.out
      by_cases hlt : k < fn
      · obtain ⟨hl, hcs, hpg⟩ := RF.out
        obtain ⟨b, off, hfa, hbl, hc⟩ := hcs (by omega)
        rw [hfa] at x7
        obtain ⟨d0, d1, d2, d3, d4⟩ := hc k hlt
        have HAT := arF_at (last := (ln : Int)) (tk := tk) (fs := F) (k := k) (by omega)
        have RG := (hpg k hlt).below B2.out
        have FG := HFS.out k hlt
        obtain ⟨⟨no, g, D1, d, fi⟩, hv⟩ : ∃ v, v = F.getD k zeroF := ⟨_, rfl⟩
        have HV : Hid ((F.getD k zeroF).no = no) := by unfold Hid; rw [← hv]
        have HFL : Hid (k < F.length) := by unfold Hid; omega
        rw [← hv] at d0 d1 d2 d3 d4 HAT RG FG
        dsimp only at d0 d1 d2 d3 d4 HAT RG FG
        have e0 := (B2.out.cell (p := ⟨b, off + k * 5, none⟩) hbl).trans d0
        have e1 := (B2.out.cell (p := ⟨b, off + k * 5 + 1, none⟩) hbl).trans d1
        have e2 := (B2.out.cell (p := ⟨b, off + k * 5 + 2, none⟩) hbl).trans d2
        have e3 := (B2.out.cell (p := ⟨b, off + k * 5 + 3, none⟩) hbl).trans d3
        have e4 := (B2.out.cell (p := ⟨b, off + k * 5 + 4, none⟩) hbl).trans d4
        have HAT' : Hid (_ = _) := HAT
        have g1 : (0 : Int) ≤ (k : Int) := by omega
        have g2 : (k : Int) < (fn : Int) := by omega
        obtain ⟨W, hW⟩ : ∃ W, wr.alloc (.cells #[.int .i64 no, .int .i64 g.l, .slice g.a g.n g.c, .bool d, .int .i64 fi] 51) = W := ⟨_, rfl⟩
        have hbA : Below wr.heap.size wr W := by rw [← hW]; exact (Below.refl _ _).alloc (Nat.le_refl _) _
        have HN : Hid (Box W wr.heap.size 51 #[.int .i64 no, .int .i64 g.l, .slice g.a g.n g.c, .bool d, .int .i64 fi]) := by unfold Hid; rw [← hW]; exact Box.new _ _ _
        have BW : Hid (Below w.heap.size w W) := B2.out.trans (hbA.mono B2.out.size)
        have XW : Hid (Box W w.heap.size 40 #[.slice h.a0 h.n0 h.c0, .slice h.a1 h.n1 h.c1, .bool h.b, .slice h.a2 h.n2 h.c2, .int .i64 ep, .slice la ln lc, .int .i64 su, .slice fa fn fc, .int .i64 ha]) := X2.out.belowS hbA
        have CP := G.c_specOK g D1 W (RG.below hbA) FG
        have HGL : Hid (g.l = D1.L) := RG.1
        have u5 : W.cell? ⟨w.heap.size, 5, none⟩ = some (.slice la ln lc) := far6 hbA x5
        clear hl hcs hpg hc hv HAT RG FG d0 d1 d2 d3 d4 hbA X2 B2 hfa
        obtain ⟨y0, y1, y2, y3, y4⟩ := box5 HN.out
        go_wp2_with fail
        refine (c_in no 0 7 W).mono ?_
        rintro e w' ⟨rfl, hw⟩
        have hw' := hw.symm
        subst hw'
        clear hw
        cases hno : inB no 0 7
        case false =>
          have E : Hid (okST D h.n0 ep ln L su fn F ha = false) := by unfold Hid; rw [E1.out, ← HA.out, HAT'.out, okFr_bad (.inl hno)]; rfl
          clear hno
          go_wp2
          go_ret
          exact ⟨ret_bool E.out.symm, BW.out⟩
        have Kno : Hid (inB no 0 7 = true) := hno
        clear hno
        go_wp2_with fail
        refine CP.mono ?_
        rintro e w3 ⟨rfl, hb3⟩
        have B3 : Hid (Below w.heap.size w w3) := BW.out.trans (hb3.mono BW.out.size)
        have X3 : Hid (Box w3 w.heap.size 40 #[.slice h.a0 h.n0 h.c0, .slice h.a1 h.n1 h.c1, .bool h.b, .slice h.a2 h.n2 h.c2, .int .i64 ep, .slice la ln lc, .int .i64 su, .slice fa fn fc, .int .i64 ha]) := XW.out.belowS hb3
        have N3 : Hid (Box w3 wr.heap.size 51 #[.int .i64 no, .int .i64 g.l, .slice g.a g.n g.c, .bool d, .int .i64 fi]) := HN.out.belowS hb3
        clear hb3 CP BW XW HN hW y0 y1 y2 y3 y4 e0 e1 e2 e3 e4 x0 x1 x2 x3 x4 x5 x6 x7 x8
        obtain ⟨y0, y1, y2, y3, y4⟩ := box5 N3.out
        obtain ⟨x0, x1, x2, x3, x4, x5, x6, x7, x8⟩ := box9 X3.out
        cases hg : G.okG D1
        case false =>
          have E : Hid (okST D h.n0 ep ln L su fn F ha = false) := by unfold Hid; rw [E1.out, ← HA.out, HAT'.out, okFr_bad (.inr (.inl hg))]; rfl
          clear hg
          go_wp2
          go_ret
          exact ⟨ret_bool E.out.symm, B3.out⟩
        have Kg : Hid (G.okG D1 = true) := hg
        clear hg
        by_cases hL : g.l ≤ (ln : Int)
        case neg =>
          have E : Hid (okST D h.n0 ep ln L su fn F ha = false) := by unfold Hid; rw [E1.out, ← HA.out, HAT'.out, okFr_bad (.inr (.inr (.inl (by rw [← HGL.out]; exact hL))))]; rfl
          go_wp2
          go_ret
          exact ⟨ret_bool E.out.symm, B3.out⟩
        have KL : Hid (D1.L ≤ (ln : Int)) := by unfold Hid; rw [← HGL.out]; exact hL
        go_wp2_with fail
        refine (c_in fi 0 (ln : Int) w3).mono ?_
        rintro e w' ⟨rfl, hw⟩
        have hw' := hw.symm
        subst hw'
        clear hw
        cases hfi : inB fi 0 (ln : Int)
        case false =>
          have E : Hid (okST D h.n0 ep ln L su fn F ha = false) := by unfold Hid; rw [E1.out, ← HA.out, HAT'.out, okFr_bad (.inr (.inr (.inr (.inl hfi))))]; rfl
          clear hfi
          go_wp2
          go_ret
          exact ⟨ret_bool E.out.symm, B3.out⟩
        have Kfi : Hid (inB fi 0 (ln : Int) = true) := hfi
        clear hfi
        by_cases hd : d = decide (0 < fi)
        case neg =>
          have E : Hid (okST D h.n0 ep ln L su fn F ha = false) := by unfold Hid; rw [E1.out, ← HA.out, HAT'.out, okFr_bad (.inr (.inr (.inr (.inr (hd)))))]; rfl
          have cd : (d != decide (0 < fi)) = true := by simpa using hd
          have cd2 : (d = decide (0 < fi)) = False := eq_false hd
          have cd3 : (!d == decide (0 < fi)) = true := by revert hd; cases d <;> cases decide (0 < fi) <;> simp
          have cL : ((ln : Int) < g.l) = False := eq_false (by omega)
          clear hd
          go_wp2
          go_ret
          exact ⟨ret_bool E.out.symm, B3.out⟩
        have cd : (d != decide (0 < fi)) = false := by simpa using hd
        have cd2 : (d = decide (0 < fi)) = True := eq_true hd
        have cd3 : (!d == decide (0 < fi)) = false := by rw [hd]; cases decide (0 < fi) <;> rfl
        have cL : ((ln : Int) < g.l) = False := eq_false (by omega)
        have KF : Hid (okFr no D1 d fi (ln : Int) = true) := okFr_good Kno.out Kg.out KL.out Kfi.out hd
        obtain ⟨m, hm⟩ : ∃ m : Nat, no = (m : Int) := ⟨no.toNat, by have := of_decide_eq_true Kno.out; omega⟩
        have C6 := C4.out no w3 B3.out
        clear hd Kno Kg KL Kfi
        by_cases hcl : ∃ f ∈ F.take k, f.no = no
        case pos =>
          have hix := ixF_not HFL.out hcl
          have hct : tk.contains no.toNat = true := by rw [HTK.out, hm, Int.toNat_natCast, ← hm]; exact hcl
          obtain ⟨z, hz⟩ : ∃ z, z = ixF no 0 F := ⟨_, rfl⟩
          rw [← hz] at C6 hix
          have cx : (z != (k : Int)) = true := by simp; omega
          have E : Hid (okST D h.n0 ep ln L su fn F ha = false) := by unfold Hid; rw [E1.out, ← HA.out, HAT'.out, KF.out, hct]; rfl
          clear hix hct hz hm hcl
          go_wp2_with fail
          refine C6.mono ?_
          rintro e w4 ⟨rfl, hb4⟩
          have B4 : Hid (Below w.heap.size w w4) := B3.out.trans (hb4.mono B3.out.size)
          clear hb4 C6 B3 X3 N3 y0 y1 y2 y3 y4 x0 x1 x2 x3 x4 x5 x6 x7 x8
          go_wp2
          go_ret
          exact ⟨ret_bool E.out.symm, B4.out⟩
        have hix := ixF_here HFL.out HV.out hcl
        have hct : tk.contains no.toNat = false := by
          cases hq : tk.contains no.toNat
          · rfl
          · exact absurd ((HTK.out no.toNat).1 hq) (by rw [hm, Int.toNat_natCast, ← hm]; exact hcl)
        rw [hix] at C6
        have cx : ((k : Int) != (k : Int)) = false := by simp
        have E : Hid (arF (ln : Int) (no.toNat :: tk) (F.drop (k + 1)) = arF (ln : Int) [] F) := by unfold Hid; rw [← HA.out, HAT'.out, KF.out, hct]; rfl
        have HT2 : Hid (∀ m : Nat, (no.toNat :: tk).contains m = true ↔ ∃ f ∈ F.take (k + 1), f.no = (m : Int)) := fun m' => by
          rw [take_ex HFL.out, HV.out, List.contains_cons, Bool.or_eq_true, HTK.out, beq_iff_eq]
          exact ⟨fun q => q.elim (fun q => .inl (by omega)) .inr, fun q => q.elim (fun q => .inl (by omega)) .inr⟩
        clear hix hct hm hcl
        go_wp2_with fail
        refine C6.mono ?_
        rintro e w4 ⟨rfl, hb4⟩
        have B4 : Hid (Below w.heap.size w w4) := B3.out.trans (hb4.mono B3.out.size)
        have X4 : Hid (Box w4 w.heap.size 40 #[.slice h.a0 h.n0 h.c0, .slice h.a1 h.n1 h.c1, .bool h.b, .slice h.a2 h.n2 h.c2, .int .i64 ep, .slice la ln lc, .int .i64 su, .slice fa fn fc, .int .i64 ha]) := X3.out.belowS hb4
        clear hb4 C6 B3 X3 N3 y0 y1 y2 y3 y4 x0 x1 x2 x3 x4 x5 x6 x7 x8
        go_wp2
        go_roundw
        case rel => exact ⟨k + 1, no.toNat :: tk, by omega, by go_num, HT2, E, X4, B4⟩
        case measure => simp [intOf]; omega
      have hge : ¬ (k : Int) < (fn : Int) := by omega
      have EF : Hid (arF (ln : Int) [] F = true) := by unfold Hid; rw [← HA.out, List.drop_eq_nil_of_le (by have := RF.out.1; omega)]; rfl
      have E2 : Hid (okST D h.n0 ep ln L su fn F ha = hasPg (rdS D.S D.C) su) := by unfold Hid; rw [E1.out, EF.out]; rfl
      clear HA HTK EF E1 RF HFS C4
      go_wp2
      clear hge hlt hk x0 x1 x2 x3 x4 x5 x6 x7 x8
      go_loopw [7] (fun i wr => ∃ (k : Nat), k ≤ 8 ∧ i = .int .i64 k ∧ Hid (∀ p, p < k → okPg (rdS D.S D.C) su p = true) ∧ Hid (Box wr w.heap.size 40 #[.slice h.a0 h.n0 h.c0, .slice h.a1 h.n1 h.c1, .bool h.b, .slice h.a2 h.n2 h.c2, .int .i64 ep, .slice la ln lc, .int .i64 su, .slice fa fn fc, .int .i64 ha]) ∧ Hid (Below w.heap.size w wr)) (fun i _ => 8 - (intOf i).toNat)
      case atStart => exact ⟨0, by omega, rfl, fun p hp => absurd hp (by omega), X2, B2⟩
      case round =>
        clear X2 B2
        obtain ⟨k, hk, rfl, HP, X2, B2⟩ := hrel
        obtain ⟨x0, x1, x2, x3, x4, x5, x6, x7, x8⟩ := box9 X2.out
        by_cases hlt : k < 8
        · have C7 := C5.out KOK.out H69.out k hlt wr B2.out
          have g2 : (k : Int) < 8 := by omega
          obtain ⟨pp, hpp⟩ : ∃ pp, pp = pgO k (rdS D.S D.C (1 + k)) := ⟨_, rfl⟩
          rw [← hpp] at C7
          go_wp2_with fail
          refine C7.mono ?_
          rintro e w3 ⟨⟨h', rfl, hL⟩, hb3⟩
          obtain ⟨W, hW⟩ : ∃ W, w3.alloc (.cells #[.int .i64 h'.l, .slice h'.a h'.n h'.c] 49) = W := ⟨_, rfl⟩
          have hbA : Below w3.heap.size w3 W := by rw [← hW]; exact (Below.refl _ _).alloc (Nat.le_refl _) _
          have HN : Hid (Box W w3.heap.size 49 #[.int .i64 h'.l, .slice h'.a h'.n h'.c]) := by unfold Hid; rw [← hW]; exact Box.new _ _ _
          have B3 : Hid (Below w.heap.size w W) := (B2.out.trans (hb3.mono B2.out.size)).trans (hbA.mono (Nat.le_trans B2.out.size hb3.size))
          have X3 : Hid (Box W w.heap.size 40 #[.slice h.a0 h.n0 h.c0, .slice h.a1 h.n1 h.c1, .bool h.b, .slice h.a2 h.n2 h.c2, .int .i64 ep, .slice la ln lc, .int .i64 su, .slice fa fn fc, .int .i64 ha]) := (X2.out.belowS hb3).belowS hbA
          clear hb3 hbA C7 X2 B2 x0 x1 x2 x3 x4 x5 x6 x7 x8
          obtain ⟨y0, y1⟩ := G.box2 HN.out
          obtain ⟨x0, x1, x2, x3, x4, x5, x6, x7, x8⟩ := box9 X3.out
          cases pp with
          | none =>
            have E : Hid (okST D h.n0 ep ln L su fn F ha = false) := by unfold Hid; rw [E2.out]; exact hasPg_no hlt (okPg_none hpp.symm)
            clear hL hpp
            rw [Option.isSome_none]
            go_wp2
            go_ret
            exact ⟨ret_bool E.out.symm, B3.out⟩
          | some P1 =>
            have hl := hL P1 rfl
            have ho := okPg_some (sure := su) hpp.symm
            rw [← hl] at ho
            have HO : Hid (okPg (rdS D.S D.C) su k = decide (h'.l ≤ su)) := ho
            clear hL hpp ho hl
            rw [Option.isSome_some]
            by_cases hsu : h'.l ≤ su
            · have HP2 : Hid (∀ p, p < k + 1 → okPg (rdS D.S D.C) su p = true) := fun p hp => by
                by_cases e : p = k
                · subst e; rw [HO.out, decide_eq_true hsu]
                · exact HP.out p (by omega)
              go_wp2
              go_roundw
              case rel => exact ⟨k + 1, by omega, by go_num, HP2, X3, B3⟩
              case measure => simp [intOf]; omega
            · have E : Hid (okST D h.n0 ep ln L su fn F ha = false) := by unfold Hid; rw [E2.out]; exact hasPg_no hlt (by rw [HO.out, decide_eq_false hsu])
              go_wp2
              go_ret
              exact ⟨ret_bool E.out.symm, B3.out⟩
        have hge : ¬ (k : Int) < 8 := by omega
        have E : Hid (okST D h.n0 ep ln L su fn F ha = true) := by unfold Hid; rw [E2.out]; exact hasPg_yes fun p hp => HP.out p (by omega)
        go_wp2
        go_ret
        exact ⟨ret_bool E.out.symm, B2.out⟩

end Go.Proofs.YtcokbogicbdoaaaDoor
