/-
  Right engines: the walk of the specification's EngineOK.
-/
import Derived.Test.YtfibdpfhfgnbiaaGreatDoorZzaw
import Derived.Test.YtfibdpfhfgnbiaaGreatDoorYxjq
import Derived.Test.YtfibdpfhfgnbiaaGreatDoorZzau
namespace Go.Proofs.YtfibdpfhfgnbiaaGreatDoor
open Go Go.RowKit
attribute [local go_sem ↓] Go.wp_at_zero Go.wp_at_succ

theorem okEN_no {D : DD} {n0 : Nat} {ep : Int} {ln : Nat} {Lg : List DR} {su : Int} {fn : Nat} {F : List FF} {ha : Int} {up : Bool} {T : List X.WK} {K : List L.LK} {Wt : List L.WK} {nx : Int} (h : okST D n0 ep ln Lg su fn F ha = false ∨ ¬ T.length ≤ 10 ∨ L.okLs K Wt = false ∨ inB nx 1 61 = false ∨ asT nx 1 T = false ∨ (T.all fun v => lnk Lg v.x v.f) = false ∨ (K.all fun v => isT T v.x) = false ∨ (Wt.all fun v => isT T v.x && isT T v.f) = false ∨ ¬ (ln : Int) + resT Lg T ≤ 60) : okEN D n0 ep ln Lg su fn F ha up T K Wt nx = false := by
  cases hs : okEN D n0 ep ln Lg su fn F ha up T K Wt nx
  · rfl
  exfalso
  unfold okEN at hs
  simp only [Bool.and_eq_true, decide_eq_true_eq] at hs
  obtain ⟨p0, p1, p2, p3, p4, ⟨p5, p6⟩, ⟨p7, p8⟩, p9, p10⟩ := hs
  rcases h with h | h | h | h | h | h | h | h | h
  · rw [p0] at h; cases h
  · exact h p5
  · rw [p1] at h; cases h
  · rw [inB, decide_eq_false_iff_not] at h; exact h ⟨p2, p3⟩
  · rw [p6] at h; cases h
  · rw [p9] at h; cases h
  · rw [p7] at h; cases h
  · rw [p8] at h; cases h
  · exact h p10
theorem okEN_yes {D : DD} {n0 : Nat} {ep : Int} {ln : Nat} {Lg : List DR} {su : Int} {fn : Nat} {F : List FF} {ha : Int} {up : Bool} {T : List X.WK} {K : List L.LK} {Wt : List L.WK} {nx : Int} (h0 : okST D n0 ep ln Lg su fn F ha = true) (h1 : T.length ≤ 10) (h2 : L.okLs K Wt = true) (h3 : inB nx 1 61 = true) (hu : up = true) (h4 : asT nx 1 T = true) (h5 : (T.all fun v => lnk Lg v.x v.f) = true) (h6 : (K.all fun v => isT T v.x) = true) (h7 : (Wt.all fun v => isT T v.x && isT T v.f) = true) : okEN D n0 ep ln Lg su fn F ha up T K Wt nx = decide ((ln : Int) + resT Lg T ≤ 60) := by
  have a3 := of_decide_eq_true h3
  unfold okEN
  rw [h0, decide_eq_true h1, h2, decide_eq_true a3.1, decide_eq_true a3.2, hu, h4, h5, h6, h7]
  rfl
theorem okEN_down {D : DD} {n0 : Nat} {ep : Int} {ln : Nat} {Lg : List DR} {su : Int} {fn : Nat} {F : List FF} {ha : Int} {up : Bool} {T : List X.WK} {K : List L.LK} {Wt : List L.WK} {nx : Int} (h0 : okST D n0 ep ln Lg su fn F ha = true) (h1 : T.length ≤ 10) (h2 : L.okLs K Wt = true) (h3 : inB nx 1 61 = true) (hu : up = false) : okEN D n0 ep ln Lg su fn F ha up T K Wt nx = (decide (T.length = 0) && (decide (K.length = 0) && (decide (Wt.length = 0) && decide (fn = 0)))) := by
  have a3 := of_decide_eq_true h3
  have a0 := okST_parts h0
  unfold okEN
  rw [h0, decide_eq_true h1, h2, decide_eq_true a3.1, decide_eq_true a3.2, hu]
  cases T with
  | cons v T =>
    rw [decide_eq_false (show ¬ (v :: T).length + fn = 0 by simp), decide_eq_false (show ¬ (v :: T).length = 0 by simp)]
    rfl
  | nil =>
    have e1 : asT nx 1 [] = true := rfl
    have e2 : (K.all fun v => isT [] v.x) = decide (K.length = 0) := by cases K <;> rfl
    have e3 : (Wt.all fun v => isT [] v.x && isT [] v.f) = decide (Wt.length = 0) := by cases Wt <;> rfl
    have e4 : ((ln : Int) + resT Lg [] ≤ 60) := by show (ln : Int) + ((0 : Nat) : Int) ≤ 60; omega
    rw [e1, e2, e3, decide_eq_true e4]
    simp only [List.length_nil, Nat.zero_add, List.all_nil, Bool.false_or, Bool.true_and, Bool.and_true, decide_true]
    cases decide (fn = 0) <;> cases decide (K.length = 0) <;> cases decide (Wt.length = 0) <;> rfl
theorem okLS_k {D : DR} (h : okLS D = true) : 1 ≤ D.k ∧ D.k ≤ 6 := by
  obtain ⟨ve, vl, vt, vk, vp, vn, vg, vz, vb, va⟩ := D
  by_cases hc : 1 ≤ vk ∧ vk ≤ 6
  · exact hc
  · have := ls_f1 (e := ve) (l := vl) (t := vt) (k := vk) (p := vp) (n := vn) (g := vg) (s := vz) (b := vb) (a := va) (fun q => hc q.2.2.1)
    rw [h] at this
    cases this
/-- Kinds of the records of a log. -/
def Knd (L : List DR) : Prop := ∀ i, i < L.length → (L.getD i zeroR).k ≤ 6
theorem knd_of {L : List DR} (h : inPl 0 L = true) : Knd L := fun i hi => (okLS_k ((okLS_eq _).trans (inPl_all L 0 h i hi).1)).2
/-- From a place on, or none. -/
def lk0 (L : List DR) (tx : Int) (m : Nat) : Bool := decide (m = 0) || lnk L tx (m : Int)
theorem lk0_start {L : List DR} {tx : Int} {m : Nat} (h : 0 < m) : lk0 L tx m = lnk L tx (m : Int) := by
  unfold lk0; rw [decide_eq_false (by omega)]; rfl
theorem lk0_at {L : List DR} {tx : Int} {m : Nat} (hp : Plc L) (hm : m < L.length) : lk0 L tx (m + 1) = ((decide ((L.getD m zeroR).t = tx) && decide ((L.getD m zeroR).k ≤ 3)) && ((!(decide ((L.getD m zeroR).k = 3)) || ownR L (L.getD m zeroR).n tx) && lk0 L tx (L.getD m zeroR).p.toNat)) := by
  rw [lk0_start (by omega)]
  unfold lnk
  rw [show (((m + 1 : Nat) : Int) - 1).toNat = m by omega, lkd_at hp hm]
  have ho : ownR L ((m + 1 : Nat) : Int) tx = (decide ((L.getD m zeroR).t = tx) && decide ((L.getD m zeroR).k ≤ 3)) := by
    unfold ownR
    rw [show (((m + 1 : Nat) : Int) - 1).toNat = m by omega, decide_eq_true (show (1 : Int) ≤ ((m + 1 : Nat) : Int) by omega), decide_eq_true (show ((m + 1 : Nat) : Int) ≤ (L.length : Int) by omega)]
    rfl
  rw [ho]
  have h1 := hp m hm
  have hq : (decide ((L.getD m zeroR).p = 0) || (ownR L (L.getD m zeroR).p tx && lkd L tx ((L.getD m zeroR).p - 1).toNat)) = lk0 L tx (L.getD m zeroR).p.toNat := by
    unfold lk0 lnk
    obtain ⟨j, hj⟩ := Int.eq_ofNat_of_zero_le h1.2.1
    rw [hj]
    simp
  rw [hq]
theorem all_drop {α : Type} {vs : List α} {p : α → Bool} {d : α} {k : Nat} (h : k < vs.length) : (vs.drop k).all p = (p (vs.getD k d) && (vs.drop (k + 1)).all p) := by
  rw [List.drop_eq_getElem_cons h, List.getD_eq_getElem?_getD, List.getElem?_eq_getElem h]
  rfl
set_option maxRecDepth 100000 in
set_option maxHeartbeats 16000000 in
theorem c_specEN (h : HD) (D : DD) (ep : Int) (la : Option Addr) (ln lc : Nat) (Lg : List DR) (su : Int) (fa : Option Addr) (fn fc : Nat) (F : List FF) (ha : Int) (up : Bool) (ta : Option Addr) (tc : Nat) (T : List X.WK) (k : L.HL) (K : List L.LK) (Wt : List L.WK) (nx : Int) (w : World) (r : RdE w h D la ln Lg fa fn F ta T k K Wt) (hf : FitE D ln Lg fn F T K Wt) :
    Calls Tryz.prog 14 #[.agg #[.slice h.a0 h.n0 h.c0, .slice h.a1 h.n1 h.c1, .bool h.b, .slice h.a2 h.n2 h.c2, .int .i64 ep, .slice la ln lc, .int .i64 su, .slice fa fn fc, .int .i64 ha, .bool up, .slice ta T.length tc, .slice k.a0 K.length k.c0, .slice k.a1 Wt.length k.c1, .int .i64 nx]] w fun e w' => e = .returned (.bool (okEN D h.n0 ep ln Lg su fn F ha up T K Wt nx)) ∧ Below w.heap.size w w' := by
  obtain ⟨V, hV⟩ : ∃ V, w.alloc (.cells #[.slice h.a0 h.n0 h.c0, .slice h.a1 h.n1 h.c1, .bool h.b, .slice h.a2 h.n2 h.c2, .int .i64 ep, .slice la ln lc, .int .i64 su, .slice fa fn fc, .int .i64 ha, .bool up, .slice ta T.length tc, .slice k.a0 K.length k.c0, .slice k.a1 Wt.length k.c1, .int .i64 nx] 53) = V := ⟨_, rfl⟩
  have B0 : Hid (Below w.heap.size w V) := by unfold Hid; rw [← hV]; exact (Below.refl _ _).alloc (Nat.le_refl _) _
  have X0 : Hid (Box V w.heap.size 53 #[.slice h.a0 h.n0 h.c0, .slice h.a1 h.n1 h.c1, .bool h.b, .slice h.a2 h.n2 h.c2, .int .i64 ep, .slice la ln lc, .int .i64 su, .slice fa fn fc, .int .i64 ha, .bool up, .slice ta T.length tc, .slice k.a0 K.length k.c0, .slice k.a1 Wt.length k.c1, .int .i64 nx]) := by unfold Hid; rw [← hV]; exact Box.new _ _ _
  have C1 : Hid (∀ W, Below w.heap.size w W → Calls Tryz.prog 51 #[.agg #[.slice h.a0 h.n0 h.c0, .slice h.a1 h.n1 h.c1, .bool h.b, .slice h.a2 h.n2 h.c2, .int .i64 ep, .slice la ln lc, .int .i64 su, .slice fa fn fc, .int .i64 ha]] W fun e w' => e = .returned (.bool (okST D h.n0 ep ln Lg su fn F ha)) ∧ Below W.heap.size W w') := fun W hW => c_specST h ep la ln lc su fa fn fc ha D Lg F W (r.1.below hW) hf.1.1 (r.2.1.below hW) hf.1.2.1.1 hf.1.2.1.2 (r.2.2.1.below hW) hf.1.2.2.1 hf.1.2.2.2
  have C2 : Hid (∀ W, Below w.heap.size w W → Calls Tryz.prog 52 #[.agg #[.slice k.a0 K.length k.c0, .slice k.a1 Wt.length k.c1]] W fun e w' => e = .returned (.bool (L.okLs K Wt)) ∧ Below W.heap.size W w') := fun W hW => L.c_specLO k K Wt W (r.2.2.2.2.below hW) hf.2.2.1 hf.2.2.2
  have C3 : Hid (∀ (vt vn ve vl vk vp vg vz : Int) (vb va : ByteArray) W, 0 ≤ vn → vn ≤ (ln : Int) → Below w.heap.size w W → Calls Tryz.prog 54 #[.agg #[.slice h.a0 h.n0 h.c0, .slice h.a1 h.n1 h.c1, .bool h.b, .slice h.a2 h.n2 h.c2, .int .i64 ep, .slice la ln lc, .int .i64 su, .slice fa fn fc, .int .i64 ha], .agg #[.int .i64 ve, .int .i64 vl, .int .i64 vt, .int .i64 vk, .int .i64 vp, .int .i64 vn, .int .i64 vg, .int .i64 vz, .string vb, .string va]] W fun e w' => e = .returned (.bool (ownR Lg vn vt)) ∧ Below W.heap.size W w') := fun vt vn ve vl vk vp vg vz vb va W h0 h1 hW => c_l07Back h ep la ln lc Lg su fa fn fc ha ve vl vt vk vp vn vg vz vb va W (r.2.1.below hW) hf.1.2.1.1 h0 h1
  have C4 : Hid (∀ (tx : Int) W, Below w.heap.size w W → Calls Tryz.prog 55 #[.agg #[.slice h.a0 h.n0 h.c0, .slice h.a1 h.n1 h.c1, .bool h.b, .slice h.a2 h.n2 h.c2, .int .i64 ep, .slice la ln lc, .int .i64 su, .slice fa fn fc, .int .i64 ha, .bool up, .slice ta T.length tc, .slice k.a0 K.length k.c0, .slice k.a1 Wt.length k.c1, .int .i64 nx], .int .i64 tx] W fun e w' => e = .returned (.int .i64 (ixT tx 0 T)) ∧ Below W.heap.size W w') := fun tx W hW => c_l07Tx h ep la ln lc su fa fn fc ha up ta tc T k K Wt nx tx W (r.2.2.2.1.below hW) hf.2.1
  have C5 : Hid (ln ≤ 60 → Pln Lg → T.length ≤ 10 → (∀ v ∈ T, 0 ≤ v.f ∧ v.f ≤ (ln : Int)) → ∀ W, Below w.heap.size w W → Calls Tryz.prog 56 #[.agg #[.slice h.a0 h.n0 h.c0, .slice h.a1 h.n1 h.c1, .bool h.b, .slice h.a2 h.n2 h.c2, .int .i64 ep, .slice la ln lc, .int .i64 su, .slice fa fn fc, .int .i64 ha, .bool up, .slice ta T.length tc, .slice k.a0 K.length k.c0, .slice k.a1 Wt.length k.c1, .int .i64 nx]] W fun e w' => e = .returned (.int .i64 (resT Lg T : Int)) ∧ Below W.heap.size W w') := fun h1 h2 h3 h4 W hW => c_l07Res h ep la ln lc Lg su fa fn fc ha up ta tc T k K Wt nx W (r.2.1.below hW) h1 h2 (r.2.2.2.1.below hW) h3 h4
  have RL : Hid (RdQ w la ln Lg) := r.2.1
  have RT : Hid (X.RdW w ta T.length T) := r.2.2.2.1
  have RK : Hid (L.RdL w k K Wt) := r.2.2.2.2
  have f1 : T.length ≤ 1048576 := hf.2.1
  have f2 : K.length ≤ 1048576 := hf.2.2.1
  have f3 : Wt.length ≤ 1048576 := hf.2.2.2
  have f4 : fn ≤ 1048576 := hf.1.2.2.1
  have f5 : ln ≤ 1048576 := hf.1.2.1.1
  clear r hf
  obtain ⟨x0, x1, x2, x3, x4, x5, x6, x7, x8, x9, x10, x11, x12, x13⟩ := box14 X0.out
  go_enter Tryz.func14, Tryz.ntmps14
  go_wp2_with fail
  refine (C1.out V B0.out).mono ?_
  rintro e w1 ⟨rfl, hb⟩
  have B1 : Hid (Below w.heap.size w w1) := B0.out.trans (hb.mono B0.out.size)
  have X1 : Hid (Box w1 w.heap.size 53 #[.slice h.a0 h.n0 h.c0, .slice h.a1 h.n1 h.c1, .bool h.b, .slice h.a2 h.n2 h.c2, .int .i64 ep, .slice la ln lc, .int .i64 su, .slice fa fn fc, .int .i64 ha, .bool up, .slice ta T.length tc, .slice k.a0 K.length k.c0, .slice k.a1 Wt.length k.c1, .int .i64 nx]) := X0.out.belowS hb
  clear hb X0 B0 C1 hV x0 x1 x2 x3 x4 x5 x6 x7 x8 x9 x10 x11 x12 x13
  obtain ⟨x0, x1, x2, x3, x4, x5, x6, x7, x8, x9, x10, x11, x12, x13⟩ := box14 X1.out
  cases hst : okST D h.n0 ep ln Lg su fn F ha
  case false =>
    have E : Hid (okEN D h.n0 ep ln Lg su fn F ha up T K Wt nx = false) := okEN_no (.inl hst)
    clear hst
    go_wp2
    go_ret
    exact ⟨ret_bool E.out.symm, B1.out⟩
  have KST : Hid (okST D h.n0 ep ln Lg su fn F ha = true) := hst
  clear hst
  by_cases h10 : T.length ≤ 10
  case neg =>
    have c1 : decide (10 < (T.length : Int)) = true := decide_eq_true (by omega)
    have E : Hid (okEN D h.n0 ep ln Lg su fn F ha up T K Wt nx = false) := okEN_no (.inr (.inl h10))
    go_wp2
    go_ret
    exact ⟨ret_bool E.out.symm, B1.out⟩
  have c1 : decide (10 < (T.length : Int)) = false := decide_eq_false (by omega)
  go_wp2_with fail
  refine (C2.out w1 B1.out).mono ?_
  rintro e w2 ⟨rfl, hb⟩
  have B2 : Hid (Below w.heap.size w w2) := B1.out.trans (hb.mono B1.out.size)
  have X2 : Hid (Box w2 w.heap.size 53 #[.slice h.a0 h.n0 h.c0, .slice h.a1 h.n1 h.c1, .bool h.b, .slice h.a2 h.n2 h.c2, .int .i64 ep, .slice la ln lc, .int .i64 su, .slice fa fn fc, .int .i64 ha, .bool up, .slice ta T.length tc, .slice k.a0 K.length k.c0, .slice k.a1 Wt.length k.c1, .int .i64 nx]) := X1.out.belowS hb
  clear hb X1 B1 C2 x0 x1 x2 x3 x4 x5 x6 x7 x8 x9 x10 x11 x12 x13 c1
  obtain ⟨x0, x1, x2, x3, x4, x5, x6, x7, x8, x9, x10, x11, x12, x13⟩ := box14 X2.out
  cases hlo : L.okLs K Wt
  case false =>
    have E : Hid (okEN D h.n0 ep ln Lg su fn F ha up T K Wt nx = false) := okEN_no (.inr (.inr (.inl hlo)))
    clear hlo
    go_wp2
    go_ret
    exact ⟨ret_bool E.out.symm, B2.out⟩
  have KLO : Hid (L.okLs K Wt = true) := hlo
  clear hlo
  go_wp2_with fail
  refine (c_in nx 1 61 w2).mono ?_
  rintro e w' ⟨rfl, hw⟩
  have hw' := hw.symm
  subst hw'
  clear hw
  cases hnx : inB nx 1 61
  case false =>
    have E : Hid (okEN D h.n0 ep ln Lg su fn F ha up T K Wt nx = false) := okEN_no (.inr (.inr (.inr (.inl hnx))))
    clear hnx
    go_wp2
    go_ret
    exact ⟨ret_bool E.out.symm, B2.out⟩
  have KNX : Hid (inB nx 1 61 = true) := hnx
  have hn := of_decide_eq_true hnx
  obtain ⟨n1, n2⟩ := hn
  clear hnx
  have HSP := okST_parts KST.out
  have HLN : Hid (ln ≤ 60) := HSP.1
  have HPL : Hid (Pln Lg) := pln_of HSP.2
  have HKN : Hid (Knd Lg) := knd_of HSP.2
  clear HSP
  cases up
  case false =>
    have ED : Hid (okEN D h.n0 ep ln Lg su fn F ha false T K Wt nx = (decide (T.length = 0) && (decide (K.length = 0) && (decide (Wt.length = 0) && decide (fn = 0))))) := okEN_down KST.out h10 KLO.out KNX.out rfl
    clear C3 C4 C5 RL RT RK
    by_cases z1 : T.length = 0
    case neg =>
      have c1 : ((T.length : Int) == 0) = false := beq_eq_false_iff_ne.2 (by omega)
      have c1' : decide ((T.length : Int) = 0) = false := decide_eq_false (by omega)
      have E : Hid (okEN D h.n0 ep ln Lg su fn F ha false T K Wt nx = false) := by unfold Hid; rw [ED.out, decide_eq_false z1]; rfl
      clear z1
      go_wp2
      go_ret
      exact ⟨ret_bool E.out.symm, B2.out⟩
    have c1 : ((T.length : Int) == 0) = true := beq_iff_eq.2 (by omega)
    have c1' : decide ((T.length : Int) = 0) = true := decide_eq_true (by omega)
    have Z1 : Hid (T.length = 0) := z1
    clear z1
    by_cases z2 : K.length = 0
    case neg =>
      have c2 : ((K.length : Int) == 0) = false := beq_eq_false_iff_ne.2 (by omega)
      have c2' : decide ((K.length : Int) = 0) = false := decide_eq_false (by omega)
      have E : Hid (okEN D h.n0 ep ln Lg su fn F ha false T K Wt nx = false) := by unfold Hid; rw [ED.out, decide_eq_false z2]; simp
      clear z2
      go_wp2
      go_ret
      exact ⟨ret_bool E.out.symm, B2.out⟩
    have c2 : ((K.length : Int) == 0) = true := beq_iff_eq.2 (by omega)
    have c2' : decide ((K.length : Int) = 0) = true := decide_eq_true (by omega)
    have Z2 : Hid (K.length = 0) := z2
    clear z2
    by_cases z3 : Wt.length = 0
    case neg =>
      have c3 : ((Wt.length : Int) == 0) = false := beq_eq_false_iff_ne.2 (by omega)
      have c3' : decide ((Wt.length : Int) = 0) = false := decide_eq_false (by omega)
      have E : Hid (okEN D h.n0 ep ln Lg su fn F ha false T K Wt nx = false) := by unfold Hid; rw [ED.out, decide_eq_false z3]; simp
      clear z3
      go_wp2
      go_ret
      exact ⟨ret_bool E.out.symm, B2.out⟩
    have c3 : ((Wt.length : Int) == 0) = true := beq_iff_eq.2 (by omega)
    have c3' : decide ((Wt.length : Int) = 0) = true := decide_eq_true (by omega)
    have Z3 : Hid (Wt.length = 0) := z3
    clear z3
    by_cases z4 : fn = 0
    case neg =>
      have c4 : ((fn : Int) == 0) = false := beq_eq_false_iff_ne.2 (by omega)
      have c4' : decide ((fn : Int) = 0) = false := decide_eq_false (by omega)
      have E : Hid (okEN D h.n0 ep ln Lg su fn F ha false T K Wt nx = false) := by unfold Hid; rw [ED.out, decide_eq_false z4]; simp
      clear z4
      go_wp2
      go_ret
      exact ⟨ret_bool E.out.symm, B2.out⟩
    have c4 : ((fn : Int) == 0) = true := beq_iff_eq.2 (by omega)
    have c4' : decide ((fn : Int) = 0) = true := decide_eq_true (by omega)
    have E : Hid (okEN D h.n0 ep ln Lg su fn F ha false T K Wt nx = true) := by unfold Hid; rw [ED.out, decide_eq_true Z1.out, decide_eq_true Z2.out, decide_eq_true Z3.out, decide_eq_true z4]; rfl
    clear z4
    go_wp2
    go_ret
    exact ⟨ret_bool E.out.symm, B2.out⟩
  go_wp2
  clear x0 x1 x2 x3 x4 x5 x6 x7 x8 x9 x10 x11 x12 x13
  go_loopw [3] (fun i wr => ∃ m : Nat, m ≤ T.length ∧ i = .int .i64 m ∧ Hid (∃ l : Int, 1 ≤ l ∧ ((m = 0 → l = 1) ∧ (0 < m → l = (T.getD (m - 1) X.dW).x + 1)) ∧ asT nx l (T.drop m) = asT nx 1 T) ∧ Hid (((T.drop m).all fun v => lnk Lg v.x v.f) = T.all fun v => lnk Lg v.x v.f) ∧ Hid (Box wr w.heap.size 53 #[.slice h.a0 h.n0 h.c0, .slice h.a1 h.n1 h.c1, .bool h.b, .slice h.a2 h.n2 h.c2, .int .i64 ep, .slice la ln lc, .int .i64 su, .slice fa fn fc, .int .i64 ha, .bool true, .slice ta T.length tc, .slice k.a0 K.length k.c0, .slice k.a1 Wt.length k.c1, .int .i64 nx]) ∧ Hid (Below w.heap.size w wr)) (fun i _ => T.length - (intOf i).toNat)
  case atStart => exact ⟨0, by omega, rfl, ⟨1, by omega, ⟨fun _ => rfl, fun h => absurd h (by omega)⟩, rfl⟩, rfl, X2, B2⟩
  case round =>
    as_aux_lemma =>
      clear X2 B2
      obtain ⟨m, hm, rfl, HA, HB, X2, B2⟩ := hrel
      obtain ⟨x0, x1, x2, x3, x4, x5, x6, x7, x8, x9, x10, x11, x12, x13⟩ := box14 X2.out
      by_cases hlt : m < T.length
      · obtain ⟨hl, hcs⟩ := RT.out
        obtain ⟨b, off, hta, hbl, hc⟩ := hcs (by omega)
        rw [hta] at x10
        obtain ⟨d0, d1⟩ := hc m hlt
        obtain ⟨⟨vx, vf⟩, hv⟩ : ∃ v, v = T.getD m X.dW := ⟨_, rfl⟩
        rw [← hv] at d0 d1
        dsimp only at d0 d1
        obtain ⟨l, hll, ⟨hl0, hl1⟩, hAe⟩ := HA.out
        have HAT := asT_at (nx := nx) (l := l) (vs := T) (k := m) hlt
        have HBT := all_drop (vs := T) (p := fun v => lnk Lg v.x v.f) (d := X.dW) (k := m) hlt
        rw [← hv] at HAT HBT
        dsimp only at HAT HBT
        have HA1 : Hid (asT nx 1 T = (decide (l ≤ vx) && (decide (vx < nx) && asT nx (vx + 1) (T.drop (m + 1))))) := hAe.symm.trans HAT
        have HB1 : Hid ((T.all fun v => lnk Lg v.x v.f) = (lnk Lg vx vf && (T.drop (m + 1)).all fun v => lnk Lg v.x v.f)) := HB.out.symm.trans HBT
        have HL0 : Hid (m = 0 → l = 1) := hl0
        have HL1 : Hid (0 < m → l = (T.getD (m - 1) X.dW).x + 1) := hl1
        have HV : Hid ((T.getD m X.dW).x = vx) := by unfold Hid; rw [← hv]
        have HC : Hid (∀ i, i < T.length → w.cell? ⟨b, off + i * 2, none⟩ = some (.int .i64 (T.getD i X.dW).x)) := fun i hi => (hc i hi).1
        have HBL : Hid (b < w.heap.size) := hbl
        have e0 := (B2.out.cell (p := ⟨b, off + m * 2, none⟩) hbl).trans d0
        have e1 := (B2.out.cell (p := ⟨b, off + m * 2 + 1, none⟩) hbl).trans d1
        have g1 : (0 : Int) ≤ (m : Int) := by omega
        have g2 : (m : Int) < (T.length : Int) := by omega
        obtain ⟨W, hW⟩ : ∃ W, wr.alloc (.cells #[.int .i64 vx, .int .i64 vf] 95) = W := ⟨_, rfl⟩
        have hbA : Below wr.heap.size wr W := by rw [← hW]; exact (Below.refl _ _).alloc (Nat.le_refl _) _
        have HN : Hid (Box W wr.heap.size 95 #[.int .i64 vx, .int .i64 vf]) := by unfold Hid; rw [← hW]; exact Box.new _ _ _
        have B3 : Hid (Below w.heap.size w W) := B2.out.trans (hbA.mono B2.out.size)
        have X3 : Hid (Box W w.heap.size 53 #[.slice h.a0 h.n0 h.c0, .slice h.a1 h.n1 h.c1, .bool h.b, .slice h.a2 h.n2 h.c2, .int .i64 ep, .slice la ln lc, .int .i64 su, .slice fa fn fc, .int .i64 ha, .bool true, .slice ta T.length tc, .slice k.a0 K.length k.c0, .slice k.a1 Wt.length k.c1, .int .i64 nx]) := X2.out.belowS hbA
        have ZX : Hid (∀ j v, wr.cell? ⟨w.heap.size, j, none⟩ = some v → W.cell? ⟨w.heap.size, j, none⟩ = some v) := fun j v hj => far6 hbA hj
        have u0 := ZX.out 0 _ x0
        have u1 := ZX.out 1 _ x1
        have u2 := ZX.out 2 _ x2
        have u3 := ZX.out 3 _ x3
        have u4 := ZX.out 4 _ x4
        have u5 := ZX.out 5 _ x5
        have u6 := ZX.out 6 _ x6
        have u7 := ZX.out 7 _ x7
        have u8 := ZX.out 8 _ x8
        have u9 := ZX.out 9 _ x9
        have u10 := ZX.out 10 _ x10
        have u11 := ZX.out 11 _ x11
        have u12 := ZX.out 12 _ x12
        have u13 := ZX.out 13 _ x13
        obtain ⟨y0, y1⟩ := L.box2 HN.out
        clear ZX hbA X2 B2 HA HB hc hcs hv hAe HAT HBT hl0 hl1 d0 d1 hl
        go_wp2_with fail
        clear hW x0 x1 x2 x3 x4 x5 x6 x7 x8 x9 x10 x11 x12 x13 e0 e1
        have HTA : Hid (ta = some ⟨b, off, none⟩) := hta
        clear hta
        have qu0 := fun r : Out W => q_cell u0 r
        have qu1 := fun r : Out W => q_cell u1 r
        have qu2 := fun r : Out W => q_cell u2 r
        have qu3 := fun r : Out W => q_cell u3 r
        have qu4 := fun r : Out W => q_cell u4 r
        have qu5 := fun r : Out W => q_cell u5 r
        have qu6 := fun r : Out W => q_cell u6 r
        have qu7 := fun r : Out W => q_cell u7 r
        have qu8 := fun r : Out W => q_cell u8 r
        have qu9 := fun r : Out W => q_cell u9 r
        have qu10 := fun r : Out W => q_cell u10 r
        have qu11 := fun r : Out W => q_cell u11 r
        have qu12 := fun r : Out W => q_cell u12 r
        have qu13 := fun r : Out W => q_cell u13 r
        have qy0 := fun r : Out W => q_cell y0 r
        have qy1 := fun r : Out W => q_cell y1 r
        clear u0 u1 u2 u3 u4 u5 u6 u7 u8 u9 u10 u11 u12 u13 y0 y1
        cases hI1 : inB vx 1 (nx - 1)
        case false =>
          have EA : Hid (asT nx 1 T = false) := by
            unfold Hid
            rw [HA1.out]
            rw [inB, decide_eq_false_iff_not] at hI1
            by_cases q : l ≤ vx
            · rw [decide_eq_false (show ¬ vx < nx by omega)]; simp
            · rw [decide_eq_false q]; rfl
          have E : Hid (okEN D h.n0 ep ln Lg su fn F ha true T K Wt nx = false) := okEN_no (.inr (.inr (.inr (.inr (.inl EA.out)))))
          haveI nonE := Out.some W
          refine q_begin (by kernel_rfl) (by kernel_rfl) ?_
          repeat (go_big_quiet_step (exact q_same (c_in _ _ _ _)))
          refine wpQuiet_nil ?_
          rintro w3 ⟨⟨y', hb3⟩, hy⟩
          have hy' : w3 = y' := hy
          clear hy
          subst hy'
          have B4 : Hid (Below w.heap.size w w3) := B3.out.trans (hb3.mono B3.out.size)
          clear hb3 qu0 qu1 qu2 qu3 qu4 qu5 qu6 qu7 qu8 qu9 qu10 qu11 qu12 qu13 qy0 qy1
          go_wp2
          go_ret
          exact ⟨ret_bool E.out.symm, B4.out⟩
        have hI1' := of_decide_eq_true hI1
        by_cases hm0 : m = 0
        · have HM0 : Hid (m = 0) := hm0
          have cz : decide (0 < (m : Int)) = false := decide_eq_false (by omega)
          have cz2 : decide (0 < m) = false := decide_eq_false (by omega)
          have HLE : Hid (l ≤ vx) := by unfold Hid; have := HL0.out hm0; omega
          clear hm0
          cases hI2 : inB vf 1 (ln : Int)
          case false =>
            have EB : Hid ((T.all fun v => lnk Lg v.x v.f) = false) := by
              unfold Hid
              rw [HB1.out]
              have : lnk Lg vx vf = false := by
                unfold lnk
                cases ho : ownR Lg vf vx
                · rfl
                · have := ownR_lt ho
                  rw [inB, decide_eq_false_iff_not] at hI2
                  exact absurd ⟨this.1, by have := RL.out.1; omega⟩ hI2
              rw [this]; rfl
            have E : Hid (okEN D h.n0 ep ln Lg su fn F ha true T K Wt nx = false) := okEN_no (.inr (.inr (.inr (.inr (.inr (.inl EB.out))))))
            haveI nonE := Out.some W
            refine q_begin (by kernel_rfl) (by kernel_rfl) ?_
            repeat (go_big_quiet_step (exact q_same (c_in _ _ _ _)))
            refine wpQuiet_nil ?_
            rintro w3 ⟨⟨y', hb3⟩, hy⟩
            have hy' : w3 = y' := hy
            clear hy
            subst hy'
            have B4 : Hid (Below w.heap.size w w3) := B3.out.trans (hb3.mono B3.out.size)
            clear hb3 qu0 qu1 qu2 qu3 qu4 qu5 qu6 qu7 qu8 qu9 qu10 qu11 qu12 qu13 qy0 qy1
            go_wp2
            go_ret
            exact ⟨ret_bool E.out.symm, B4.out⟩
          haveI nonE := Out.some W
          refine q_begin (by kernel_rfl) (by kernel_rfl) ?_
          repeat (go_big_quiet_step (exact q_same (c_in _ _ _ _)))
          refine wpQuiet_nil ?_
          rintro w3 ⟨⟨y', hb3⟩, hy⟩
          have hy' : w3 = y' := hy
          clear hy
          subst hy'
          have B4 : Hid (Below w.heap.size w w3) := B3.out.trans (hb3.mono B3.out.size)
          have X4 : Hid (Box w3 w.heap.size 53 #[.slice h.a0 h.n0 h.c0, .slice h.a1 h.n1 h.c1, .bool h.b, .slice h.a2 h.n2 h.c2, .int .i64 ep, .slice la ln lc, .int .i64 su, .slice fa fn fc, .int .i64 ha, .bool true, .slice ta T.length tc, .slice k.a0 K.length k.c0, .slice k.a1 Wt.length k.c1, .int .i64 nx]) := X3.out.belowS hb3
          have N4 : Hid (Box w3 wr.heap.size 95 #[.int .i64 vx, .int .i64 vf]) := HN.out.belowS hb3
          have hi2 := of_decide_eq_true hI2
          have NXT : Hid (∃ l' : Int, 1 ≤ l' ∧ ((m + 1 = 0 → l' = 1) ∧ (0 < m + 1 → l' = (T.getD (m + 1 - 1) X.dW).x + 1)) ∧ asT nx l' (T.drop (m + 1)) = asT nx 1 T) := ⟨vx + 1, by omega, ⟨fun h => absurd h (by omega), fun _ => by rw [Nat.add_sub_cancel, HV.out]⟩, by rw [HA1.out, decide_eq_true HLE.out, decide_eq_true (show vx < nx by omega)]; rfl⟩
          obtain ⟨v, rfl⟩ := Int.eq_ofNat_of_zero_le (show 0 ≤ vf by omega)
          have hv1 : v ≤ ln := by omega
          have hv0 : 0 < v := by omega
          clear hb3 qu0 qu1 qu2 qu3 qu4 qu5 qu6 qu7 qu8 qu9 qu10 qu11 qu12 qu13 qy0 qy1 X3 B3 HN hI1 hI1' hI2 hi2
          obtain ⟨y0, y1⟩ := L.box2 N4.out
          go_wp2
          clear y0 y1
          go_loopw [5] (fun l wr => ∃ q : Nat, q ≤ ln ∧ l = .int .i64 q ∧ Hid (lk0 Lg vx q = lnk Lg vx (v : Int)) ∧ Hid (Below w3.heap.size w3 wr)) (fun l _ => (intOf l).toNat)
          case atStart => exact ⟨v, hv1, rfl, lk0_start hv0, Below.refl _ _⟩
          case round =>
            as_aux_lemma =>
              obtain ⟨q, hq, rfl, HI, HQ⟩ := hrel
              have N5 : Hid (Box wr _ 95 #[.int .i64 vx, .int .i64 (v : Int)]) := N4.out.belowS HQ.out
              have X5 : Hid (Box wr w.heap.size 53 #[.slice h.a0 h.n0 h.c0, .slice h.a1 h.n1 h.c1, .bool h.b, .slice h.a2 h.n2 h.c2, .int .i64 ep, .slice la ln lc, .int .i64 su, .slice fa fn fc, .int .i64 ha, .bool true, .slice ta T.length tc, .slice k.a0 K.length k.c0, .slice k.a1 Wt.length k.c1, .int .i64 nx]) := X4.out.belowS HQ.out
              have B5 : Hid (Below w.heap.size w wr) := B4.out.trans (HQ.out.mono B4.out.size)
              obtain ⟨x0, x1, x2, x3, x4, x5, x6, x7, x8, x9, x10, x11, x12, x13⟩ := box14 X5.out
              cases q with
              | zero =>
                have HBN : Hid (((T.drop (m + 1)).all fun v => lnk Lg v.x v.f) = T.all fun v => lnk Lg v.x v.f) := by unfold Hid; rw [HB1.out, ← HI.out]; rfl
                go_wp2
                go_roundw
                case rel => exact ⟨m + 1, by omega, by go_num, NXT, HBN, X5, B5⟩
                case measure => simp [intOf]; omega
              | succ q =>
                obtain ⟨hl, hcs⟩ := RL.out
                obtain ⟨lb, lo, hla, hbl, hc⟩ := hcs (by omega)
                rw [hla] at x5
                obtain ⟨⟨ve, vl, vt, vk, vp, vn, vg, vz, vb, va⟩, hv⟩ : ∃ v, v = Lg.getD q zeroR := ⟨_, rfl⟩
                obtain ⟨d0, d1, d2, d3, d4, d5, d6, d7, d8, d9⟩ := RdQ.at hc (show q < ln by omega) hv
                dsimp only at d0 d1 d2 d3 d4 d5 d6 d7 d8 d9
                have HS := lk0_at (tx := vx) HPL.out.1 (show q < Lg.length by omega)
                have H1 := HPL.out.1 q (by omega)
                have H2 := HPL.out.2 q (by omega)
                have HK := HKN.out q (by omega)
                rw [← hv] at HS H1 H2 HK
                dsimp only at HS H1 H2 HK
                obtain ⟨hl1, p0, p1⟩ := H1
                clear hl1
                obtain ⟨n0, n1'⟩ := H2
                have HS1 : Hid (lnk Lg vx (v : Int) = ((decide (vt = vx) && decide (vk ≤ 3)) && ((!(decide (vk = 3)) || ownR Lg vn vx) && lk0 Lg vx vp.toNat))) := HI.out.symm.trans HS
                obtain ⟨vp, rfl⟩ := Int.eq_ofNat_of_zero_le p0
                have g3 : (0 : Int) ≤ (q : Int) := by omega
                have g4 : (q : Int) < (ln : Int) := by omega
                have e0 := (B5.out.cell (p := ⟨lb, lo + q * 10, none⟩) hbl).trans d0
                have e1 := (B5.out.cell (p := ⟨lb, lo + q * 10 + 1, none⟩) hbl).trans d1
                have e2 := (B5.out.cell (p := ⟨lb, lo + q * 10 + 2, none⟩) hbl).trans d2
                have e3 := (B5.out.cell (p := ⟨lb, lo + q * 10 + 3, none⟩) hbl).trans d3
                have e4 := (B5.out.cell (p := ⟨lb, lo + q * 10 + 4, none⟩) hbl).trans d4
                have e5 := (B5.out.cell (p := ⟨lb, lo + q * 10 + 5, none⟩) hbl).trans d5
                have e6 := (B5.out.cell (p := ⟨lb, lo + q * 10 + 6, none⟩) hbl).trans d6
                have e7 := (B5.out.cell (p := ⟨lb, lo + q * 10 + 7, none⟩) hbl).trans d7
                have e8 := (B5.out.cell (p := ⟨lb, lo + q * 10 + 8, none⟩) hbl).trans d8
                have e9 := (B5.out.cell (p := ⟨lb, lo + q * 10 + 9, none⟩) hbl).trans d9
                obtain ⟨W5, hW5⟩ : ∃ W, wr.alloc (.cells #[.int .i64 ve, .int .i64 vl, .int .i64 vt, .int .i64 vk, .int .i64 (vp : Int), .int .i64 vn, .int .i64 vg, .int .i64 vz, .string vb, .string va] 78) = W := ⟨_, rfl⟩
                have hbA : Below wr.heap.size wr W5 := by rw [← hW5]; exact (Below.refl _ _).alloc (Nat.le_refl _) _
                have HR : Hid (Box W5 wr.heap.size 78 #[.int .i64 ve, .int .i64 vl, .int .i64 vt, .int .i64 vk, .int .i64 (vp : Int), .int .i64 vn, .int .i64 vg, .int .i64 vz, .string vb, .string va]) := by unfold Hid; rw [← hW5]; exact Box.new _ _ _
                have N6 : Hid (Box W5 _ 95 #[.int .i64 vx, .int .i64 (v : Int)]) := N5.out.belowS hbA
                have X6 : Hid (Box W5 w.heap.size 53 #[.slice h.a0 h.n0 h.c0, .slice h.a1 h.n1 h.c1, .bool h.b, .slice h.a2 h.n2 h.c2, .int .i64 ep, .slice la ln lc, .int .i64 su, .slice fa fn fc, .int .i64 ha, .bool true, .slice ta T.length tc, .slice k.a0 K.length k.c0, .slice k.a1 Wt.length k.c1, .int .i64 nx]) := X5.out.belowS hbA
                have B6 : Hid (Below w.heap.size w W5) := B5.out.trans (hbA.mono B5.out.size)
                have Q6 : Hid (Below w3.heap.size w3 W5) := HQ.out.trans (hbA.mono HQ.out.size)
                have a4 : W5.cell? ⟨lb, lo + q * 10 + 4, none⟩ = some (.int .i64 (vp : Int)) := (B6.out.cell (p := ⟨lb, lo + q * 10 + 4, none⟩) hbl).trans d4
                have HBL : Hid (lb < w.heap.size) := hbl
                have HD4 : Hid (w.cell? ⟨lb, lo + q * 10 + 4, none⟩ = some (.int .i64 (vp : Int))) := d4
                clear hc hcs hv HS d0 d1 d2 d3 d4 d5 d6 d7 d8 d9 hbA X5 B5 N5 HQ HI hl
                obtain ⟨y0, y1, y2, y3, y4, y5, y6, y7, y8, y9⟩ := box10 HR.out
                obtain ⟨z0, z1⟩ := L.box2 N6.out
                have XL : Hid (la = some ⟨lb, lo, none⟩) := hla
                obtain ⟨o0, o1, o2, o3, o4, o5, o6, o7, o8, o9, o10, o11, o12, o13⟩ := box14 X6.out
                rw [hla] at o5
                clear hla
                by_cases ht : vt = vx
                case neg =>
                  have ct : (vt != vx) = true := by simpa using ht
                  have ct2 : decide (vt = vx) = false := decide_eq_false ht
                  have ct3 : (vt = vx) = False := eq_false ht
                  have EL : lnk Lg vx (v : Int) = false := by rw [HS1.out, decide_eq_false ht]; rfl
                  have EB : Hid ((T.all fun v => lnk Lg v.x v.f) = false) := by unfold Hid; rw [HB1.out, EL]; rfl
                  have E : Hid (okEN D h.n0 ep ln Lg su fn F ha true T K Wt nx = false) := okEN_no (.inr (.inr (.inr (.inr (.inr (.inl EB.out))))))
                  clear EL
                  clear ht
                  go_wp2
                  go_ret
                  exact ⟨ret_bool E.out.symm, B6.out⟩
                have ct : (vt != vx) = false := by simpa using ht
                have ct3 : (vt = vx) = True := eq_true ht
                have HT : Hid (vt = vx) := ht
                clear ht
                by_cases hk4 : vk = 4
                case pos =>
                  have EL : lnk Lg vx (v : Int) = false := by rw [HS1.out, decide_eq_false (show ¬ vk ≤ 3 by omega)]; simp
                  have EB : Hid ((T.all fun v => lnk Lg v.x v.f) = false) := by unfold Hid; rw [HB1.out, EL]; rfl
                  have E : Hid (okEN D h.n0 ep ln Lg su fn F ha true T K Wt nx = false) := okEN_no (.inr (.inr (.inr (.inr (.inr (.inl EB.out))))))
                  clear EL
                  subst hk4
                  go_wp2
                  go_ret
                  exact ⟨ret_bool E.out.symm, B6.out⟩
                have ck4 : (vk == 4) = false := by simpa using hk4
                by_cases hk5 : vk = 5
                case pos =>
                  have EL : lnk Lg vx (v : Int) = false := by rw [HS1.out, decide_eq_false (show ¬ vk ≤ 3 by omega)]; simp
                  have EB : Hid ((T.all fun v => lnk Lg v.x v.f) = false) := by unfold Hid; rw [HB1.out, EL]; rfl
                  have E : Hid (okEN D h.n0 ep ln Lg su fn F ha true T K Wt nx = false) := okEN_no (.inr (.inr (.inr (.inr (.inr (.inl EB.out))))))
                  clear EL
                  clear ck4
                  subst hk5
                  go_wp2
                  go_ret
                  exact ⟨ret_bool E.out.symm, B6.out⟩
                have ck5 : (vk == 5) = false := by simpa using hk5
                by_cases hk6 : vk = 6
                case pos =>
                  have EL : lnk Lg vx (v : Int) = false := by rw [HS1.out, decide_eq_false (show ¬ vk ≤ 3 by omega)]; simp
                  have EB : Hid ((T.all fun v => lnk Lg v.x v.f) = false) := by unfold Hid; rw [HB1.out, EL]; rfl
                  have E : Hid (okEN D h.n0 ep ln Lg su fn F ha true T K Wt nx = false) := okEN_no (.inr (.inr (.inr (.inr (.inr (.inl EB.out))))))
                  clear EL
                  clear ck4
                  clear ck5
                  subst hk6
                  go_wp2
                  go_ret
                  exact ⟨ret_bool E.out.symm, B6.out⟩
                have ck6 : (vk == 6) = false := by simpa using hk6
                by_cases hk3 : vk = 3
                case pos =>
                  have CB := C3.out vt vn ve vl vk (vp : Int) vg vz vb va W5 n0 (by omega) B6.out
                  have HS2 : Hid (lnk Lg vx (v : Int) = (ownR Lg vn vt && lk0 Lg vx vp)) := by unfold Hid; rw [HS1.out, decide_eq_true HT.out, decide_eq_true (show vk ≤ 3 by omega), decide_eq_true hk3, HT.out]; simp
                  clear ck4 ck5 ck6 hk4 hk5 hk6 HK HS1
                  subst hk3
                  obtain ⟨o, ho⟩ : ∃ o, ownR Lg vn vt = o := ⟨_, rfl⟩
                  rw [ho, XL.out] at CB
                  have HO : Hid (ownR Lg vn vt = o) := ho
                  clear ho
                  go_wp2_with fail
                  refine CB.mono ?_
                  rintro e w7 ⟨rfl, hb7⟩
                  have B7 : Hid (Below w.heap.size w w7) := B6.out.trans (hb7.mono B6.out.size)
                  have X7 : Hid (Box w7 w.heap.size 53 #[.slice h.a0 h.n0 h.c0, .slice h.a1 h.n1 h.c1, .bool h.b, .slice h.a2 h.n2 h.c2, .int .i64 ep, .slice la ln lc, .int .i64 su, .slice fa fn fc, .int .i64 ha, .bool true, .slice ta T.length tc, .slice k.a0 K.length k.c0, .slice k.a1 Wt.length k.c1, .int .i64 nx]) := X6.out.belowS hb7
                  have Q7 : Hid (Below w3.heap.size w3 w7) := Q6.out.trans (hb7.mono Q6.out.size)
                  have a7 := (B7.out.cell (p := ⟨lb, lo + q * 10 + 4, none⟩) HBL.out).trans HD4.out
                  clear hb7 CB B6 X6 Q6 N6 HR hW5 x0 x1 x2 x3 x4 x5 x6 x7 x8 x9 x10 x11 x12 x13 o0 o1 o2 o3 o4 o5 o6 o7 o8 o9 o10 o11 o12 o13 y0 y1 y2 y3 y4 y5 y6 y7 y8 y9 e0 e1 e2 e3 e4 e5 e6 e7 e8 e9 z0 z1 a4
                  have o5 : w7.cell? ⟨w.heap.size, 5, none⟩ = some (.slice (some ⟨lb, lo, none⟩) ln lc) := by rw [← XL.out]; exact X7.out.cell 5
                  cases o
                  · have EL : lnk Lg vx (v : Int) = false := by rw [HS2.out, HO.out]; rfl
                    have EB : Hid ((T.all fun v => lnk Lg v.x v.f) = false) := by unfold Hid; rw [HB1.out, EL]; rfl
                    have E : Hid (okEN D h.n0 ep ln Lg su fn F ha true T K Wt nx = false) := okEN_no (.inr (.inr (.inr (.inr (.inr (.inl EB.out))))))
                    clear EL
                    go_wp2
                    go_ret
                    exact ⟨ret_bool E.out.symm, B7.out⟩
                  · have HN2 : Hid (lk0 Lg vx vp = lnk Lg vx (v : Int)) := by unfold Hid; rw [HS2.out, HO.out]; rfl
                    go_wp2
                    go_roundw
                    case rel => exact ⟨vp, by omega, rfl, HN2, Q7⟩
                    case measure => simp [intOf]; omega
                have ck3 : (vk == 3) = false := by simpa using hk3
                have HN2 : Hid (lk0 Lg vx vp = lnk Lg vx (v : Int)) := by unfold Hid; rw [HS1.out, decide_eq_true HT.out, decide_eq_true (show vk ≤ 3 by omega), decide_eq_false hk3]; simp
                go_wp2
                go_roundw
                case rel => exact ⟨vp, by omega, rfl, HN2, Q6⟩
                case measure => simp [intOf]; omega
        · obtain ⟨j, rfl⟩ : ∃ j, m = j + 1 := ⟨m - 1, by omega⟩
          have p0 : W.cell? ⟨b, off + j * 2, none⟩ = some (.int .i64 (T.getD j X.dW).x) := (B3.out.cell (p := ⟨b, off + j * 2, none⟩) HBL.out).trans (HC.out j (by omega))
          obtain ⟨px, hpx⟩ : ∃ z, z = (T.getD j X.dW).x := ⟨_, rfl⟩
          rw [← hpx] at p0
          have HPX : Hid (l = px + 1) := by unfold Hid; rw [hpx]; have := HL1.out (by omega); rwa [Nat.add_sub_cancel] at this
          have cz : decide (0 < (j : Int) + 1) = true := decide_eq_true (by omega)
          have cz2 : decide (0 < j + 1) = true := decide_eq_true (by omega)
          have g3 : (0 : Int) ≤ (j : Int) := by omega
          have g4 : (j : Int) < (T.length : Int) := by omega
          have qp := fun r : Out W => q_cell p0 r
          clear hm0 hpx p0
          by_cases hp : vx ≤ px
          case pos =>
            have cp : decide (vx ≤ px) = true := decide_eq_true hp
            have EA : Hid (asT nx 1 T = false) := by unfold Hid; rw [HA1.out, decide_eq_false (show ¬ l ≤ vx by have := HPX.out; omega)]; rfl
            have E : Hid (okEN D h.n0 ep ln Lg su fn F ha true T K Wt nx = false) := okEN_no (.inr (.inr (.inr (.inr (.inl EA.out)))))
            haveI nonE := Out.some W
            refine q_begin (by kernel_rfl) (by kernel_rfl) ?_
            repeat (go_big_quiet_step (exact q_same (c_in _ _ _ _)))
            refine wpQuiet_nil ?_
            rintro w3 ⟨⟨y', hb3⟩, hy⟩
            have hy' : w3 = y' := hy
            clear hy
            subst hy'
            have B4 : Hid (Below w.heap.size w w3) := B3.out.trans (hb3.mono B3.out.size)
            clear hb3 qu0 qu1 qu2 qu3 qu4 qu5 qu6 qu7 qu8 qu9 qu10 qu11 qu12 qu13 qy0 qy1
            go_wp2
            go_ret
            exact ⟨ret_bool E.out.symm, B4.out⟩
          have cp : decide (vx ≤ px) = false := decide_eq_false hp
          have HLE : Hid (l ≤ vx) := by unfold Hid; have := HPX.out; omega
          cases hI2 : inB vf 1 (ln : Int)
          case false =>
            have EB : Hid ((T.all fun v => lnk Lg v.x v.f) = false) := by
              unfold Hid
              rw [HB1.out]
              have : lnk Lg vx vf = false := by
                unfold lnk
                cases ho : ownR Lg vf vx
                · rfl
                · have := ownR_lt ho
                  rw [inB, decide_eq_false_iff_not] at hI2
                  exact absurd ⟨this.1, by have := RL.out.1; omega⟩ hI2
              rw [this]; rfl
            have E : Hid (okEN D h.n0 ep ln Lg su fn F ha true T K Wt nx = false) := okEN_no (.inr (.inr (.inr (.inr (.inr (.inl EB.out))))))
            haveI nonE := Out.some W
            refine q_begin (by kernel_rfl) (by kernel_rfl) ?_
            repeat (go_big_quiet_step (exact q_same (c_in _ _ _ _)))
            refine wpQuiet_nil ?_
            rintro w3 ⟨⟨y', hb3⟩, hy⟩
            have hy' : w3 = y' := hy
            clear hy
            subst hy'
            have B4 : Hid (Below w.heap.size w w3) := B3.out.trans (hb3.mono B3.out.size)
            clear hb3 qu0 qu1 qu2 qu3 qu4 qu5 qu6 qu7 qu8 qu9 qu10 qu11 qu12 qu13 qy0 qy1
            go_wp2
            go_ret
            exact ⟨ret_bool E.out.symm, B4.out⟩
          haveI nonE := Out.some W
          refine q_begin (by kernel_rfl) (by kernel_rfl) ?_
          repeat (go_big_quiet_step (exact q_same (c_in _ _ _ _)))
          refine wpQuiet_nil ?_
          rintro w3 ⟨⟨y', hb3⟩, hy⟩
          have hy' : w3 = y' := hy
          clear hy
          subst hy'
          have B4 : Hid (Below w.heap.size w w3) := B3.out.trans (hb3.mono B3.out.size)
          have X4 : Hid (Box w3 w.heap.size 53 #[.slice h.a0 h.n0 h.c0, .slice h.a1 h.n1 h.c1, .bool h.b, .slice h.a2 h.n2 h.c2, .int .i64 ep, .slice la ln lc, .int .i64 su, .slice fa fn fc, .int .i64 ha, .bool true, .slice ta T.length tc, .slice k.a0 K.length k.c0, .slice k.a1 Wt.length k.c1, .int .i64 nx]) := X3.out.belowS hb3
          have N4 : Hid (Box w3 wr.heap.size 95 #[.int .i64 vx, .int .i64 vf]) := HN.out.belowS hb3
          have hi2 := of_decide_eq_true hI2
          have NXT : Hid (∃ l' : Int, 1 ≤ l' ∧ ((j + 1 + 1 = 0 → l' = 1) ∧ (0 < j + 1 + 1 → l' = (T.getD (j + 1 + 1 - 1) X.dW).x + 1)) ∧ asT nx l' (T.drop (j + 1 + 1)) = asT nx 1 T) := ⟨vx + 1, by omega, ⟨fun h => absurd h (by omega), fun _ => by rw [Nat.add_sub_cancel, HV.out]⟩, by rw [HA1.out, decide_eq_true HLE.out, decide_eq_true (show vx < nx by omega)]; rfl⟩
          obtain ⟨v, rfl⟩ := Int.eq_ofNat_of_zero_le (show 0 ≤ vf by omega)
          have hv1 : v ≤ ln := by omega
          have hv0 : 0 < v := by omega
          clear hb3 qu0 qu1 qu2 qu3 qu4 qu5 qu6 qu7 qu8 qu9 qu10 qu11 qu12 qu13 qy0 qy1 X3 B3 HN hI1 hI1' hI2 hi2
          obtain ⟨y0, y1⟩ := L.box2 N4.out
          go_wp2
          clear y0 y1
          go_loopw [5] (fun l wr => ∃ q : Nat, q ≤ ln ∧ l = .int .i64 q ∧ Hid (lk0 Lg vx q = lnk Lg vx (v : Int)) ∧ Hid (Below w3.heap.size w3 wr)) (fun l _ => (intOf l).toNat)
          case atStart => exact ⟨v, hv1, rfl, lk0_start hv0, Below.refl _ _⟩
          case round =>
            as_aux_lemma =>
              obtain ⟨q, hq, rfl, HI, HQ⟩ := hrel
              have N5 : Hid (Box wr _ 95 #[.int .i64 vx, .int .i64 (v : Int)]) := N4.out.belowS HQ.out
              have X5 : Hid (Box wr w.heap.size 53 #[.slice h.a0 h.n0 h.c0, .slice h.a1 h.n1 h.c1, .bool h.b, .slice h.a2 h.n2 h.c2, .int .i64 ep, .slice la ln lc, .int .i64 su, .slice fa fn fc, .int .i64 ha, .bool true, .slice ta T.length tc, .slice k.a0 K.length k.c0, .slice k.a1 Wt.length k.c1, .int .i64 nx]) := X4.out.belowS HQ.out
              have B5 : Hid (Below w.heap.size w wr) := B4.out.trans (HQ.out.mono B4.out.size)
              obtain ⟨x0, x1, x2, x3, x4, x5, x6, x7, x8, x9, x10, x11, x12, x13⟩ := box14 X5.out
              cases q with
              | zero =>
                have HBN : Hid (((T.drop (j + 1 + 1)).all fun v => lnk Lg v.x v.f) = T.all fun v => lnk Lg v.x v.f) := by unfold Hid; rw [HB1.out, ← HI.out]; rfl
                go_wp2
                go_roundw
                case rel => exact ⟨j + 1 + 1, by omega, by go_num, NXT, HBN, X5, B5⟩
                case measure => simp [intOf]; omega
              | succ q =>
                obtain ⟨hl, hcs⟩ := RL.out
                obtain ⟨lb, lo, hla, hbl, hc⟩ := hcs (by omega)
                rw [hla] at x5
                obtain ⟨⟨ve, vl, vt, vk, vp, vn, vg, vz, vb, va⟩, hv⟩ : ∃ v, v = Lg.getD q zeroR := ⟨_, rfl⟩
                obtain ⟨d0, d1, d2, d3, d4, d5, d6, d7, d8, d9⟩ := RdQ.at hc (show q < ln by omega) hv
                dsimp only at d0 d1 d2 d3 d4 d5 d6 d7 d8 d9
                have HS := lk0_at (tx := vx) HPL.out.1 (show q < Lg.length by omega)
                have H1 := HPL.out.1 q (by omega)
                have H2 := HPL.out.2 q (by omega)
                have HK := HKN.out q (by omega)
                rw [← hv] at HS H1 H2 HK
                dsimp only at HS H1 H2 HK
                obtain ⟨hl1, p0, p1⟩ := H1
                clear hl1
                obtain ⟨n0, n1'⟩ := H2
                have HS1 : Hid (lnk Lg vx (v : Int) = ((decide (vt = vx) && decide (vk ≤ 3)) && ((!(decide (vk = 3)) || ownR Lg vn vx) && lk0 Lg vx vp.toNat))) := HI.out.symm.trans HS
                obtain ⟨vp, rfl⟩ := Int.eq_ofNat_of_zero_le p0
                have g3 : (0 : Int) ≤ (q : Int) := by omega
                have g4 : (q : Int) < (ln : Int) := by omega
                have e0 := (B5.out.cell (p := ⟨lb, lo + q * 10, none⟩) hbl).trans d0
                have e1 := (B5.out.cell (p := ⟨lb, lo + q * 10 + 1, none⟩) hbl).trans d1
                have e2 := (B5.out.cell (p := ⟨lb, lo + q * 10 + 2, none⟩) hbl).trans d2
                have e3 := (B5.out.cell (p := ⟨lb, lo + q * 10 + 3, none⟩) hbl).trans d3
                have e4 := (B5.out.cell (p := ⟨lb, lo + q * 10 + 4, none⟩) hbl).trans d4
                have e5 := (B5.out.cell (p := ⟨lb, lo + q * 10 + 5, none⟩) hbl).trans d5
                have e6 := (B5.out.cell (p := ⟨lb, lo + q * 10 + 6, none⟩) hbl).trans d6
                have e7 := (B5.out.cell (p := ⟨lb, lo + q * 10 + 7, none⟩) hbl).trans d7
                have e8 := (B5.out.cell (p := ⟨lb, lo + q * 10 + 8, none⟩) hbl).trans d8
                have e9 := (B5.out.cell (p := ⟨lb, lo + q * 10 + 9, none⟩) hbl).trans d9
                obtain ⟨W5, hW5⟩ : ∃ W, wr.alloc (.cells #[.int .i64 ve, .int .i64 vl, .int .i64 vt, .int .i64 vk, .int .i64 (vp : Int), .int .i64 vn, .int .i64 vg, .int .i64 vz, .string vb, .string va] 78) = W := ⟨_, rfl⟩
                have hbA : Below wr.heap.size wr W5 := by rw [← hW5]; exact (Below.refl _ _).alloc (Nat.le_refl _) _
                have HR : Hid (Box W5 wr.heap.size 78 #[.int .i64 ve, .int .i64 vl, .int .i64 vt, .int .i64 vk, .int .i64 (vp : Int), .int .i64 vn, .int .i64 vg, .int .i64 vz, .string vb, .string va]) := by unfold Hid; rw [← hW5]; exact Box.new _ _ _
                have N6 : Hid (Box W5 _ 95 #[.int .i64 vx, .int .i64 (v : Int)]) := N5.out.belowS hbA
                have X6 : Hid (Box W5 w.heap.size 53 #[.slice h.a0 h.n0 h.c0, .slice h.a1 h.n1 h.c1, .bool h.b, .slice h.a2 h.n2 h.c2, .int .i64 ep, .slice la ln lc, .int .i64 su, .slice fa fn fc, .int .i64 ha, .bool true, .slice ta T.length tc, .slice k.a0 K.length k.c0, .slice k.a1 Wt.length k.c1, .int .i64 nx]) := X5.out.belowS hbA
                have B6 : Hid (Below w.heap.size w W5) := B5.out.trans (hbA.mono B5.out.size)
                have Q6 : Hid (Below w3.heap.size w3 W5) := HQ.out.trans (hbA.mono HQ.out.size)
                have a4 : W5.cell? ⟨lb, lo + q * 10 + 4, none⟩ = some (.int .i64 (vp : Int)) := (B6.out.cell (p := ⟨lb, lo + q * 10 + 4, none⟩) hbl).trans d4
                have HBL : Hid (lb < w.heap.size) := hbl
                have HD4 : Hid (w.cell? ⟨lb, lo + q * 10 + 4, none⟩ = some (.int .i64 (vp : Int))) := d4
                clear hc hcs hv HS d0 d1 d2 d3 d4 d5 d6 d7 d8 d9 hbA X5 B5 N5 HQ HI hl
                obtain ⟨y0, y1, y2, y3, y4, y5, y6, y7, y8, y9⟩ := box10 HR.out
                obtain ⟨z0, z1⟩ := L.box2 N6.out
                have XL : Hid (la = some ⟨lb, lo, none⟩) := hla
                obtain ⟨o0, o1, o2, o3, o4, o5, o6, o7, o8, o9, o10, o11, o12, o13⟩ := box14 X6.out
                rw [hla] at o5
                clear hla
                by_cases ht : vt = vx
                case neg =>
                  have ct : (vt != vx) = true := by simpa using ht
                  have ct2 : decide (vt = vx) = false := decide_eq_false ht
                  have ct3 : (vt = vx) = False := eq_false ht
                  have EL : lnk Lg vx (v : Int) = false := by rw [HS1.out, decide_eq_false ht]; rfl
                  have EB : Hid ((T.all fun v => lnk Lg v.x v.f) = false) := by unfold Hid; rw [HB1.out, EL]; rfl
                  have E : Hid (okEN D h.n0 ep ln Lg su fn F ha true T K Wt nx = false) := okEN_no (.inr (.inr (.inr (.inr (.inr (.inl EB.out))))))
                  clear EL
                  clear ht
                  go_wp2
                  go_ret
                  exact ⟨ret_bool E.out.symm, B6.out⟩
                have ct : (vt != vx) = false := by simpa using ht
                have ct3 : (vt = vx) = True := eq_true ht
                have HT : Hid (vt = vx) := ht
                clear ht
                by_cases hk4 : vk = 4
                case pos =>
                  have EL : lnk Lg vx (v : Int) = false := by rw [HS1.out, decide_eq_false (show ¬ vk ≤ 3 by omega)]; simp
                  have EB : Hid ((T.all fun v => lnk Lg v.x v.f) = false) := by unfold Hid; rw [HB1.out, EL]; rfl
                  have E : Hid (okEN D h.n0 ep ln Lg su fn F ha true T K Wt nx = false) := okEN_no (.inr (.inr (.inr (.inr (.inr (.inl EB.out))))))
                  clear EL
                  subst hk4
                  go_wp2
                  go_ret
                  exact ⟨ret_bool E.out.symm, B6.out⟩
                have ck4 : (vk == 4) = false := by simpa using hk4
                by_cases hk5 : vk = 5
                case pos =>
                  have EL : lnk Lg vx (v : Int) = false := by rw [HS1.out, decide_eq_false (show ¬ vk ≤ 3 by omega)]; simp
                  have EB : Hid ((T.all fun v => lnk Lg v.x v.f) = false) := by unfold Hid; rw [HB1.out, EL]; rfl
                  have E : Hid (okEN D h.n0 ep ln Lg su fn F ha true T K Wt nx = false) := okEN_no (.inr (.inr (.inr (.inr (.inr (.inl EB.out))))))
                  clear EL
                  clear ck4
                  subst hk5
                  go_wp2
                  go_ret
                  exact ⟨ret_bool E.out.symm, B6.out⟩
                have ck5 : (vk == 5) = false := by simpa using hk5
                by_cases hk6 : vk = 6
                case pos =>
                  have EL : lnk Lg vx (v : Int) = false := by rw [HS1.out, decide_eq_false (show ¬ vk ≤ 3 by omega)]; simp
                  have EB : Hid ((T.all fun v => lnk Lg v.x v.f) = false) := by unfold Hid; rw [HB1.out, EL]; rfl
                  have E : Hid (okEN D h.n0 ep ln Lg su fn F ha true T K Wt nx = false) := okEN_no (.inr (.inr (.inr (.inr (.inr (.inl EB.out))))))
                  clear EL
                  clear ck4
                  clear ck5
                  subst hk6
                  go_wp2
                  go_ret
                  exact ⟨ret_bool E.out.symm, B6.out⟩
                have ck6 : (vk == 6) = false := by simpa using hk6
                by_cases hk3 : vk = 3
                case pos =>
                  have CB := C3.out vt vn ve vl vk (vp : Int) vg vz vb va W5 n0 (by omega) B6.out
                  have HS2 : Hid (lnk Lg vx (v : Int) = (ownR Lg vn vt && lk0 Lg vx vp)) := by unfold Hid; rw [HS1.out, decide_eq_true HT.out, decide_eq_true (show vk ≤ 3 by omega), decide_eq_true hk3, HT.out]; simp
                  clear ck4 ck5 ck6 hk4 hk5 hk6 HK HS1
                  subst hk3
                  obtain ⟨o, ho⟩ : ∃ o, ownR Lg vn vt = o := ⟨_, rfl⟩
                  rw [ho, XL.out] at CB
                  have HO : Hid (ownR Lg vn vt = o) := ho
                  clear ho
                  go_wp2_with fail
                  refine CB.mono ?_
                  rintro e w7 ⟨rfl, hb7⟩
                  have B7 : Hid (Below w.heap.size w w7) := B6.out.trans (hb7.mono B6.out.size)
                  have X7 : Hid (Box w7 w.heap.size 53 #[.slice h.a0 h.n0 h.c0, .slice h.a1 h.n1 h.c1, .bool h.b, .slice h.a2 h.n2 h.c2, .int .i64 ep, .slice la ln lc, .int .i64 su, .slice fa fn fc, .int .i64 ha, .bool true, .slice ta T.length tc, .slice k.a0 K.length k.c0, .slice k.a1 Wt.length k.c1, .int .i64 nx]) := X6.out.belowS hb7
                  have Q7 : Hid (Below w3.heap.size w3 w7) := Q6.out.trans (hb7.mono Q6.out.size)
                  have a7 := (B7.out.cell (p := ⟨lb, lo + q * 10 + 4, none⟩) HBL.out).trans HD4.out
                  clear hb7 CB B6 X6 Q6 N6 HR hW5 x0 x1 x2 x3 x4 x5 x6 x7 x8 x9 x10 x11 x12 x13 o0 o1 o2 o3 o4 o5 o6 o7 o8 o9 o10 o11 o12 o13 y0 y1 y2 y3 y4 y5 y6 y7 y8 y9 e0 e1 e2 e3 e4 e5 e6 e7 e8 e9 z0 z1 a4
                  have o5 : w7.cell? ⟨w.heap.size, 5, none⟩ = some (.slice (some ⟨lb, lo, none⟩) ln lc) := by rw [← XL.out]; exact X7.out.cell 5
                  cases o
                  · have EL : lnk Lg vx (v : Int) = false := by rw [HS2.out, HO.out]; rfl
                    have EB : Hid ((T.all fun v => lnk Lg v.x v.f) = false) := by unfold Hid; rw [HB1.out, EL]; rfl
                    have E : Hid (okEN D h.n0 ep ln Lg su fn F ha true T K Wt nx = false) := okEN_no (.inr (.inr (.inr (.inr (.inr (.inl EB.out))))))
                    clear EL
                    go_wp2
                    go_ret
                    exact ⟨ret_bool E.out.symm, B7.out⟩
                  · have HN2 : Hid (lk0 Lg vx vp = lnk Lg vx (v : Int)) := by unfold Hid; rw [HS2.out, HO.out]; rfl
                    go_wp2
                    go_roundw
                    case rel => exact ⟨vp, by omega, rfl, HN2, Q7⟩
                    case measure => simp [intOf]; omega
                have ck3 : (vk == 3) = false := by simpa using hk3
                have HN2 : Hid (lk0 Lg vx vp = lnk Lg vx (v : Int)) := by unfold Hid; rw [HS1.out, decide_eq_true HT.out, decide_eq_true (show vk ≤ 3 by omega), decide_eq_false hk3]; simp
                go_wp2
                go_roundw
                case rel => exact ⟨vp, by omega, rfl, HN2, Q6⟩
                case measure => simp [intOf]; omega
      have hge : ¬ (m : Int) < (T.length : Int) := by omega
      have EA : Hid (asT nx 1 T = true) := by
        unfold Hid
        obtain ⟨l, _, _, hA⟩ := HA.out
        rw [← hA, List.drop_eq_nil_of_le (by omega)]; rfl
      have EB : Hid ((T.all fun v => lnk Lg v.x v.f) = true) := by unfold Hid; rw [← HB.out, List.drop_eq_nil_of_le (by omega)]; rfl
      clear HA HB C3
      go_wp2
      clear hge hlt x0 x1 x2 x3 x4 x5 x6 x7 x8 x9 x10 x11 x12 x13
      go_loopw [7] (fun i wr => ∃ m : Nat, m ≤ K.length ∧ i = .int .i64 m ∧ Hid (((K.drop m).all fun v => isT T v.x) = K.all fun v => isT T v.x) ∧ Hid (Box wr w.heap.size 53 #[.slice h.a0 h.n0 h.c0, .slice h.a1 h.n1 h.c1, .bool h.b, .slice h.a2 h.n2 h.c2, .int .i64 ep, .slice la ln lc, .int .i64 su, .slice fa fn fc, .int .i64 ha, .bool true, .slice ta T.length tc, .slice k.a0 K.length k.c0, .slice k.a1 Wt.length k.c1, .int .i64 nx]) ∧ Hid (Below w.heap.size w wr)) (fun i _ => K.length - (intOf i).toNat)
      case atStart => exact ⟨0, by omega, rfl, rfl, X2, B2⟩
      case round =>
        as_aux_lemma =>
          clear X2 B2
          obtain ⟨m, hm, rfl, HB, X2, B2⟩ := hrel
          obtain ⟨x0, x1, x2, x3, x4, x5, x6, x7, x8, x9, x10, x11, x12, x13⟩ := box14 X2.out
          by_cases hlt : m < K.length
          · obtain ⟨hl, hcs⟩ := RK.out.1
            obtain ⟨b, off, hka, hbl, hc⟩ := hcs (by omega)
            rw [hka] at x11
            have d0 := (hc m hlt).1
            have HBT := all_drop (vs := K) (p := fun v => isT T v.x) (d := L.dK) (k := m) hlt
            obtain ⟨vx, hv⟩ : ∃ v, v = (K.getD m L.dK).x := ⟨_, rfl⟩
            rw [← hv] at d0 HBT
            have e0 := (B2.out.cell (p := ⟨b, off + m * 4, none⟩) hbl).trans d0
            have HB1 : Hid ((K.all fun v => isT T v.x) = (isT T vx && (K.drop (m + 1)).all fun v => isT T v.x)) := HB.out.symm.trans HBT
            have g1 : (0 : Int) ≤ (m : Int) := by omega
            have g2 : (m : Int) < (K.length : Int) := by omega
            have HKA : Hid (k.a0 = some ⟨b, off, none⟩) := hka
            have CT := fun W hW => C4.out vx W hW
            clear hl hcs hc hv HBT d0 HB
            go_wp2_with fail
            have qe := fun r : Out wr => q_cell e0 r
            have qx0 := fun r : Out wr => q_cell x0 r
            have qx1 := fun r : Out wr => q_cell x1 r
            have qx2 := fun r : Out wr => q_cell x2 r
            have qx3 := fun r : Out wr => q_cell x3 r
            have qx4 := fun r : Out wr => q_cell x4 r
            have qx5 := fun r : Out wr => q_cell x5 r
            have qx6 := fun r : Out wr => q_cell x6 r
            have qx7 := fun r : Out wr => q_cell x7 r
            have qx8 := fun r : Out wr => q_cell x8 r
            have qx9 := fun r : Out wr => q_cell x9 r
            have qx10 := fun r : Out wr => q_cell x10 r
            have qx11 := fun r : Out wr => q_cell x11 r
            have qx12 := fun r : Out wr => q_cell x12 r
            have qx13 := fun r : Out wr => q_cell x13 r
            rw [hka] at CT
            have CT1 : Hid (∀ W, Below w.heap.size w W → Calls Tryz.prog 55 #[.agg #[.slice h.a0 h.n0 h.c0, .slice h.a1 h.n1 h.c1, .bool h.b, .slice h.a2 h.n2 h.c2, .int .i64 ep, .slice la ln lc, .int .i64 su, .slice fa fn fc, .int .i64 ha, .bool true, .slice ta T.length tc, .slice (some ⟨b, off, none⟩) K.length k.c0, .slice k.a1 Wt.length k.c1, .int .i64 nx], .int .i64 vx] W fun e w' => e = .returned (.int .i64 (ixT vx 0 T)) ∧ Below W.heap.size W w') := CT
            clear x0 x1 x2 x3 x4 x5 x6 x7 x8 x9 x10 x11 x12 x13 e0 hka CT
            have HX := ixT_is vx T 0
            by_cases hz : ixT vx 0 T < 0
            · have cz : decide (ixT vx 0 T < 0) = true := decide_eq_true hz
              have EK : Hid ((K.all fun v => isT T v.x) = false) := by unfold Hid; rw [HB1.out, ← HX, decide_eq_false (by omega)]; rfl
              have E : Hid (okEN D h.n0 ep ln Lg su fn F ha true T K Wt nx = false) := okEN_no (.inr (.inr (.inr (.inr (.inr (.inr (.inl EK.out)))))))
              clear HX hz
              haveI nonE := Out.some wr
              refine q_begin (by kernel_rfl) (by kernel_rfl) ?_
              repeat (go_big_quiet_step (exact q_call (CT1.out _ (B2.out.trans ((Out.p _).mono B2.out.size)))))
              refine wpQuiet_nil ?_
              rintro w3 ⟨⟨y', hb3⟩, hy⟩
              have hy' : w3 = y' := hy
              clear hy
              subst hy'
              have B3 : Hid (Below w.heap.size w w3) := B2.out.trans (hb3.mono B2.out.size)
              have X3 : Hid (Box w3 w.heap.size 53 #[.slice h.a0 h.n0 h.c0, .slice h.a1 h.n1 h.c1, .bool h.b, .slice h.a2 h.n2 h.c2, .int .i64 ep, .slice la ln lc, .int .i64 su, .slice fa fn fc, .int .i64 ha, .bool true, .slice ta T.length tc, .slice k.a0 K.length k.c0, .slice k.a1 Wt.length k.c1, .int .i64 nx]) := X2.out.belowS hb3
              clear hb3 qx0 qx1 qx2 qx3 qx4 qx5 qx6 qx7 qx8 qx9 qx10 qx11 qx12 qx13 X2 B2 qe CT1
              go_wp2
              go_ret
              exact ⟨ret_bool E.out.symm, B3.out⟩
            · have cz : decide (ixT vx 0 T < 0) = false := decide_eq_false hz
              have HBN : Hid (((K.drop (m + 1)).all fun v => isT T v.x) = K.all fun v => isT T v.x) := by unfold Hid; rw [HB1.out, ← HX, decide_eq_true (by omega)]; rfl
              clear HX hz
              haveI nonE := Out.some wr
              refine q_begin (by kernel_rfl) (by kernel_rfl) ?_
              repeat (go_big_quiet_step (exact q_call (CT1.out _ (B2.out.trans ((Out.p _).mono B2.out.size)))))
              refine wpQuiet_nil ?_
              rintro w3 ⟨⟨y', hb3⟩, hy⟩
              have hy' : w3 = y' := hy
              clear hy
              subst hy'
              have B3 : Hid (Below w.heap.size w w3) := B2.out.trans (hb3.mono B2.out.size)
              have X3 : Hid (Box w3 w.heap.size 53 #[.slice h.a0 h.n0 h.c0, .slice h.a1 h.n1 h.c1, .bool h.b, .slice h.a2 h.n2 h.c2, .int .i64 ep, .slice la ln lc, .int .i64 su, .slice fa fn fc, .int .i64 ha, .bool true, .slice ta T.length tc, .slice k.a0 K.length k.c0, .slice k.a1 Wt.length k.c1, .int .i64 nx]) := X2.out.belowS hb3
              clear hb3 qx0 qx1 qx2 qx3 qx4 qx5 qx6 qx7 qx8 qx9 qx10 qx11 qx12 qx13 X2 B2 qe CT1
              go_wp2
              go_roundw
              case rel => exact ⟨m + 1, by omega, by go_num, HBN, X3, B3⟩
              case measure => simp [intOf]; omega
          have hge : ¬ (m : Int) < (K.length : Int) := by omega
          have EK : Hid ((K.all fun v => isT T v.x) = true) := by unfold Hid; rw [← HB.out, List.drop_eq_nil_of_le (by omega)]; rfl
          clear HB
          go_wp2
          clear hge hlt x0 x1 x2 x3 x4 x5 x6 x7 x8 x9 x10 x11 x12 x13
          go_loopw [8] (fun i wr => ∃ m : Nat, m ≤ Wt.length ∧ i = .int .i64 m ∧ Hid (((Wt.drop m).all fun v => isT T v.x && isT T v.f) = Wt.all fun v => isT T v.x && isT T v.f) ∧ Hid (Box wr w.heap.size 53 #[.slice h.a0 h.n0 h.c0, .slice h.a1 h.n1 h.c1, .bool h.b, .slice h.a2 h.n2 h.c2, .int .i64 ep, .slice la ln lc, .int .i64 su, .slice fa fn fc, .int .i64 ha, .bool true, .slice ta T.length tc, .slice k.a0 K.length k.c0, .slice k.a1 Wt.length k.c1, .int .i64 nx]) ∧ Hid (Below w.heap.size w wr)) (fun i _ => Wt.length - (intOf i).toNat)
          case atStart => exact ⟨0, by omega, rfl, rfl, X2, B2⟩
          case round =>
            as_aux_lemma =>
              clear X2 B2
              obtain ⟨m, hm, rfl, HB, X2, B2⟩ := hrel
              obtain ⟨x0, x1, x2, x3, x4, x5, x6, x7, x8, x9, x10, x11, x12, x13⟩ := box14 X2.out
              by_cases hlt : m < Wt.length
              · obtain ⟨hl, hcs⟩ := RK.out.2
                obtain ⟨b, off, hka, hbl, hc⟩ := hcs (by omega)
                rw [hka] at x12
                obtain ⟨d0, d1⟩ := hc m hlt
                have HBT := all_drop (vs := Wt) (p := fun v => isT T v.x && isT T v.f) (d := L.dW) (k := m) hlt
                obtain ⟨⟨vx, vf⟩, hv⟩ : ∃ v, v = Wt.getD m L.dW := ⟨_, rfl⟩
                rw [← hv] at d0 d1 HBT
                dsimp only at d0 d1 HBT
                have e0 := (B2.out.cell (p := ⟨b, off + m * 2, none⟩) hbl).trans d0
                have e1 := (B2.out.cell (p := ⟨b, off + m * 2 + 1, none⟩) hbl).trans d1
                have HB1 : Hid ((Wt.all fun v => isT T v.x && isT T v.f) = ((isT T vx && isT T vf) && (Wt.drop (m + 1)).all fun v => isT T v.x && isT T v.f)) := HB.out.symm.trans HBT
                have g1 : (0 : Int) ≤ (m : Int) := by omega
                have g2 : (m : Int) < (Wt.length : Int) := by omega
                have CT := fun tx W hW => C4.out tx W hW
                clear hl hcs hc hv HBT d0 d1 HB
                go_wp2_with fail
                have qe0 := fun r : Out wr => q_cell e0 r
                have qe1 := fun r : Out wr => q_cell e1 r
                have qx0 := fun r : Out wr => q_cell x0 r
                have qx1 := fun r : Out wr => q_cell x1 r
                have qx2 := fun r : Out wr => q_cell x2 r
                have qx3 := fun r : Out wr => q_cell x3 r
                have qx4 := fun r : Out wr => q_cell x4 r
                have qx5 := fun r : Out wr => q_cell x5 r
                have qx6 := fun r : Out wr => q_cell x6 r
                have qx7 := fun r : Out wr => q_cell x7 r
                have qx8 := fun r : Out wr => q_cell x8 r
                have qx9 := fun r : Out wr => q_cell x9 r
                have qx10 := fun r : Out wr => q_cell x10 r
                have qx11 := fun r : Out wr => q_cell x11 r
                have qx12 := fun r : Out wr => q_cell x12 r
                have qx13 := fun r : Out wr => q_cell x13 r
                rw [hka] at CT
                have CT1 : Hid (∀ tx W, Below w.heap.size w W → Calls Tryz.prog 55 #[.agg #[.slice h.a0 h.n0 h.c0, .slice h.a1 h.n1 h.c1, .bool h.b, .slice h.a2 h.n2 h.c2, .int .i64 ep, .slice la ln lc, .int .i64 su, .slice fa fn fc, .int .i64 ha, .bool true, .slice ta T.length tc, .slice k.a0 K.length k.c0, .slice (some ⟨b, off, none⟩) Wt.length k.c1, .int .i64 nx], .int .i64 tx] W fun e w' => e = .returned (.int .i64 (ixT tx 0 T)) ∧ Below W.heap.size W w') := CT
                clear x0 x1 x2 x3 x4 x5 x6 x7 x8 x9 x10 x11 x12 x13 e0 e1 hka CT
                have HX := ixT_is vx T 0
                have HF := ixT_is vf T 0
                by_cases hz : ixT vx 0 T < 0
                case pos =>
                  have cz : decide (ixT vx 0 T < 0) = true := decide_eq_true hz
                  have EW : Hid ((Wt.all fun v => isT T v.x && isT T v.f) = false) := by unfold Hid; rw [HB1.out, ← HX, decide_eq_false (by omega)]; rfl
                  have E : Hid (okEN D h.n0 ep ln Lg su fn F ha true T K Wt nx = false) := okEN_no (.inr (.inr (.inr (.inr (.inr (.inr (.inr (.inl EW.out))))))))
                  clear HX HF hz
                  haveI nonE := Out.some wr
                  refine q_begin (by kernel_rfl) (by kernel_rfl) ?_
                  repeat (go_big_quiet_step (exact q_call (CT1.out _ _ (B2.out.trans ((Out.p _).mono B2.out.size)))))
                  refine wpQuiet_nil ?_
                  rintro w3 ⟨⟨y', hb3⟩, hy⟩
                  have hy' : w3 = y' := hy
                  clear hy
                  subst hy'
                  have B3 : Hid (Below w.heap.size w w3) := B2.out.trans (hb3.mono B2.out.size)
                  have X3 : Hid (Box w3 w.heap.size 53 #[.slice h.a0 h.n0 h.c0, .slice h.a1 h.n1 h.c1, .bool h.b, .slice h.a2 h.n2 h.c2, .int .i64 ep, .slice la ln lc, .int .i64 su, .slice fa fn fc, .int .i64 ha, .bool true, .slice ta T.length tc, .slice k.a0 K.length k.c0, .slice k.a1 Wt.length k.c1, .int .i64 nx]) := X2.out.belowS hb3
                  clear hb3 qx0 qx1 qx2 qx3 qx4 qx5 qx6 qx7 qx8 qx9 qx10 qx11 qx12 qx13 X2 B2 qe0 qe1 CT1
                  go_wp2
                  go_ret
                  exact ⟨ret_bool E.out.symm, B3.out⟩
                have cz : decide (ixT vx 0 T < 0) = false := decide_eq_false hz
                by_cases hy : ixT vf 0 T < 0
                case pos =>
                  have cy : decide (ixT vf 0 T < 0) = true := decide_eq_true hy
                  have EW : Hid ((Wt.all fun v => isT T v.x && isT T v.f) = false) := by unfold Hid; rw [HB1.out, ← HF, decide_eq_false (show ¬ 0 ≤ ixT vf 0 T by omega)]; simp
                  have E : Hid (okEN D h.n0 ep ln Lg su fn F ha true T K Wt nx = false) := okEN_no (.inr (.inr (.inr (.inr (.inr (.inr (.inr (.inl EW.out))))))))
                  clear HX HF hz hy
                  haveI nonE := Out.some wr
                  refine q_begin (by kernel_rfl) (by kernel_rfl) ?_
                  repeat (go_big_quiet_step (exact q_call (CT1.out _ _ (B2.out.trans ((Out.p _).mono B2.out.size)))))
                  refine wpQuiet_nil ?_
                  rintro w3 ⟨⟨y', hb3⟩, hy⟩
                  have hy' : w3 = y' := hy
                  clear hy
                  subst hy'
                  have B3 : Hid (Below w.heap.size w w3) := B2.out.trans (hb3.mono B2.out.size)
                  have X3 : Hid (Box w3 w.heap.size 53 #[.slice h.a0 h.n0 h.c0, .slice h.a1 h.n1 h.c1, .bool h.b, .slice h.a2 h.n2 h.c2, .int .i64 ep, .slice la ln lc, .int .i64 su, .slice fa fn fc, .int .i64 ha, .bool true, .slice ta T.length tc, .slice k.a0 K.length k.c0, .slice k.a1 Wt.length k.c1, .int .i64 nx]) := X2.out.belowS hb3
                  clear hb3 qx0 qx1 qx2 qx3 qx4 qx5 qx6 qx7 qx8 qx9 qx10 qx11 qx12 qx13 X2 B2 qe0 qe1 CT1
                  go_wp2
                  go_ret
                  exact ⟨ret_bool E.out.symm, B3.out⟩
                have cy : decide (ixT vf 0 T < 0) = false := decide_eq_false hy
                have HBN : Hid (((Wt.drop (m + 1)).all fun v => isT T v.x && isT T v.f) = Wt.all fun v => isT T v.x && isT T v.f) := by unfold Hid; rw [HB1.out, ← HX, ← HF, decide_eq_true (show 0 ≤ ixT vx 0 T by omega), decide_eq_true (show 0 ≤ ixT vf 0 T by omega)]; rfl
                clear HX HF hz hy
                haveI nonE := Out.some wr
                refine q_begin (by kernel_rfl) (by kernel_rfl) ?_
                repeat (go_big_quiet_step (exact q_call (CT1.out _ _ (B2.out.trans ((Out.p _).mono B2.out.size)))))
                refine wpQuiet_nil ?_
                rintro w3 ⟨⟨y', hb3⟩, hy⟩
                have hy' : w3 = y' := hy
                clear hy
                subst hy'
                have B3 : Hid (Below w.heap.size w w3) := B2.out.trans (hb3.mono B2.out.size)
                have X3 : Hid (Box w3 w.heap.size 53 #[.slice h.a0 h.n0 h.c0, .slice h.a1 h.n1 h.c1, .bool h.b, .slice h.a2 h.n2 h.c2, .int .i64 ep, .slice la ln lc, .int .i64 su, .slice fa fn fc, .int .i64 ha, .bool true, .slice ta T.length tc, .slice k.a0 K.length k.c0, .slice k.a1 Wt.length k.c1, .int .i64 nx]) := X2.out.belowS hb3
                clear hb3 qx0 qx1 qx2 qx3 qx4 qx5 qx6 qx7 qx8 qx9 qx10 qx11 qx12 qx13 X2 B2 qe0 qe1 CT1
                go_wp2
                go_roundw
                case rel => exact ⟨m + 1, by omega, by go_num, HBN, X3, B3⟩
                case measure => simp [intOf]; omega
              have hge : ¬ (m : Int) < (Wt.length : Int) := by omega
              have EW : Hid ((Wt.all fun v => isT T v.x && isT T v.f) = true) := by unfold Hid; rw [← HB.out, List.drop_eq_nil_of_le (by omega)]; rfl
              have LST := lnk_last EB.out
              rw [RL.out.1] at LST
              have CR := C5.out HLN.out HPL.out h10 LST
              have hq0 := resT_le (Lg := Lg) (n := ln) T LST
              have hq1 : T.length * (ln + 1) ≤ 10 * 61 := Nat.mul_le_mul h10 (by have := HLN.out; omega)
              obtain ⟨q, hq⟩ : ∃ q, q = resT Lg T := ⟨_, rfl⟩
              have EY : Hid (okEN D h.n0 ep ln Lg su fn F ha true T K Wt nx = decide ((ln : Int) + q ≤ 60)) := by unfold Hid; rw [hq]; exact okEN_yes KST.out h10 KLO.out KNX.out rfl EA.out EB.out EK.out EW.out
              rw [← hq] at CR hq0
              have hq2 : q ≤ 610 := by omega
              have hln := HLN.out
              have CR1 : Hid (∀ W, Below w.heap.size w W → Calls Tryz.prog 56 #[.agg #[.slice h.a0 h.n0 h.c0, .slice h.a1 h.n1 h.c1, .bool h.b, .slice h.a2 h.n2 h.c2, .int .i64 ep, .slice la ln lc, .int .i64 su, .slice fa fn fc, .int .i64 ha, .bool true, .slice ta T.length tc, .slice k.a0 K.length k.c0, .slice k.a1 Wt.length k.c1, .int .i64 nx]] W fun e w' => e = .returned (.int .i64 (q : Int)) ∧ Below W.heap.size W w') := CR
              clear HB LST CR hq hq0 hq1
              go_wp2_with fail
              have qx0 := fun r : Out wr => q_cell x0 r
              have qx1 := fun r : Out wr => q_cell x1 r
              have qx2 := fun r : Out wr => q_cell x2 r
              have qx3 := fun r : Out wr => q_cell x3 r
              have qx4 := fun r : Out wr => q_cell x4 r
              have qx5 := fun r : Out wr => q_cell x5 r
              have qx6 := fun r : Out wr => q_cell x6 r
              have qx7 := fun r : Out wr => q_cell x7 r
              have qx8 := fun r : Out wr => q_cell x8 r
              have qx9 := fun r : Out wr => q_cell x9 r
              have qx10 := fun r : Out wr => q_cell x10 r
              have qx11 := fun r : Out wr => q_cell x11 r
              have qx12 := fun r : Out wr => q_cell x12 r
              have qx13 := fun r : Out wr => q_cell x13 r
              clear x0 x1 x2 x3 x4 x5 x6 x7 x8 x9 x10 x11 x12 x13
              haveI nonE := Out.some wr
              refine q_begin (by kernel_rfl) (by kernel_rfl) ?_
              repeat (go_big_quiet_step (exact q_call (CR1.out _ (B2.out.trans ((Out.p _).mono B2.out.size)))))
              refine wpQuiet_nil ?_
              rintro w3 ⟨⟨y', hb3⟩, hy⟩
              have hy' : w3 = y' := hy
              clear hy
              subst hy'
              have B3 : Hid (Below w.heap.size w w3) := B2.out.trans (hb3.mono B2.out.size)
              have X3 : Hid (Box w3 w.heap.size 53 #[.slice h.a0 h.n0 h.c0, .slice h.a1 h.n1 h.c1, .bool h.b, .slice h.a2 h.n2 h.c2, .int .i64 ep, .slice la ln lc, .int .i64 su, .slice fa fn fc, .int .i64 ha, .bool true, .slice ta T.length tc, .slice k.a0 K.length k.c0, .slice k.a1 Wt.length k.c1, .int .i64 nx]) := X2.out.belowS hb3
              clear hb3 qx0 qx1 qx2 qx3 qx4 qx5 qx6 qx7 qx8 qx9 qx10 qx11 qx12 qx13 X2 B2 CR1
              go_wp2
              go_ret
              exact ⟨ret_bool EY.out.symm, B3.out⟩

end Go.Proofs.YtfibdpfhfgnbiaaGreatDoor
