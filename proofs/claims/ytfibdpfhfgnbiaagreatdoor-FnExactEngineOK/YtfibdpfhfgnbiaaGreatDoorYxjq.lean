/-
  Right engines: the walk of the program's EngineOK.
-/
import Derived.Test.YtfibdpfhfgnbiaaGreatDoorZzax
import Derived.Test.YtfibdpfhfgnbiaaGreatDoorYtdq
import Derived.Test.YtfibdpfhfgnbiaaGreatDoorZzau
namespace Go.Proofs.YtfibdpfhfgnbiaaGreatDoor
open Go Go.RowKit
attribute [local go_sem ↓] Go.wp_at_zero Go.wp_at_succ

/-- A right engine. -/
def okEN (D : DD) (n0 : Nat) (ep : Int) (ln : Nat) (Lg : List DR) (su : Int) (fn : Nat) (F : List FF) (ha : Int) (up : Bool) (T : List X.WK) (K : List L.LK) (Wt : List L.WK) (nx : Int) : Bool := okST D n0 ep ln Lg su fn F ha && (L.okLs K Wt && (decide (1 ≤ nx) && (decide (nx ≤ 61) && ((up || decide (T.length + fn = 0)) && ((decide (T.length ≤ 10) && asT nx 1 T) && (((K.all fun v => isT T v.x) && Wt.all fun v => isT T v.x && isT T v.f) && ((T.all fun v => lnk Lg v.x v.f) && (decide ((ln : Int) + resT Lg T ≤ 60)))))))))
theorem okLS_pn {D : DR} (h : okLS D = true) : (0 ≤ D.p ∧ D.p ≤ D.l - 1) ∧ 0 ≤ D.n ∧ D.n ≤ D.l - 1 := by
  obtain ⟨ve, vl, vt, vk, vp, vn, vg, vz, vb, va⟩ := D
  by_cases hc : (0 ≤ vp ∧ vp ≤ vl - 1) ∧ 0 ≤ vn ∧ vn ≤ vl - 1
  · exact hc
  · have := ls_f1 (e := ve) (l := vl) (t := vt) (k := vk) (p := vp) (n := vn) (g := vg) (s := vz) (b := vb) (a := va) (fun q => hc ⟨q.2.2.2.1, q.2.2.2.2.1⟩)
    rw [h] at this
    cases this
theorem inPl_all : ∀ (L : List DR) (k : Nat), inPl k L = true → ∀ i, i < L.length → okLR (L.getD i zeroR) = true ∧ (L.getD i zeroR).l = ((k + i : Nat) : Int) + 1
  | [], _, _, i, hi => absurd hi (by simp)
  | v :: L, k, h, i, hi => by
    have h' : (okLR v && (decide (v.l = (k : Int) + 1) && inPl (k + 1) L)) = true := h
    simp only [Bool.and_eq_true, decide_eq_true_eq] at h'
    cases i with
    | zero => exact ⟨h'.1, by simpa using h'.2.1⟩
    | succ i =>
      have := inPl_all L (k + 1) h'.2.2 i (by simpa using hi)
      refine ⟨by simpa using this.1, ?_⟩
      have e := this.2
      rw [show k + 1 + i = k + (i + 1) by omega] at e
      simpa using e
theorem pln_of {L : List DR} (h : inPl 0 L = true) : Pln L := by
  have q : ∀ i, i < L.length → (L.getD i zeroR).l = (i : Int) + 1 ∧ (0 ≤ (L.getD i zeroR).p ∧ (L.getD i zeroR).p ≤ (i : Int)) ∧ 0 ≤ (L.getD i zeroR).n ∧ (L.getD i zeroR).n ≤ (i : Int) := fun i hi => by
    obtain ⟨h1, h2⟩ := inPl_all L 0 h i hi
    have h3 := okLS_pn ((okLS_eq _).trans h1)
    rw [Nat.zero_add] at h2
    exact ⟨h2, ⟨h3.1.1, by omega⟩, h3.2.1, by omega⟩
  exact ⟨fun i hi => ⟨(q i hi).1, (q i hi).2.1.1, (q i hi).2.1.2⟩, fun i hi => (q i hi).2.2⟩
theorem okST_parts {D : DD} {n0 : Nat} {ep : Int} {ln : Nat} {L : List DR} {su : Int} {fn : Nat} {F : List FF} {ha : Int} (h : okST D n0 ep ln L su fn F ha = true) : ln ≤ 60 ∧ inPl 0 L = true := by
  unfold okST at h
  simp only [Bool.and_eq_true, decide_eq_true_eq] at h
  exact ⟨h.2.2.2.2.1, h.2.2.2.2.2.1⟩
theorem asT_ids {nx : Int} (hn : nx ≤ 61) : ∀ (T : List X.WK) (l : Int), 0 ≤ l → asT nx l T = true → ∀ v ∈ T, 0 ≤ v.x ∧ v.x < 64
  | [], _, _, _, v, hv => by cases hv
  | u :: T, l, hl, h, v, hv => by
    have h' : (decide (l ≤ u.x) && (decide (u.x < nx) && asT nx (u.x + 1) T)) = true := h
    simp only [Bool.and_eq_true, decide_eq_true_eq] at h'
    rcases List.mem_cons.1 hv with rfl | hv
    · omega
    · exact asT_ids hn T (u.x + 1) (by omega) h'.2.2 v hv
theorem okLs_ids {K : List L.LK} {Wt : List L.WK} (h : L.okLs K Wt = true) : (∀ v ∈ K, 0 ≤ v.x ∧ v.x < 64) ∧ ∀ v ∈ Wt, (0 ≤ v.x ∧ v.x < 64) ∧ 0 ≤ v.f ∧ v.f < 64 := by
  unfold L.okLs at h
  simp only [Bool.and_eq_true, List.all_eq_true] at h
  refine ⟨fun v hv => ?_, fun v hv => ?_⟩
  · have := h.1.1.2 v hv
    unfold L.okK at this
    simp only [Bool.and_eq_true] at this
    have := of_decide_eq_true this.1.1.1.1
    omega
  · have := h.2 v hv
    unfold L.okW at this
    simp only [Bool.and_eq_true] at this
    have h1 := of_decide_eq_true this.1.1
    have h2 := of_decide_eq_true this.1.2
    omega
theorem lnk_last {Lg : List DR} {T : List X.WK} (h : (T.all fun v => lnk Lg v.x v.f) = true) : ∀ v ∈ T, 0 ≤ v.f ∧ v.f ≤ (Lg.length : Int) := fun v hv => by
  have := List.all_eq_true.1 h v hv
  unfold lnk at this
  rw [Bool.and_eq_true] at this
  have := ownR_lt this.1
  omega
theorem resT_le {Lg : List DR} {n : Nat} : ∀ (T : List X.WK), (∀ v ∈ T, 0 ≤ v.f ∧ v.f ≤ (n : Int)) → resT Lg T ≤ T.length * (n + 1)
  | [], _ => Nat.zero_le _
  | v :: T, h => by
    have h1 := resT_le (Lg := Lg) T fun u hu => h u (by simp [hu])
    have h2 := und_le Lg v.f.toNat
    have h3 := h v (by simp)
    show und Lg v.f.toNat + 1 + resT Lg T ≤ (T.length + 1) * (n + 1)
    have e : (T.length + 1) * (n + 1) = T.length * (n + 1) + (n + 1) := by rw [Nat.add_mul, Nat.one_mul]
    omega
set_option maxRecDepth 100000 in
set_option maxHeartbeats 4000000 in
theorem c_implEN (h : HD) (D : DD) (ep : Int) (la : Option Addr) (ln lc : Nat) (Lg : List DR) (su : Int) (fa : Option Addr) (fn fc : Nat) (F : List FF) (ha : Int) (up : Bool) (ta : Option Addr) (tc : Nat) (T : List X.WK) (k : L.HL) (K : List L.LK) (Wt : List L.WK) (nx : Int) (w : World) (r : RdE w h D la ln Lg fa fn F ta T k K Wt) (hf : FitE D ln Lg fn F T K Wt) (ht : TabH w) (hi : L.FitH w) :
    Calls Tryz.prog 16 #[.agg #[.slice h.a0 h.n0 h.c0, .slice h.a1 h.n1 h.c1, .bool h.b, .slice h.a2 h.n2 h.c2, .int .i64 ep, .slice la ln lc, .int .i64 su, .slice fa fn fc, .int .i64 ha, .bool up, .slice ta T.length tc, .slice k.a0 K.length k.c0, .slice k.a1 Wt.length k.c1, .int .i64 nx]] w fun e w' => e = .returned (.bool (okEN D h.n0 ep ln Lg su fn F ha up T K Wt nx)) ∧ Below w.heap.size w w' := by
  obtain ⟨V, hV⟩ : ∃ V, w.alloc (.cells #[.slice h.a0 h.n0 h.c0, .slice h.a1 h.n1 h.c1, .bool h.b, .slice h.a2 h.n2 h.c2, .int .i64 ep, .slice la ln lc, .int .i64 su, .slice fa fn fc, .int .i64 ha, .bool up, .slice ta T.length tc, .slice k.a0 K.length k.c0, .slice k.a1 Wt.length k.c1, .int .i64 nx] 53) = V := ⟨_, rfl⟩
  have B0 : Hid (Below w.heap.size w V) := by unfold Hid; rw [← hV]; exact (Below.refl _ _).alloc (Nat.le_refl _) _
  have X0 : Hid (Box V w.heap.size 53 #[.slice h.a0 h.n0 h.c0, .slice h.a1 h.n1 h.c1, .bool h.b, .slice h.a2 h.n2 h.c2, .int .i64 ep, .slice la ln lc, .int .i64 su, .slice fa fn fc, .int .i64 ha, .bool up, .slice ta T.length tc, .slice k.a0 K.length k.c0, .slice k.a1 Wt.length k.c1, .int .i64 nx]) := by unfold Hid; rw [← hV]; exact Box.new _ _ _
  have C1 : Hid (∀ W, Below w.heap.size w W → Calls Tryz.prog 59 #[.agg #[.slice h.a0 h.n0 h.c0, .slice h.a1 h.n1 h.c1, .bool h.b, .slice h.a2 h.n2 h.c2, .int .i64 ep, .slice la ln lc, .int .i64 su, .slice fa fn fc, .int .i64 ha]] W fun e w' => e = .returned (.bool (okST D h.n0 ep ln Lg su fn F ha)) ∧ Below W.heap.size W w') := fun W hW => c_implST h D ep la ln lc Lg su fa fn fc F ha W (r.1.below hW) hf.1.1 (r.2.1.below hW) hf.1.2.1.1 (fun v hv => by have := hf.1.2.1.2 v hv; unfold maxLen; omega) (r.2.2.1.below hW) hf.1.2.2.1 hf.1.2.2.2 (ht.below hW)
  have C2 : Hid (∀ W, Below w.heap.size w W → Calls Tryz.prog 60 #[.agg #[.slice k.a0 K.length k.c0, .slice k.a1 Wt.length k.c1]] W fun e w' => e = .returned (.bool (L.okLs K Wt)) ∧ Below W.heap.size W w') := fun W hW => L.c_implLO k K Wt W (r.2.2.2.2.below hW) hf.2.2.1 hf.2.2.2 (hi.below hW)
  have C3 : Hid (-1000 ≤ nx ∧ nx ≤ 1000 → ∀ W, Below w.heap.size w W → Calls Tryz.prog 61 #[.slice ta T.length tc, .int .i64 nx] W fun e w' => e = .returned (.bool (decide (T.length ≤ 10) && asT nx 1 T)) ∧ Below W.heap.size W w') := fun hb W hW => c_areTxs ta T.length tc T nx W (r.2.2.2.1.below hW) hf.2.1 hb
  have C4 : Hid ((∀ v ∈ T, 0 ≤ v.x ∧ v.x < 64) → L.okLs K Wt = true → ∀ W, Below w.heap.size w W → Calls Tryz.prog 62 #[.agg #[.slice k.a0 K.length k.c0, .slice k.a1 Wt.length k.c1], .slice ta T.length tc] W fun e w' => e = .returned (.bool ((K.all fun v => isT T v.x) && Wt.all fun v => isT T v.x && isT T v.f)) ∧ Below W.heap.size W w') := fun h1 h2 W hW => c_areOf k K Wt ta T.length tc T W (r.2.2.2.2.below hW) hf.2.2.1 hf.2.2.2 (r.2.2.2.1.below hW) hf.2.1 h1 (okLs_ids h2).1 (okLs_ids h2).2
  have C5 : Hid (Plc Lg → ∀ W, Below w.heap.size w W → Calls Tryz.prog 63 #[.slice la ln lc, .slice ta T.length tc] W fun e w' => e = .returned (.bool (T.all fun v => lnk Lg v.x v.f)) ∧ Below W.heap.size W w') := fun h1 W hW => c_areLinked la ln lc Lg ta T.length tc T W (r.2.1.below hW) hf.1.2.1.1 h1 (r.2.2.2.1.below hW) hf.2.1
  have C6 : Hid (ln ≤ 60 → Pln Lg → T.length ≤ 10 → (∀ v ∈ T, 0 ≤ v.f ∧ v.f ≤ (ln : Int)) → ∀ W, Box W w.heap.size 53 #[.slice h.a0 h.n0 h.c0, .slice h.a1 h.n1 h.c1, .bool h.b, .slice h.a2 h.n2 h.c2, .int .i64 ep, .slice la ln lc, .int .i64 su, .slice fa fn fc, .int .i64 ha, .bool up, .slice ta T.length tc, .slice k.a0 K.length k.c0, .slice k.a1 Wt.length k.c1, .int .i64 nx] → Below w.heap.size w W → Calls Tryz.prog 64 #[.pointer (some ⟨w.heap.size, 0, none⟩)] W fun e w' => e = .returned (.int .i64 (60 - (ln : Int) - (resT Lg T : Int))) ∧ Below W.heap.size W w') := fun h1 h2 h3 h4 W hx hW => c_room h ep la ln lc Lg su fa fn fc ha up ta tc T k K Wt nx w.heap.size W hx (r.2.1.below hW) h1 h2 (r.2.2.2.1.below hW) h3 h4 (by have := resT_le (Lg := Lg) T h4; have : T.length * (ln + 1) ≤ 10 * 61 := Nat.mul_le_mul h3 (by omega); omega)
  have HL : Hid (Lg.length = ln) := r.2.1.1
  have hf1 : T.length ≤ 1048576 := hf.2.1
  have hf2 : fn ≤ 1048576 := hf.1.2.2.1
  clear r hf ht hi
  obtain ⟨x0, x1, x2, x3, x4, x5, x6, x7, x8, x9, x10, x11, x12, x13⟩ := box14 X0.out
  go_enter Tryz.func16, Tryz.ntmps16
  go_wp2_with fail
  refine (C1.out V B0.out).mono ?_
  rintro e w1 ⟨rfl, hb⟩
  have B1 : Hid (Below w.heap.size w w1) := B0.out.trans (hb.mono B0.out.size)
  have X1 : Hid (Box w1 w.heap.size 53 #[.slice h.a0 h.n0 h.c0, .slice h.a1 h.n1 h.c1, .bool h.b, .slice h.a2 h.n2 h.c2, .int .i64 ep, .slice la ln lc, .int .i64 su, .slice fa fn fc, .int .i64 ha, .bool up, .slice ta T.length tc, .slice k.a0 K.length k.c0, .slice k.a1 Wt.length k.c1, .int .i64 nx]) := X0.out.belowS hb
  clear hb X0 B0 x0 x1 x2 x3 x4 x5 x6 x7 x8 x9 x10 x11 x12 x13
  obtain ⟨x0, x1, x2, x3, x4, x5, x6, x7, x8, x9, x10, x11, x12, x13⟩ := box14 X1.out
  clear hV
  obtain ⟨hsv, hse⟩ : ∃ b, okST D h.n0 ep ln Lg su fn F ha = b := ⟨_, rfl⟩
  rw [hse]
  cases hsv
  · have E : Hid (okEN D h.n0 ep ln Lg su fn F ha up T K Wt nx = false) := by unfold Hid okEN; rw [hse]; rfl
    clear hse
    go_wp2
    go_ret
    exact ⟨ret_bool E.out.symm, B1.out⟩
  have Khs : Hid (okST D h.n0 ep ln Lg su fn F ha = true) := hse
  clear hse
  go_wp2_with fail
  refine (C2.out w1 B1.out).mono ?_
  rintro e w2 ⟨rfl, hb⟩
  have B2 : Hid (Below w.heap.size w w2) := B1.out.trans (hb.mono B1.out.size)
  have X2 : Hid (Box w2 w.heap.size 53 #[.slice h.a0 h.n0 h.c0, .slice h.a1 h.n1 h.c1, .bool h.b, .slice h.a2 h.n2 h.c2, .int .i64 ep, .slice la ln lc, .int .i64 su, .slice fa fn fc, .int .i64 ha, .bool up, .slice ta T.length tc, .slice k.a0 K.length k.c0, .slice k.a1 Wt.length k.c1, .int .i64 nx]) := X1.out.belowS hb
  clear hb X1 B1 x0 x1 x2 x3 x4 x5 x6 x7 x8 x9 x10 x11 x12 x13
  obtain ⟨x0, x1, x2, x3, x4, x5, x6, x7, x8, x9, x10, x11, x12, x13⟩ := box14 X2.out
  obtain ⟨hlv, hle⟩ : ∃ b, L.okLs K Wt = b := ⟨_, rfl⟩
  rw [hle]
  cases hlv
  · have E : Hid (okEN D h.n0 ep ln Lg su fn F ha up T K Wt nx = false) := by unfold Hid okEN; rw [Khs.out, hle]; rfl
    clear hle
    go_wp2
    go_ret
    exact ⟨ret_bool E.out.symm, B2.out⟩
  have Khl : Hid (L.okLs K Wt = true) := hle
  clear hle
  by_cases h1 : 1 ≤ nx
  case neg =>
    have E : Hid (okEN D h.n0 ep ln Lg su fn F ha up T K Wt nx = false) := by unfold Hid okEN; rw [Khs.out, Khl.out, decide_eq_false h1]; rfl
    go_wp2
    go_ret
    exact ⟨ret_bool E.out.symm, B2.out⟩
  have Kh1 : Hid (decide (1 ≤ nx) = true) := decide_eq_true h1
  by_cases h2 : nx ≤ 61
  case neg =>
    have E : Hid (okEN D h.n0 ep ln Lg su fn F ha up T K Wt nx = false) := by unfold Hid okEN; rw [Khs.out, Khl.out, Kh1.out, decide_eq_false h2]; rfl
    go_wp2
    go_ret
    exact ⟨ret_bool E.out.symm, B2.out⟩
  have Kh2 : Hid (decide (nx ≤ 61) = true) := decide_eq_true h2
  by_cases hu : (up || decide (T.length + fn = 0)) = true
  case neg =>
    have hu' : up = false ∧ ¬ T.length + fn = 0 := by cases up <;> simp_all
    have E : Hid (okEN D h.n0 ep ln Lg su fn F ha up T K Wt nx = false) := by unfold Hid okEN; rw [Khs.out, Khl.out, Kh1.out, Kh2.out, show (up || decide (T.length + fn = 0)) = false by simpa using hu]; rfl
    obtain ⟨rfl, hz⟩ := hu'
    have hz2 : (0 : Int) < (T.length : Int) + (fn : Int) := by omega
    clear hu
    go_wp2
    go_ret
    exact ⟨ret_bool E.out.symm, B2.out⟩
  have Khu : Hid ((up || decide (T.length + fn = 0)) = true) := hu
  have hz : up = false → (T.length : Int) + (fn : Int) = 0 := fun h0 => by subst h0; have := of_decide_eq_true (by simpa using hu : decide (T.length + fn = 0) = true); omega
  have HSP := okST_parts Khs.out
  have PL := pln_of HSP.2
  have C3' := C3.out (by omega) w2 B2.out
  have HLN : Hid (ln ≤ 60) := HSP.1
  have HPL : Hid (Pln Lg) := PL
  have HZ : Hid (up = false → (T.length : Int) + (fn : Int) = 0) := hz
  clear HSP PL hu hz C3
  cases up
  case false =>
    have hzz : (T.length : Int) + (fn : Int) = 0 := HZ.out rfl
    go_wp2_with fail
    refine C3'.mono ?_
    rintro e w3 ⟨rfl, hb⟩
    have B3 : Hid (Below w.heap.size w w3) := B2.out.trans (hb.mono B2.out.size)
    have X3 : Hid (Box _ _ _ _) := X2.out.belowS hb
    clear hb X2 B2 x0 x1 x2 x3 x4 x5 x6 x7 x8 x9 x10 x11 x12 x13 C3'
    obtain ⟨x0, x1, x2, x3, x4, x5, x6, x7, x8, x9, x10, x11, x12, x13⟩ := box14 X3.out
    obtain ⟨ht3v, ht3e⟩ : ∃ b, (decide (T.length ≤ 10) && asT nx 1 T) = b := ⟨_, rfl⟩
    rw [ht3e]
    cases ht3v
    · have E : Hid (okEN D h.n0 ep ln Lg su fn F ha false T K Wt nx = false) := by unfold Hid okEN; rw [Khs.out, Khl.out, Kh1.out, Kh2.out, Khu.out, ht3e]; rfl
      clear ht3e
      go_wp2
      go_ret
      exact ⟨ret_bool E.out.symm, B3.out⟩
    have Kht3 : Hid ((decide (T.length ≤ 10) && asT nx 1 T) = true) := ht3e
    clear ht3e
    have P3 := Kht3.out
    rw [Bool.and_eq_true, decide_eq_true_eq] at P3
    have IDS := asT_ids h2 T 1 (by omega) P3.2
    have H10 : Hid (T.length ≤ 10) := P3.1
    have C4' := C4.out IDS Khl.out w3 B3.out
    clear P3 IDS C4
    go_wp2_with fail
    refine C4'.mono ?_
    rintro e w4 ⟨rfl, hb⟩
    have B4 : Hid (Below w.heap.size w w4) := B3.out.trans (hb.mono B3.out.size)
    have X4 : Hid (Box _ _ _ _) := X3.out.belowS hb
    clear hb X3 B3 x0 x1 x2 x3 x4 x5 x6 x7 x8 x9 x10 x11 x12 x13
    obtain ⟨x0, x1, x2, x3, x4, x5, x6, x7, x8, x9, x10, x11, x12, x13⟩ := box14 X4.out
    obtain ⟨ht4v, ht4e⟩ : ∃ b, ((K.all fun v => isT T v.x) && Wt.all fun v => isT T v.x && isT T v.f) = b := ⟨_, rfl⟩
    rw [ht4e]
    cases ht4v
    · have E : Hid (okEN D h.n0 ep ln Lg su fn F ha false T K Wt nx = false) := by unfold Hid okEN; rw [Khs.out, Khl.out, Kh1.out, Kh2.out, Khu.out, Kht3.out, ht4e]; rfl
      clear ht4e
      go_wp2
      go_ret
      exact ⟨ret_bool E.out.symm, B4.out⟩
    have Kht4 : Hid (((K.all fun v => isT T v.x) && Wt.all fun v => isT T v.x && isT T v.f) = true) := ht4e
    clear ht4e
    have C5' := C5.out HPL.out.1 w4 B4.out
    clear C5
    go_wp2_with fail
    refine C5'.mono ?_
    rintro e w5 ⟨rfl, hb⟩
    have B5 : Hid (Below w.heap.size w w5) := B4.out.trans (hb.mono B4.out.size)
    have X5 : Hid (Box _ _ _ _) := X4.out.belowS hb
    clear hb X4 B4 x0 x1 x2 x3 x4 x5 x6 x7 x8 x9 x10 x11 x12 x13
    obtain ⟨x0, x1, x2, x3, x4, x5, x6, x7, x8, x9, x10, x11, x12, x13⟩ := box14 X5.out
    obtain ⟨ht5v, ht5e⟩ : ∃ b, (T.all fun v => lnk Lg v.x v.f) = b := ⟨_, rfl⟩
    rw [ht5e]
    cases ht5v
    · have E : Hid (okEN D h.n0 ep ln Lg su fn F ha false T K Wt nx = false) := by unfold Hid okEN; rw [Khs.out, Khl.out, Kh1.out, Kh2.out, Khu.out, Kht3.out, Kht4.out, ht5e]; rfl
      clear ht5e
      go_wp2
      go_ret
      exact ⟨ret_bool E.out.symm, B5.out⟩
    have Kht5 : Hid ((T.all fun v => lnk Lg v.x v.f) = true) := ht5e
    clear ht5e
    have LST := lnk_last Kht5.out
    rw [HL.out] at LST
    have C6' := C6.out HLN.out HPL.out H10.out LST w5 X5.out B5.out
    clear C6 LST
    obtain ⟨q, hq⟩ : ∃ q, q = resT Lg T := ⟨_, rfl⟩
    rw [← hq] at C6'
    have HQ : Hid (q = resT Lg T) := hq
    clear hq
    go_wp2_with fail
    refine C6'.mono ?_
    rintro e w6 ⟨rfl, hb⟩
    have B6 : Hid (Below w.heap.size w w6) := B5.out.trans (hb.mono B5.out.size)
    clear hb X5 B5 C6' x0 x1 x2 x3 x4 x5 x6 x7 x8 x9 x10 x11 x12 x13
    by_cases hr : (ln : Int) + q ≤ 60
    · have E : Hid (okEN D h.n0 ep ln Lg su fn F ha false T K Wt nx = true) := by unfold Hid okEN; rw [Khs.out, Khl.out, Kh1.out, Kh2.out, Khu.out, Kht3.out, Kht4.out, Kht5.out, decide_eq_true (by rw [← HQ.out]; exact hr)]; rfl
      go_wp2
      go_ret
      exact ⟨ret_bool (by rw [E.out]; first | rfl | exact decide_eq_true (by omega)), B6.out⟩
    · have E : Hid (okEN D h.n0 ep ln Lg su fn F ha false T K Wt nx = false) := by unfold Hid okEN; rw [Khs.out, Khl.out, Kh1.out, Kh2.out, Khu.out, Kht3.out, Kht4.out, Kht5.out, decide_eq_false (by rw [← HQ.out]; exact hr)]; rfl
      go_wp2
      go_ret
      exact ⟨ret_bool (by rw [E.out]; first | rfl | exact decide_eq_false (by omega)), B6.out⟩
  case true =>
    go_wp2_with fail
    refine C3'.mono ?_
    rintro e w3 ⟨rfl, hb⟩
    have B3 : Hid (Below w.heap.size w w3) := B2.out.trans (hb.mono B2.out.size)
    have X3 : Hid (Box _ _ _ _) := X2.out.belowS hb
    clear hb X2 B2 x0 x1 x2 x3 x4 x5 x6 x7 x8 x9 x10 x11 x12 x13 C3'
    obtain ⟨x0, x1, x2, x3, x4, x5, x6, x7, x8, x9, x10, x11, x12, x13⟩ := box14 X3.out
    obtain ⟨ht3v, ht3e⟩ : ∃ b, (decide (T.length ≤ 10) && asT nx 1 T) = b := ⟨_, rfl⟩
    rw [ht3e]
    cases ht3v
    · have E : Hid (okEN D h.n0 ep ln Lg su fn F ha true T K Wt nx = false) := by unfold Hid okEN; rw [Khs.out, Khl.out, Kh1.out, Kh2.out, Khu.out, ht3e]; rfl
      clear ht3e
      go_wp2
      go_ret
      exact ⟨ret_bool E.out.symm, B3.out⟩
    have Kht3 : Hid ((decide (T.length ≤ 10) && asT nx 1 T) = true) := ht3e
    clear ht3e
    have P3 := Kht3.out
    rw [Bool.and_eq_true, decide_eq_true_eq] at P3
    have IDS := asT_ids h2 T 1 (by omega) P3.2
    have H10 : Hid (T.length ≤ 10) := P3.1
    have C4' := C4.out IDS Khl.out w3 B3.out
    clear P3 IDS C4
    go_wp2_with fail
    refine C4'.mono ?_
    rintro e w4 ⟨rfl, hb⟩
    have B4 : Hid (Below w.heap.size w w4) := B3.out.trans (hb.mono B3.out.size)
    have X4 : Hid (Box _ _ _ _) := X3.out.belowS hb
    clear hb X3 B3 x0 x1 x2 x3 x4 x5 x6 x7 x8 x9 x10 x11 x12 x13
    obtain ⟨x0, x1, x2, x3, x4, x5, x6, x7, x8, x9, x10, x11, x12, x13⟩ := box14 X4.out
    obtain ⟨ht4v, ht4e⟩ : ∃ b, ((K.all fun v => isT T v.x) && Wt.all fun v => isT T v.x && isT T v.f) = b := ⟨_, rfl⟩
    rw [ht4e]
    cases ht4v
    · have E : Hid (okEN D h.n0 ep ln Lg su fn F ha true T K Wt nx = false) := by unfold Hid okEN; rw [Khs.out, Khl.out, Kh1.out, Kh2.out, Khu.out, Kht3.out, ht4e]; rfl
      clear ht4e
      go_wp2
      go_ret
      exact ⟨ret_bool E.out.symm, B4.out⟩
    have Kht4 : Hid (((K.all fun v => isT T v.x) && Wt.all fun v => isT T v.x && isT T v.f) = true) := ht4e
    clear ht4e
    have C5' := C5.out HPL.out.1 w4 B4.out
    clear C5
    go_wp2_with fail
    refine C5'.mono ?_
    rintro e w5 ⟨rfl, hb⟩
    have B5 : Hid (Below w.heap.size w w5) := B4.out.trans (hb.mono B4.out.size)
    have X5 : Hid (Box _ _ _ _) := X4.out.belowS hb
    clear hb X4 B4 x0 x1 x2 x3 x4 x5 x6 x7 x8 x9 x10 x11 x12 x13
    obtain ⟨x0, x1, x2, x3, x4, x5, x6, x7, x8, x9, x10, x11, x12, x13⟩ := box14 X5.out
    obtain ⟨ht5v, ht5e⟩ : ∃ b, (T.all fun v => lnk Lg v.x v.f) = b := ⟨_, rfl⟩
    rw [ht5e]
    cases ht5v
    · have E : Hid (okEN D h.n0 ep ln Lg su fn F ha true T K Wt nx = false) := by unfold Hid okEN; rw [Khs.out, Khl.out, Kh1.out, Kh2.out, Khu.out, Kht3.out, Kht4.out, ht5e]; rfl
      clear ht5e
      go_wp2
      go_ret
      exact ⟨ret_bool E.out.symm, B5.out⟩
    have Kht5 : Hid ((T.all fun v => lnk Lg v.x v.f) = true) := ht5e
    clear ht5e
    have LST := lnk_last Kht5.out
    rw [HL.out] at LST
    have C6' := C6.out HLN.out HPL.out H10.out LST w5 X5.out B5.out
    clear C6 LST
    obtain ⟨q, hq⟩ : ∃ q, q = resT Lg T := ⟨_, rfl⟩
    rw [← hq] at C6'
    have HQ : Hid (q = resT Lg T) := hq
    clear hq
    go_wp2_with fail
    refine C6'.mono ?_
    rintro e w6 ⟨rfl, hb⟩
    have B6 : Hid (Below w.heap.size w w6) := B5.out.trans (hb.mono B5.out.size)
    clear hb X5 B5 C6' x0 x1 x2 x3 x4 x5 x6 x7 x8 x9 x10 x11 x12 x13
    by_cases hr : (ln : Int) + q ≤ 60
    · have E : Hid (okEN D h.n0 ep ln Lg su fn F ha true T K Wt nx = true) := by unfold Hid okEN; rw [Khs.out, Khl.out, Kh1.out, Kh2.out, Khu.out, Kht3.out, Kht4.out, Kht5.out, decide_eq_true (by rw [← HQ.out]; exact hr)]; rfl
      go_wp2
      go_ret
      exact ⟨ret_bool (by rw [E.out]; first | rfl | exact decide_eq_true (by omega)), B6.out⟩
    · have E : Hid (okEN D h.n0 ep ln Lg su fn F ha true T K Wt nx = false) := by unfold Hid okEN; rw [Khs.out, Khl.out, Kh1.out, Kh2.out, Khu.out, Kht3.out, Kht4.out, Kht5.out, decide_eq_false (by rw [← HQ.out]; exact hr)]; rfl
      go_wp2
      go_ret
      exact ⟨ret_bool (by rw [E.out]; first | rfl | exact decide_eq_false (by omega)), B6.out⟩

end Go.Proofs.YtfibdpfhfgnbiaaGreatDoor
