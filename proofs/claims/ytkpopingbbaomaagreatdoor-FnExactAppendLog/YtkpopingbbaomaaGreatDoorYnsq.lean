/-
  The specification's AppendLog.
-/
import Derived.Test.YtkpopingbbaomaaGreatDoorYnrq
import Derived.Test.YtkpopingbbaomaaGreatDoorYnpq
import Derived.Test.YtkpopingbbaomaaGreatDoorYtdq
namespace Go.Proofs.YtkpopingbbaomaaGreatDoor
open Go Go.RowKit
attribute [local go_sem ↓] Go.wp_at_zero Go.wp_at_succ

/-- A copy by the specification, held in a box of the caller's. -/
theorem own_done {W w2 : World} {h2 : HD} {D : DD} {l2 : Option Addr} {ln lc2 : Nat} {L : List DR} {f2 : Option Addr} {fn : Nat} {gs : List FF} {q1 q2 : Nat} (h0 : W.heap.size ≤ q1) (ow : w2.ownsRow q1 78 10 (.slice l2 ln lc2) ln (cellsQ L)) (rt : RdT w2 h2 D f2 fn gs W.heap.size q1 q2) (V : World) (hz : w2.heap.size ≤ V.heap.size) (hs : ∀ g, W.heap.size ≤ g → g < w2.heap.size → V.heap[g]? = w2.heap[g]?) : RdD V h2 D ∧ RdQ V l2 ln L ∧ RdF V f2 fn gs := by
  have q := rt V hz fun g a b _ => hs g a b
  exact ⟨q.1, RdQ.own (own_same ow fun g e => by have := ow.lt g e; exact hs g (by omega) this.2), q.2⟩
set_option maxRecDepth 100000 in
set_option maxHeartbeats 8000000 in
theorem c_specAL (h : HD) (D : DD) (ep : Int) (la : Option Addr) (ln lc : Nat) (L : List DR) (su : Int) (fa : Option Addr) (fn fc : Nat) (F : List FF) (ha : Int) (r : DR) (w : World) (rd : RdD w h D) (hk : HOK h) (rl : RdQ w la ln L) (hlk : la = none → lc = 0) (rf : RdF w fa fn F) (hpk : ∀ i, i < fn → G.SrcG (F.getD i zeroF).h) (hf : FitS D ln L fn F) (hbs : r.b.size ≤ 1048576) (has : r.a.size ≤ 1048576) :
    Calls Tryz.prog 37 #[.agg #[.slice h.a0 h.n0 h.c0, .slice h.a1 h.n1 h.c1, .bool h.b, .slice h.a2 h.n2 h.c2, .int .i64 ep, .slice la ln lc, .int .i64 su, .slice fa fn fc, .int .i64 ha], .agg #[.int .i64 r.e, .int .i64 r.l, .int .i64 r.t, .int .i64 r.k, .int .i64 r.p, .int .i64 r.n, .int .i64 r.g, .int .i64 r.s, .string r.b, .string r.a]] w (AnsNS w (appN (okST D h.n0 ep ln L su fn F ha) D ep L su F ha r)) := by
  have hFl := rf.1
  have hLl := rl.1
  obtain ⟨V, hV⟩ : ∃ V, ((w.alloc (.cells #[.slice h.a0 h.n0 h.c0, .slice h.a1 h.n1 h.c1, .bool h.b, .slice h.a2 h.n2 h.c2, .int .i64 ep, .slice la ln lc, .int .i64 su, .slice fa fn fc, .int .i64 ha] 46)).alloc (.cells #[.int .i64 r.e, .int .i64 r.l, .int .i64 r.t, .int .i64 r.k, .int .i64 r.p, .int .i64 r.n, .int .i64 r.g, .int .i64 r.s, .string r.b, .string r.a] 78)).alloc (.cells #[.slice none 0 0, .slice none 0 0, .bool false, .slice none 0 0, .int .i64 0, .slice none 0 0, .int .i64 0, .slice none 0 0, .int .i64 0] 46) = V := ⟨_, rfl⟩
  have B0 : Hid (Below w.heap.size w V) := by unfold Hid; rw [← hV]; exact (((Below.refl _ _).alloc (Nat.le_refl _) _).alloc (by simp) _).alloc (by simp; omega) _
  have X0 : Hid (Box V w.heap.size 46 #[.slice h.a0 h.n0 h.c0, .slice h.a1 h.n1 h.c1, .bool h.b, .slice h.a2 h.n2 h.c2, .int .i64 ep, .slice la ln lc, .int .i64 su, .slice fa fn fc, .int .i64 ha]) := by unfold Hid; rw [← hV]; exact ((Box.new _ _ _).alloc _).alloc _
  have R0 : Hid (Box V (w.heap.size + 1) 78 #[.int .i64 r.e, .int .i64 r.l, .int .i64 r.t, .int .i64 r.k, .int .i64 r.p, .int .i64 r.n, .int .i64 r.g, .int .i64 r.s, .string r.b, .string r.a]) := by unfold Hid; rw [← hV]; exact (Box.new2 _ _ _ _).alloc _
  have Y0 : Hid (Box V (w.heap.size + 2) 46 #[.slice none 0 0, .slice none 0 0, .bool false, .slice none 0 0, .int .i64 0, .slice none 0 0, .int .i64 0, .slice none 0 0, .int .i64 0]) := by unfold Hid; rw [← hV]; have := Box.new2 (w.alloc (.cells #[.slice h.a0 h.n0 h.c0, .slice h.a1 h.n1 h.c1, .bool h.b, .slice h.a2 h.n2 h.c2, .int .i64 ep, .slice la ln lc, .int .i64 su, .slice fa fn fc, .int .i64 ha] 46)) (.cells #[.int .i64 r.e, .int .i64 r.l, .int .i64 r.t, .int .i64 r.k, .int .i64 r.p, .int .i64 r.n, .int .i64 r.g, .int .i64 r.s, .string r.b, .string r.a] 78) #[.slice none 0 0, .slice none 0 0, .bool false, .slice none 0 0, .int .i64 0, .slice none 0 0, .int .i64 0, .slice none 0 0, .int .i64 0] 46; simpa using this
  have C1 := c_specST h ep la ln lc su fa fn fc ha D L F V (rd.below B0.out) hf.1 (rl.below B0.out) hf.2.1.1 hf.2.1.2 (rf.below B0.out) hf.2.2.1 hf.2.2.2
  have C2 : Hid (∀ W, Below w.heap.size w W → Calls Tryz.prog 94 #[.agg #[.slice h.a0 h.n0 h.c0, .slice h.a1 h.n1 h.c1, .bool h.b, .slice h.a2 h.n2 h.c2, .int .i64 ep, .slice la ln lc, .int .i64 su, .slice fa fn fc, .int .i64 ha]] W fun e w' => (∃ (h' : HD) (la' : Option Addr) (lc' : Nat) (fa' : Option Addr) (fc' : Nat) (gs : List FF) (q1 q2 : Nat), e = .returned (.agg #[.slice h'.a0 h'.n0 h'.c0, .slice h'.a1 h'.n1 h'.c1, .bool h'.b, .slice h'.a2 h'.n2 h'.c2, .int .i64 ep, .slice la' ln lc', .int .i64 su, .slice fa' fn fc', .int .i64 ha]) ∧ SameF F gs ∧ W.heap.size ≤ q1 ∧ q2 ≤ w'.heap.size ∧ (w'.ownsRow q1 78 10 (.slice la' ln lc') ln (cellsQ L) ∧ ∀ g, ob la' = some g → q1 ≤ g ∧ g < q2) ∧ RdT w' h' D fa' fn gs W.heap.size q1 q2) ∧ Below W.heap.size W w') := fun W hW => c_l05Own h D ep la ln lc L su fa fn fc F ha W (rd.below hW) hk (rl.below hW) hlk (rf.below hW) hpk hf
  have hln : ln ≤ 1048576 := hf.2.1.1
  have HA : Hid (∀ P : AN → Prop, (ln = 60 → P ⟨D, ep, L, su, F, ha, 7⟩) → (ln ≠ 60 → okLR (⟨ep, ((ln : Int) + 1), r.t, r.k, r.p, r.n, r.g, r.s, r.b, r.a⟩ : DR) = true → P ⟨D, ep, L ++ [(⟨ep, ((ln : Int) + 1), r.t, r.k, r.p, r.n, r.g, r.s, r.b, r.a⟩ : DR)], su, F, ha, 0⟩) → (ln ≠ 60 → okLR (⟨ep, ((ln : Int) + 1), r.t, r.k, r.p, r.n, r.g, r.s, r.b, r.a⟩ : DR) = false → P ⟨D, ep, L, su, F, ha, 3⟩) → P (appN true D ep L su F ha r)) := by
    intro P h1 h2 h3
    unfold appN addL
    rw [hLl, if_pos rfl]
    by_cases c : ln = 60
    · rw [if_pos c]; exact h1 c
    · rw [if_neg c]
      cases d : okLR (⟨ep, ((ln : Int) + 1), r.t, r.k, r.p, r.n, r.g, r.s, r.b, r.a⟩ : DR)
      · rw [if_neg (by simp)]; exact h3 c d
      · rw [if_pos rfl]; exact h2 c d
  have HFL : Hid (F.length = fn) := hFl
  have HLL : Hid (L.length = ln) := hLl
  obtain ⟨ok, hok⟩ : ∃ ok, ok = okST D h.n0 ep ln L su fn F ha := ⟨_, rfl⟩
  rw [← hok] at C1 ⊢
  have CW : Hid (∀ W : World, Calls Tryz.prog 95 #[.agg #[.int .i64 ep, .int .i64 ((ln : Int) + 1), .int .i64 r.t, .int .i64 r.k, .int .i64 r.p, .int .i64 r.n, .int .i64 r.g, .int .i64 r.s, .string r.b, .string r.a]] W fun e' w' => e' = .returned (.bool (okLR (⟨ep, ((ln : Int) + 1), r.t, r.k, r.p, r.n, r.g, r.s, r.b, r.a⟩ : DR))) ∧ Below W.heap.size W w') := fun W => by
    have := c_specLR ep ((ln : Int) + 1) r.t r.k r.p r.n r.g r.s r.b r.a W hbs has
    rw [okLS_eq] at this
    exact this
  clear rd hk rl hlk rf hpk hf hok hbs has hFl hLl
  obtain ⟨v0, v1, v2, v3, v4, v5, v6, v7, v8⟩ := box9 X0.out
  go_enter Tryz.func37, Tryz.ntmps37
  go_wp2_with fail
  refine C1.mono ?_
  rintro e w1 ⟨rfl, hb⟩
  have B1 : Hid (Below w.heap.size w w1) := B0.out.trans (hb.mono B0.out.size)
  have X1 : Hid (Box w1 w.heap.size 46 #[.slice h.a0 h.n0 h.c0, .slice h.a1 h.n1 h.c1, .bool h.b, .slice h.a2 h.n2 h.c2, .int .i64 ep, .slice la ln lc, .int .i64 su, .slice fa fn fc, .int .i64 ha]) := X0.out.belowS hb
  have R1 : Hid (Box w1 (w.heap.size + 1) 78 #[.int .i64 r.e, .int .i64 r.l, .int .i64 r.t, .int .i64 r.k, .int .i64 r.p, .int .i64 r.n, .int .i64 r.g, .int .i64 r.s, .string r.b, .string r.a]) := R0.out.belowS hb
  have Y1 : Hid (Box w1 (w.heap.size + 2) 46 #[.slice none 0 0, .slice none 0 0, .bool false, .slice none 0 0, .int .i64 0, .slice none 0 0, .int .i64 0, .slice none 0 0, .int .i64 0]) := Y0.out.belowS hb
  have s1 : w.heap.size + 2 < w1.heap.size := Y1.out.lt
  have s1' : w.heap.size < w1.heap.size := X1.out.lt
  have s1'' : w.heap.size + 1 < w1.heap.size := R1.out.lt
  clear hb X0 R0 Y0 B0 C1 hV v0 v1 v2 v3 v4 v5 v6 v7 v8
  obtain ⟨v0, v1, v2, v3, v4, v5, v6, v7, v8⟩ := box9 X1.out
  cases ok
  · obtain ⟨y0, y1, y2, y3, y4, y5, y6, y7, y8⟩ := box9 Y1.out
    have t0 := Y1.out.thaw 0
    have t1 := Y1.out.thaw 1
    have t2 := Y1.out.thaw 2
    have t3 := Y1.out.thaw 3
    have t4 := Y1.out.thaw 4
    have t5 := Y1.out.thaw 5
    have t6 := Y1.out.thaw 6
    have t7 := Y1.out.thaw 7
    have t8 := Y1.out.thaw 8
    go_wp2
    exact ret92 Tryz.results37 rfl rfl rfl (put9_box Y1.out _ _ _ _ _ _ _ _ _) ⟨⟨⟨none, 0, 0, none, 0, 0, false, none, 0, 0⟩, none, 0, none, 0, [], rfl, rfl, fun V' _ _ => (ownT_bad V' 0 (Nat.zero_le _)).rd⟩, put9_below B1.out (by omega) _ _ _ _ _ _ _ _ _⟩
  by_cases c60 : ln = 60
  · subst c60
    go_wp2_with fail
    refine (C2.out w1 B1.out).mono ?_
    rintro e w2 ⟨⟨h2, l2, lc2, f2, fc2, gs, q1, q2, rfl, sm, hq1, hq2, ow, rt⟩, hb⟩
    have s2 : w1.heap.size ≤ w2.heap.size := hb.size
    have Y2 : Hid (Box w2 (w.heap.size + 2) 46 #[.slice none 0 0, .slice none 0 0, .bool false, .slice none 0 0, .int .i64 0, .slice none 0 0, .int .i64 0, .slice none 0 0, .int .i64 0]) := Y1.out.belowS hb
    have B2 : Hid (Below w.heap.size w w2) := B1.out.trans (hb.mono B1.out.size)
    have SM : Hid (SameF F gs) := sm
    have DN : Hid (∀ (V : World), w2.heap.size ≤ V.heap.size → (∀ g, w1.heap.size ≤ g → g < w2.heap.size → V.heap[g]? = w2.heap[g]?) → RdD V h2 D ∧ RdQ V l2 60 L ∧ RdF V f2 fn gs) := own_done hq1 ow.1 rt
    clear hb sm ow rt v0 v1 v2 v3 v4 v5 v6 v7 v8 Y1 B1 X1 R1 C2
    obtain ⟨y0, y1, y2, y3, y4, y5, y6, y7, y8⟩ := box9 Y2.out
    have t0 := Y2.out.thaw 0
    have t1 := Y2.out.thaw 1
    have t2 := Y2.out.thaw 2
    have t3 := Y2.out.thaw 3
    have t4 := Y2.out.thaw 4
    have t5 := Y2.out.thaw 5
    have t6 := Y2.out.thaw 6
    have t7 := Y2.out.thaw 7
    have t8 := Y2.out.thaw 8
    go_wp2
    refine ret92 Tryz.results37 rfl rfl rfl (put9_box Y2.out _ _ _ _ _ _ _ _ _) ?_
    refine HA.out (fun N => AnsNS w N _ ((((((((((w2.setCell ⟨(w.heap.size + 2), 0, none⟩ (.slice h2.a0 h2.n0 h2.c0)).setCell ⟨(w.heap.size + 2), 1, none⟩ (.slice h2.a1 h2.n1 h2.c1)).setCell ⟨(w.heap.size + 2), 2, none⟩ (.bool h2.b)).setCell ⟨(w.heap.size + 2), 3, none⟩ (.slice h2.a2 h2.n2 h2.c2)).setCell ⟨(w.heap.size + 2), 4, none⟩ (.int .i64 ep)).setCell ⟨(w.heap.size + 2), 5, none⟩ (.slice l2 60 lc2)).setCell ⟨(w.heap.size + 2), 6, none⟩ (.int .i64 su)).setCell ⟨(w.heap.size + 2), 7, none⟩ (.slice f2 fn fc2)).setCell ⟨(w.heap.size + 2), 8, none⟩ (.int .i64 ha)))) (fun _ => ?_) (fun x => absurd rfl x) (fun x => absurd rfl x)
    have hl := HLL.out
    have hf := HFL.out
    subst hf
    refine ⟨⟨h2, l2, lc2, f2, fc2, gs, by dsimp only; rw [hl]; rfl, SM.out, ?_⟩, put9_below B2.out (by omega) _ _ _ _ _ _ _ _ _⟩
    dsimp only
    rw [hl]
    exact fun V' hz hs => DN.out V' (by simp at hz; omega) fun g a b => (hs g (by omega) (by simp; omega)).trans (put9_same _ _ _ _ _ _ _ _ _ _ _ _ (by omega))
  have c60' : ¬ ((ln : Int) = 60) := by omega
  have hW : IntKind.i64.wrap ((ln : Int) + 1) = (ln : Int) + 1 := by rw [IntKind.wrap_i64]; omega
  obtain ⟨W2, hW2⟩ : ∃ W2, (w1.setCell ⟨w.heap.size + 1, 1, none⟩ (.int .i64 ((ln : Int) + 1))).setCell ⟨w.heap.size + 1, 0, none⟩ (.int .i64 ep) = W2 := ⟨_, rfl⟩
  have K2 : ∀ x, x ≠ w.heap.size + 1 → W2.heap[x]? = w1.heap[x]? := fun x hx => by rw [← hW2, Below.heap_setCell _ _ _ _ hx, Below.heap_setCell _ _ _ _ hx]
  have S2 : W2.heap.size = w1.heap.size := by rw [← hW2]; simp
  have X2 : Hid (Box W2 w.heap.size 46 #[.slice h.a0 h.n0 h.c0, .slice h.a1 h.n1 h.c1, .bool h.b, .slice h.a2 h.n2 h.c2, .int .i64 ep, .slice la ln lc, .int .i64 su, .slice fa fn fc, .int .i64 ha]) := (K2 _ (by omega)).trans X1.out
  have Y2 : Hid (Box W2 (w.heap.size + 2) 46 #[.slice none 0 0, .slice none 0 0, .bool false, .slice none 0 0, .int .i64 0, .slice none 0 0, .int .i64 0, .slice none 0 0, .int .i64 0]) := (K2 _ (by omega)).trans Y1.out
  have R2 : Hid (Box W2 (w.heap.size + 1) 78 #[.int .i64 ep, .int .i64 ((ln : Int) + 1), .int .i64 r.t, .int .i64 r.k, .int .i64 r.p, .int .i64 r.n, .int .i64 r.g, .int .i64 r.s, .string r.b, .string r.a]) := by
    have := (R1.out.set 1 (.int .i64 ((ln : Int) + 1))).set 0 (.int .i64 ep)
    rw [hW2] at this
    simpa [Hid] using this
  have B2 : Hid (Below w.heap.size w W2) := by unfold Hid; rw [← hW2]; exact (B1.out.setCell (by simp) _).setCell (by simp) _
  have z0 := R1.out.thaw 0
  have z1 := R1.out.thaw 1
  obtain ⟨q0, q1, q2, q3, q4, q5, q6, q7, q8, q9⟩ := box10 R1.out
  obtain ⟨x0, x1, x2, x3, x4, x5, x6, x7, x8⟩ := box9 X2.out
  obtain ⟨o0, o1, o2, o3, o4, o5, o6, o7, o8, o9⟩ := box10 R2.out
  have sW2 : w.heap.size < W2.heap.size := by omega
  have C := CW.out W2
  clear K2
  go_wp2_with fail
  refine C.mono ?_
  rintro e' w3 ⟨rfl, hb⟩
  have X3 : Hid (Box w3 w.heap.size 46 #[.slice h.a0 h.n0 h.c0, .slice h.a1 h.n1 h.c1, .bool h.b, .slice h.a2 h.n2 h.c2, .int .i64 ep, .slice la ln lc, .int .i64 su, .slice fa fn fc, .int .i64 ha]) := X2.out.belowS hb
  have R3 : Hid (Box w3 (w.heap.size + 1) 78 #[.int .i64 ep, .int .i64 ((ln : Int) + 1), .int .i64 r.t, .int .i64 r.k, .int .i64 r.p, .int .i64 r.n, .int .i64 r.g, .int .i64 r.s, .string r.b, .string r.a]) := R2.out.belowS hb
  have Y3 : Hid (Box w3 (w.heap.size + 2) 46 #[.slice none 0 0, .slice none 0 0, .bool false, .slice none 0 0, .int .i64 0, .slice none 0 0, .int .i64 0, .slice none 0 0, .int .i64 0]) := Y2.out.belowS hb
  have B3 : Hid (Below w.heap.size w w3) := B2.out.trans (hb.mono B2.out.size)
  have s3 : w.heap.size + 2 < w3.heap.size := Y3.out.lt
  clear hb X2 R2 Y2 B2 X1 R1 Y1 B1 C CW S2 sW2 s1 s1' s1''
  clear v0 v1 v2 v3 v4 v5 v6 v7 v8
  clear x0 x1 x2 x3 x4 x5 x6 x7 x8
  clear q0 q1 q2 q3 q4 q5 q6 q7 q8 q9
  clear o0 o1 o2 o3 o4 o5 o6 o7 o8 o9
  clear z0 z1
  clear hW2
  have s3' : w.heap.size < w3.heap.size := by omega
  have s3'' : w.heap.size + 1 < w3.heap.size := by omega
  obtain ⟨v0, v1, v2, v3, v4, v5, v6, v7, v8⟩ := box9 X3.out
  cases hok : okLR (⟨ep, ((ln : Int) + 1), r.t, r.k, r.p, r.n, r.g, r.s, r.b, r.a⟩ : DR)
  · have HOK : Hid (okLR (⟨ep, ((ln : Int) + 1), r.t, r.k, r.p, r.n, r.g, r.s, r.b, r.a⟩ : DR) = false) := hok
    go_wp2_with fail
    refine (C2.out w3 B3.out).mono ?_
    rintro e w2 ⟨⟨h2, l2, lc2, f2, fc2, gs, q1, q2, rfl, sm, hq1, hq2, ow, rt⟩, hb⟩
    have s2 : w3.heap.size ≤ w2.heap.size := hb.size
    have Y2 : Hid (Box w2 (w.heap.size + 2) 46 #[.slice none 0 0, .slice none 0 0, .bool false, .slice none 0 0, .int .i64 0, .slice none 0 0, .int .i64 0, .slice none 0 0, .int .i64 0]) := Y3.out.belowS hb
    have B2 : Hid (Below w.heap.size w w2) := B3.out.trans (hb.mono B3.out.size)
    have SM : Hid (SameF F gs) := sm
    have DN : Hid (∀ (V : World), w2.heap.size ≤ V.heap.size → (∀ g, w3.heap.size ≤ g → g < w2.heap.size → V.heap[g]? = w2.heap[g]?) → RdD V h2 D ∧ RdQ V l2 ln L ∧ RdF V f2 fn gs) := own_done hq1 ow.1 rt
    clear hb sm ow rt v0 v1 v2 v3 v4 v5 v6 v7 v8 Y3 B3 X3 R3 C2 hok
    obtain ⟨y0, y1, y2, y3, y4, y5, y6, y7, y8⟩ := box9 Y2.out
    have t0 := Y2.out.thaw 0
    have t1 := Y2.out.thaw 1
    have t2 := Y2.out.thaw 2
    have t3 := Y2.out.thaw 3
    have t4 := Y2.out.thaw 4
    have t5 := Y2.out.thaw 5
    have t6 := Y2.out.thaw 6
    have t7 := Y2.out.thaw 7
    have t8 := Y2.out.thaw 8
    go_wp2
    refine ret92 Tryz.results37 rfl rfl rfl (put9_box Y2.out _ _ _ _ _ _ _ _ _) ?_
    refine HA.out (fun N => AnsNS w N _ ((((((((((w2.setCell ⟨(w.heap.size + 2), 0, none⟩ (.slice h2.a0 h2.n0 h2.c0)).setCell ⟨(w.heap.size + 2), 1, none⟩ (.slice h2.a1 h2.n1 h2.c1)).setCell ⟨(w.heap.size + 2), 2, none⟩ (.bool h2.b)).setCell ⟨(w.heap.size + 2), 3, none⟩ (.slice h2.a2 h2.n2 h2.c2)).setCell ⟨(w.heap.size + 2), 4, none⟩ (.int .i64 ep)).setCell ⟨(w.heap.size + 2), 5, none⟩ (.slice l2 ln lc2)).setCell ⟨(w.heap.size + 2), 6, none⟩ (.int .i64 su)).setCell ⟨(w.heap.size + 2), 7, none⟩ (.slice f2 fn fc2)).setCell ⟨(w.heap.size + 2), 8, none⟩ (.int .i64 ha)))) (fun x => absurd x c60) (fun _ x => by have := HOK.out; rw [this] at x; cases x) (fun _ _ => ?_)
    have hl := HLL.out
    have hf := HFL.out
    subst hf
    refine ⟨⟨h2, l2, lc2, f2, fc2, gs, by dsimp only; rw [hl]; rfl, SM.out, ?_⟩, put9_below B2.out (by omega) _ _ _ _ _ _ _ _ _⟩
    dsimp only
    rw [hl]
    exact fun V' hz hs => DN.out V' (by simp at hz; omega) fun g a b => (hs g (by omega) (by simp; omega)).trans (put9_same _ _ _ _ _ _ _ _ _ _ _ _ (by omega))
  · have HOK : Hid (okLR (⟨ep, ((ln : Int) + 1), r.t, r.k, r.p, r.n, r.g, r.s, r.b, r.a⟩ : DR) = true) := hok
    go_wp2_with fail
    refine (C2.out w3 B3.out).mono ?_
    rintro e w4 ⟨⟨h2, l2, lc2, f2, fc2, gs, q1, q2, rfl, sm, hq1, hq2, ow, rt⟩, hb⟩
    have s4 : w3.heap.size ≤ w4.heap.size := hb.size
    have R4 : Hid (Box w4 (w.heap.size + 1) 78 #[.int .i64 ep, .int .i64 ((ln : Int) + 1), .int .i64 r.t, .int .i64 r.k, .int .i64 r.p, .int .i64 r.n, .int .i64 r.g, .int .i64 r.s, .string r.b, .string r.a]) := R3.out.belowS hb
    have Y4 : Hid (Box w4 (w.heap.size + 2) 46 #[.slice none 0 0, .slice none 0 0, .bool false, .slice none 0 0, .int .i64 0, .slice none 0 0, .int .i64 0, .slice none 0 0, .int .i64 0]) := Y3.out.belowS hb
    have B4 : Hid (Below w.heap.size w w4) := B3.out.trans (hb.mono B3.out.size)
    have SM : Hid (SameF F gs) := sm
    obtain ⟨U, hU⟩ : ∃ U, w4.alloc (.cells #[.slice h2.a0 h2.n0 h2.c0, .slice h2.a1 h2.n1 h2.c1, .bool h2.b, .slice h2.a2 h2.n2 h2.c2, .int .i64 ep, .slice l2 ln lc2, .int .i64 su, .slice f2 fn fc2, .int .i64 ha] 46) = U := ⟨_, rfl⟩
    have XU : Hid (Box U w4.heap.size 46 #[.slice h2.a0 h2.n0 h2.c0, .slice h2.a1 h2.n1 h2.c1, .bool h2.b, .slice h2.a2 h2.n2 h2.c2, .int .i64 ep, .slice l2 ln lc2, .int .i64 su, .slice f2 fn fc2, .int .i64 ha]) := by unfold Hid; rw [← hU]; exact Box.new _ _ _
    have KU : Hid (∀ x, x < w4.heap.size → U.heap[x]? = w4.heap[x]?) := by unfold Hid; intro x hx; rw [← hU]; exact Below.heap_alloc w4 _ x hx
    have SU : Hid (U.heap.size = w4.heap.size + 1) := by unfold Hid; rw [← hU]; simp
    have BU : Hid (Below w.heap.size w U) := by unfold Hid; rw [← hU]; exact B4.out.alloc B4.out.size _
    have RU : Hid (Box U (w.heap.size + 1) 78 #[.int .i64 ep, .int .i64 ((ln : Int) + 1), .int .i64 r.t, .int .i64 r.k, .int .i64 r.p, .int .i64 r.n, .int .i64 r.g, .int .i64 r.s, .string r.b, .string r.a]) := (KU.out _ (by omega)).trans R4.out
    have YU : Hid (Box U (w.heap.size + 2) 46 #[.slice none 0 0, .slice none 0 0, .bool false, .slice none 0 0, .int .i64 0, .slice none 0 0, .int .i64 0, .slice none 0 0, .int .i64 0]) := (KU.out _ (by omega)).trans Y4.out
    have OU : Hid (U.ownsRow q1 78 10 (.slice l2 ln lc2) ln (cellsQ L)) := own_same ow.1 fun x e => KU.out x (by have := ow.1.lt x e; omega)
    have GU : Hid (∀ x, ob l2 = some x → q1 ≤ x ∧ x < q2) := ow.2
    have RT : Hid (RdT w4 h2 D f2 fn gs w3.heap.size q1 q2) := rt
    have HQ : Hid (w3.heap.size ≤ q1 ∧ q2 ≤ w4.heap.size) := ⟨hq1, hq2⟩
    clear hb sm ow rt v0 v1 v2 v3 v4 v5 v6 v7 v8 Y3 B3 X3 R3 C2 hok R4 Y4 B4
    have u0 : w.heap.size < U.heap.size := by have := SU.out; omega
    have u1 : w.heap.size + 1 < U.heap.size := by have := SU.out; omega
    have u2 : w4.heap.size < U.heap.size := XU.out.lt
    obtain ⟨x0, x1, x2, x3, x4, x5, x6, x7, x8⟩ := box9 XU.out
    obtain ⟨o0, o1, o2, o3, o4, o5, o6, o7, o8, o9⟩ := box10 RU.out
    have ZU : Hid (∀ ad, some (⟨U.heap.size, 0, none⟩ : Addr) = some ad → ∀ j u, (cQ (⟨ep, ((ln : Int) + 1), r.t, r.k, r.p, r.n, r.g, r.s, r.b, r.a⟩ : DR))[j]? = some u → (U.alloc (.cells #[.int .i64 ep, .int .i64 ((ln : Int) + 1), .int .i64 r.t, .int .i64 r.k, .int .i64 r.p, .int .i64 r.n, .int .i64 r.g, .int .i64 r.s, .string r.b, .string r.a] 78)).cell? (ad.add j) = some u) := by
      intro ad ea j u hj
      cases ea
      have hx := boxR (v := (⟨ep, ((ln : Int) + 1), r.t, r.k, r.p, r.n, r.g, r.s, r.b, r.a⟩ : DR)) (Box.new U #[.int .i64 ep, .int .i64 ((ln : Int) + 1), .int .i64 r.t, .int .i64 r.k, .int .i64 r.p, .int .i64 r.n, .int .i64 r.g, .int .i64 r.s, .string r.b, .string r.a] 78) j u hj
      rw [Nat.zero_add] at hx
      by_cases j0 : j = 0
      · subst j0; simpa [Addr.add] using hx
      · simpa [Addr.add, j0] using hx
    obtain ⟨iQ, giQ, gzQ0, gzQ1, gzQ2⟩ := info_parts infoQ
    have hiQ : Hid (Tryz.prog.info? 78 = some iQ) := giQ
    have hzQ0 : Hid (iQ.zero = some (.agg #[.int .i64 0, .int .i64 0, .int .i64 0, .int .i64 0, .int .i64 0, .int .i64 0, .int .i64 0, .int .i64 0, .string ⟨#[]⟩, .string ⟨#[]⟩])) := gzQ0
    have hzQ1 : Hid (iQ.size = 10) := gzQ1
    have hzQ2 : Hid (iQ.bytes = 96) := gzQ2
    clear giQ gzQ0 gzQ1 gzQ2
    go_wp2_with (
      at_builtin; refine app_any _ rfl (.tmp 33) (.tmp 35) 43 rfl 0 78 iQ (.agg #[.int .i64 0, .int .i64 0, .int .i64 0, .int .i64 0, .int .i64 0, .int .i64 0, .int .i64 0, .int .i64 0, .string ⟨#[]⟩, .string ⟨#[]⟩]) 10 96 Tryz.underlying43 hiQ.out hzQ0.out hzQ1.out hzQ2.out rfl (by omega) (.slice l2 ln lc2) ln (cellsQ L) rfl ((own_same OU.out fun x e => Below.heap_alloc U _ x (by have := OU.out.lt x e; omega)).down (Nat.zero_le _)) (some ⟨U.heap.size, 0, none⟩) 1 1 (cQ (⟨ep, ((ln : Int) + 1), r.t, r.k, r.p, r.n, r.g, r.s, r.b, r.a⟩ : DR)) rfl (fun ex => by cases ex) rfl ZU.out (cQ_one _) (by unfold maxLen; omega) (by omega) (Nat.zero_le _) ?_
      intro l3 lc3 w5 ho hg hax
      rw [ob_slice] at hg hax
      have hq := HQ.out
      have suU := SU.out
      have HX5 : Hid (∀ x, ob l3 = some x → (q1 ≤ x ∧ x < q2) ∨ U.heap.size < x) := fun x ex => by
        rcases hax x ex with q | q
        · exact Or.inl (GU.out x q)
        · right; simp at q; omega
      have HO5 : Hid (w5.ownsRow 0 78 10 (.slice l3 (ln + 1) lc3) (ln + 1) (cellsQ (L ++ [(⟨ep, ((ln : Int) + 1), r.t, r.k, r.p, r.n, r.g, r.s, r.b, r.a⟩ : DR)]))) := by unfold Hid; rw [cellsQ_snoc]; exact ho
      have HK5 : Hid (∀ x, x < U.heap.size → (x < q1 ∨ q2 ≤ x) → w5.heap[x]? = U.heap[x]?) := fun x a1 a2 => (hg.block x (by simp; omega) (fun e => by have := GU.out x e.symm; omega)).trans (Below.heap_alloc U _ x a1)
      have s5 : U.heap.size < w5.heap.size := by have := hg.size; simp at this; omega
      have B5 : Hid (Below w.heap.size w w5) := (BU.out.alloc BU.out.size _).grown hg (by simp; omega) (fun x e => by have := GU.out x e; omega)
      have X5 : Box w5 w4.heap.size 46 #[.slice h2.a0 h2.n0 h2.c0, .slice h2.a1 h2.n1 h2.c1, .bool h2.b, .slice h2.a2 h2.n2 h2.c2, .int .i64 ep, .slice l2 ln lc2, .int .i64 su, .slice f2 fn fc2, .int .i64 ha] := (HK5.out w4.heap.size (by omega) (by omega)).trans XU.out
      have Y5 : Box w5 (w.heap.size + 2) 46 #[.slice none 0 0, .slice none 0 0, .bool false, .slice none 0 0, .int .i64 0, .slice none 0 0, .int .i64 0, .slice none 0 0, .int .i64 0] := (HK5.out (w.heap.size + 2) (by omega) (by omega)).trans YU.out
      obtain ⟨W6, hW6⟩ : ∃ W6, w5.setCell ⟨w4.heap.size, 5, none⟩ (.slice l3 (ln + 1) lc3) = W6 := ⟨_, rfl⟩
      have K6 : Hid (∀ x, x ≠ w4.heap.size → W6.heap[x]? = w5.heap[x]?) := by unfold Hid; intro x hx; rw [← hW6, Below.heap_setCell _ _ _ _ hx]
      have S6 : W6.heap.size = w5.heap.size := by rw [← hW6]; simp
      have X6 : Hid (Box W6 w4.heap.size 46 #[.slice h2.a0 h2.n0 h2.c0, .slice h2.a1 h2.n1 h2.c1, .bool h2.b, .slice h2.a2 h2.n2 h2.c2, .int .i64 ep, .slice l3 (ln + 1) lc3, .int .i64 su, .slice f2 fn fc2, .int .i64 ha]) := by have := X5.set 5 (.slice l3 (ln + 1) lc3); rw [hW6] at this; simpa [Hid] using this
      have Y6 : Hid (Box W6 (w.heap.size + 2) 46 #[.slice none 0 0, .slice none 0 0, .bool false, .slice none 0 0, .int .i64 0, .slice none 0 0, .int .i64 0, .slice none 0 0, .int .i64 0]) := (K6.out _ (by omega)).trans Y5
      have B6 : Hid (Below w.heap.size w W6) := by unfold Hid; rw [← hW6]; exact B5.out.setCell (show w.heap.size ≤ w4.heap.size by omega) _
      have z5 := X5.thaw 5
      obtain ⟨g0, g1, g2, g3, g4, g5, g6, g7, g8⟩ := box9 X5
      obtain ⟨j0, j1, j2, j3, j4, j5, j6, j7, j8⟩ := box9 X6.out
      obtain ⟨y0, y1, y2, y3, y4, y5, y6, y7, y8⟩ := box9 Y6.out
      have t0 := Y6.out.thaw 0
      have t1 := Y6.out.thaw 1
      have t2 := Y6.out.thaw 2
      have t3 := Y6.out.thaw 3
      have t4 := Y6.out.thaw 4
      have t5 := Y6.out.thaw 5
      have t6 := Y6.out.thaw 6
      have t7 := Y6.out.thaw 7
      have t8 := Y6.out.thaw 8
      have u6 : w4.heap.size < W6.heap.size := by omega
      have u7 : w4.heap.size < w5.heap.size := by omega
      clear ho hg hax X5 Y5 hq suU)
    refine ret92 Tryz.results37 rfl rfl rfl (put9_box Y6.out _ _ _ _ _ _ _ _ _) ?_
    refine HA.out (fun N => AnsNS w N _ ((((((((((W6.setCell ⟨(w.heap.size + 2), 0, none⟩ (.slice h2.a0 h2.n0 h2.c0)).setCell ⟨(w.heap.size + 2), 1, none⟩ (.slice h2.a1 h2.n1 h2.c1)).setCell ⟨(w.heap.size + 2), 2, none⟩ (.bool h2.b)).setCell ⟨(w.heap.size + 2), 3, none⟩ (.slice h2.a2 h2.n2 h2.c2)).setCell ⟨(w.heap.size + 2), 4, none⟩ (.int .i64 ep)).setCell ⟨(w.heap.size + 2), 5, none⟩ (.slice l3 (ln + 1) lc3)).setCell ⟨(w.heap.size + 2), 6, none⟩ (.int .i64 su)).setCell ⟨(w.heap.size + 2), 7, none⟩ (.slice f2 fn fc2)).setCell ⟨(w.heap.size + 2), 8, none⟩ (.int .i64 ha)))) (fun x => absurd x c60) (fun _ _ => ?_) (fun _ x => by have := HOK.out; rw [this] at x; cases x)
    have hl : (L ++ [(⟨ep, ((ln : Int) + 1), r.t, r.k, r.p, r.n, r.g, r.s, r.b, r.a⟩ : DR)]).length = ln + 1 := by rw [List.length_append, HLL.out]; rfl
    have hf := HFL.out
    subst hf
    have hq := HQ.out
    have suU := SU.out
    have KP : ∀ x, x ≠ w.heap.size + 2 → x ≠ w4.heap.size → ((((((((((W6.setCell ⟨(w.heap.size + 2), 0, none⟩ (.slice h2.a0 h2.n0 h2.c0)).setCell ⟨(w.heap.size + 2), 1, none⟩ (.slice h2.a1 h2.n1 h2.c1)).setCell ⟨(w.heap.size + 2), 2, none⟩ (.bool h2.b)).setCell ⟨(w.heap.size + 2), 3, none⟩ (.slice h2.a2 h2.n2 h2.c2)).setCell ⟨(w.heap.size + 2), 4, none⟩ (.int .i64 ep)).setCell ⟨(w.heap.size + 2), 5, none⟩ (.slice l3 (ln + 1) lc3)).setCell ⟨(w.heap.size + 2), 6, none⟩ (.int .i64 su)).setCell ⟨(w.heap.size + 2), 7, none⟩ (.slice f2 F.length fc2)).setCell ⟨(w.heap.size + 2), 8, none⟩ (.int .i64 ha))).heap[x]? = w5.heap[x]? := fun x a b => (put9_same _ _ _ _ _ _ _ _ _ _ _ _ a).trans (K6.out x b)
    refine ⟨⟨h2, l3, lc3, f2, fc2, gs, by dsimp only; rw [hl]; rfl, SM.out, fun V' hz hs => ?_⟩, put9_below B6.out (by omega) _ _ _ _ _ _ _ _ _⟩
    have hz' : w5.heap.size ≤ V'.heap.size := by simp at hz; omega
    have kq : ∀ x, w.heap.size ≤ x → x < w5.heap.size → x ≠ w.heap.size + 2 → x ≠ w4.heap.size → V'.heap[x]? = w5.heap[x]? := fun x a b c d => (hs x a (by simp; omega)).trans (KP x c d)
    have q := RT.out V' (by omega) fun x a1 a2 a3 => ((kq x (by omega) (by omega) (by omega) (by omega)).trans (HK5.out x (by omega) a3)).trans (KU.out x a2)
    refine ⟨q.1, ?_, q.2⟩
    dsimp only
    rw [hl]
    exact RdQ.own (own_same HO5.out fun x e => by
      have lt := (HO5.out.lt x e).2
      rw [ob_slice] at e
      have := HX5.out x e
      exact kq x (by omega) lt (by omega) (by omega))

end Go.Proofs.YtkpopingbbaomaaGreatDoor
