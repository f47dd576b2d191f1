/-
  CodeOK and CodeDepth on both sides, and the walks of their laws.
-/
import Derived.Test.YtepeaabacfjheaaDoorCh
import Derived.Deep.RegionHeld3
namespace Go.Proofs.YtepeaabacfjheaaDoor
open Go Go.RowKit
attribute [local go_sem ↓] Go.wp_at_zero Go.wp_at_succ

set_option linter.unusedVariables false
set_option maxRecDepth 100000 in
set_option maxHeartbeats 4000000 in
theorem c_implCO (L : List IN) (a : Option Addr) (n c : Nat) (w : World) (hr : RdI w a n L) (hm : n ≤ maxLen) (hs : ∀ v ∈ L, v.t.size ≤ maxLen) (ht : TakH w) : Calls Tryd.prog 10 #[.slice a n c] w fun e w' => e = .returned (.bool (okC n L)) ∧ Below w.heap.size w w' := by
  have C := c_most L a n c w hr hm hs ht
  obtain ⟨K, hK⟩ : ∃ K, okC n L = K := ⟨_, rfl⟩
  rw [hK] at C ⊢
  clear hr hs ht hK
  go_enter Tryd.func10, Tryd.ntmps10
  go_wp2_with fail
  refine C.mono ?_
  rintro e w1 ⟨⟨m, rfl, _⟩, hb⟩
  have HB : Hid (Below w.heap.size w w1) := hb
  clear hb C
  go_wp2
  go_ret
  exact ⟨rfl, HB.out⟩
set_option maxRecDepth 100000 in
set_option maxHeartbeats 4000000 in
theorem c_specCO (L : List IN) (a : Option Addr) (n c : Nat) (w : World) (hr : RdI w a n L) (hm : n ≤ maxLen) (hs : ∀ v ∈ L, v.t.size ≤ maxLen) : Calls Tryd.prog 8 #[.slice a n c] w fun e w' => e = .returned (.bool (okC n L)) ∧ Below w.heap.size w w' := by
  unfold maxLen at hm
  by_cases h80 : 80 < n
  · have E : Hid (okC n L = false) := by unfold Hid okC; rw [decide_eq_false (by omega)]; rfl
    clear hr hs
    by_cases h4 : 4096 < n
    all_goals
      go_enter Tryd.func8, Tryd.ntmps8
      go_wp2
      go_ret
      exact ⟨by rw [E.out]; rfl, Below.refl _ _⟩
  have C := c_depths L a n c w hr (by omega) hs
  have E : Hid (okC n L = (resC n L).isSome) := by unfold Hid okC; rw [decide_eq_true (by omega), Bool.true_and]
  clear hr hs
  have h4 : ¬ 4096 < n := by omega
  go_enter Tryd.func8, Tryd.ntmps8
  go_wp2_with fail
  refine C.mono ?_
  rintro e w1 ⟨⟨rfl, _⟩, hb⟩
  have HB : Hid (Below w.heap.size w w1) := hb
  clear hb C
  go_wp2
  go_ret
  exact ⟨by rw [E.out]; rfl, HB.out⟩
def cdV (n : Nat) (L : List IN) : Int := if okC n L then depC n L else 0
def cdC (n : Nat) (L : List IN) : Int := if 4096 < n then 2 else if okC n L then 0 else 1
theorem okC_big {n : Nat} {L : List IN} (h : 80 < n) : okC n L = false := by unfold okC; rw [decide_eq_false (by omega)]; rfl
set_option maxRecDepth 100000 in
set_option maxHeartbeats 4000000 in
theorem c_implCD (L : List IN) (a : Option Addr) (n c : Nat) (w : World) (hr : RdI w a n L) (hm : n ≤ maxLen) (hs : ∀ v ∈ L, v.t.size ≤ maxLen) (ht : TakH w) : Calls Tryd.prog 18 #[.slice a n c] w fun e w' => e = .returned (.tuple #[.int .i64 (cdV n L), .int .i64 (cdC n L)]) ∧ Below w.heap.size w w' := by
  have C := c_most L a n c w hr hm hs ht
  unfold maxLen at hm
  by_cases h4 : 4096 < n
  · have E : Hid (cdV n L = 0 ∧ cdC n L = 2) := by unfold Hid cdV cdC; rw [okC_big (by omega), if_pos h4]; exact ⟨rfl, rfl⟩
    clear hr hs ht C
    go_enter Tryd.func18, Tryd.ntmps18
    go_wp2
    go_ret2
    exact ⟨by rw [E.out.1, E.out.2]; rfl, Below.refl _ _⟩
  clear hr hs ht
  go_enter Tryd.func18, Tryd.ntmps18
  go_wp2_with fail
  refine C.mono ?_
  rintro e w1 ⟨⟨m, rfl, hm1⟩, hb⟩
  have HB : Hid (Below w.heap.size w w1) := hb
  have HM : Hid (okC n L = true → m = depC n L) := hm1
  obtain ⟨K, hK⟩ : ∃ K, okC n L = K := ⟨_, rfl⟩
  have HK : Hid (okC n L = K) := hK
  rw [hK]
  clear hb C hm1 hK
  cases K
  · have E : Hid (cdV n L = 0 ∧ cdC n L = 1) := by unfold Hid cdV cdC; rw [HK.out, if_neg h4]; exact ⟨rfl, rfl⟩
    go_wp2
    go_ret2
    exact ⟨by rw [E.out.1, E.out.2]; rfl, HB.out⟩
  · have E : Hid (cdV n L = m ∧ cdC n L = 0) := by unfold Hid cdV cdC; rw [HK.out, if_neg h4, HM.out HK.out]; exact ⟨rfl, rfl⟩
    go_wp2
    go_ret2
    exact ⟨by rw [E.out.1, E.out.2]; rfl, HB.out⟩
set_option maxRecDepth 100000 in
set_option maxHeartbeats 4000000 in
theorem c_specCD (L : List IN) (a : Option Addr) (n c : Nat) (w : World) (hr : RdI w a n L) (hm : n ≤ maxLen) (hs : ∀ v ∈ L, v.t.size ≤ maxLen) : Calls Tryd.prog 17 #[.slice a n c] w fun e w' => e = .returned (.tuple #[.int .i64 (cdV n L), .int .i64 (cdC n L)]) ∧ Below w.heap.size w w' := by
  have C := c_specCO L a n c w hr hm hs
  have HRD : Hid (RdI w a n L) := hr
  have HS : Hid (∀ v ∈ L, v.t.size ≤ maxLen) := hs
  unfold maxLen at hm
  by_cases h4 : 4096 < n
  · have E : Hid (cdV n L = 0 ∧ cdC n L = 2) := by unfold Hid cdV cdC; rw [okC_big (by omega), if_pos h4]; exact ⟨rfl, rfl⟩
    clear hr hs C HRD HS
    go_enter Tryd.func17, Tryd.ntmps17
    go_wp2
    go_ret2
    exact ⟨by rw [E.out.1, E.out.2]; rfl, Below.refl _ _⟩
  clear hr hs
  obtain ⟨K, hK⟩ : ∃ K, okC n L = K := ⟨_, rfl⟩
  have HK : Hid (okC n L = K) := hK
  rw [hK] at C
  clear hK
  go_enter Tryd.func17, Tryd.ntmps17
  go_wp2_with fail
  refine C.mono ?_
  rintro e w1 ⟨rfl, hb⟩
  have HB : Hid (Below w.heap.size w w1) := hb
  clear hb C
  cases K
  · have E : Hid (cdV n L = 0 ∧ cdC n L = 1) := by unfold Hid cdV cdC; rw [HK.out, if_neg h4]; exact ⟨rfl, rfl⟩
    go_wp2
    go_ret2
    exact ⟨by rw [E.out.1, E.out.2]; rfl, HB.out⟩
  have h80 : n ≤ 80 := by
    rcases Nat.lt_or_ge 80 n with h | h
    · have := okC_big (L := L) h
      rw [HK.out] at this
      cases this
    · exact h
  obtain ⟨ds, hds⟩ : ∃ ds, resC n L = some ds := by
    cases h : resC n L with
    | none => have := okC_no h; rw [HK.out] at this; cases this
    | some ds => exact ⟨ds, rfl⟩
  have hmx := resC_mx hds
  have HL : Hid (ds.length = n + 1) := hmx.1
  have E : Hid (cdV n L = mxF 0 ds ∧ cdC n L = 0) := by
    unfold Hid cdV cdC depC
    rw [HK.out, if_neg h4, hds, hmx.2]
    exact ⟨rfl, rfl⟩
  have C := c_depths L a n c w1 (HRD.out.below HB.out) h80 HS.out
  unfold AnsD at C
  rw [hds] at C
  clear hds hmx HS HRD HK
  go_wp2_with fail
  refine C.mono ?_
  rintro e w2 ⟨⟨rfl, hnb⟩, hb⟩
  have B2 : Hid (Below w.heap.size w w2) := HB.out.trans (hb.mono HB.out.size)
  have G2 : Hid (NB w2 w1.heap.size ds) := hnb ds rfl
  obtain ⟨M, hM⟩ : ∃ M, mxF 0 ds = M := ⟨_, rfl⟩
  have HM : Hid (mxF 0 (ds.drop 0) = M) := by unfold Hid; rw [List.drop_zero]; exact hM
  have EM : Hid (cdV n L = M ∧ cdC n L = 0) := by rw [← hM]; exact E
  obtain ⟨g, hg⟩ : ∃ g, w1.heap.size = g := ⟨_, rfl⟩
  rw [hg] at G2 ⊢
  clear hb hnb C HB E hM hg
  go_wp2_with fail
  go_loop [6, 7] (fun x i => ∃ (k : Nat) (v : Int), k ≤ n + 1 ∧ x = .int .i64 v ∧ i = .int .i64 (k : Int) ∧ Hid (mxF v (ds.drop k) = M)) (fun _ i => n + 1 - (intOf i).toNat)
  case atStart => exact ⟨0, 0, by omega, rfl, rfl, HM⟩
  case round =>
    obtain ⟨k, v, hk, rfl, rfl, HE⟩ := hrel
    by_cases hlt : k < n + 1
    · have cK := G2.out.cell (i := k) (by have := HL.out; omega)
      obtain ⟨d, hd⟩ : ∃ d, ds.getD k 0 = d := ⟨_, rfl⟩
      rw [hd] at cK
      have HSS : Hid (mxF (max v d) (ds.drop (k + 1)) = M) := by unfold Hid; rw [← hd, ← mxF_step (by have := HL.out; omega)]; exact HE.out
      have g1 : (0 : Int) ≤ (k : Int) := by omega
      have g2 : (k : Int) < (n : Int) + 1 := by omega
      clear hd HE
      go_wp2
      go_round
      case rel => exact ⟨k + 1, max v d, by omega, by rw [maxIf], by go_num, HSS⟩
      case measure => simp [intOf]; omega
    · have e : k = n + 1 := by omega
      subst e
      have EE : Hid (v = M) := by unfold Hid; rw [← HE.out, List.drop_eq_nil_of_le (by have := HL.out; omega)]; rfl
      go_wp2
      go_ret2
      exact ⟨by rw [EM.out.1, EM.out.2, ← EE.out]; rfl, B2.out⟩
set_option maxRecDepth 100000 in
set_option maxHeartbeats 4000000 in
theorem law_FnExactCodeOK (L : List IN) (a : Option Addr) (n c : Nat) (w : World) (hr : RdI w a n L) (hm : n ≤ maxLen) (hs : ∀ v ∈ L, v.t.size ≤ maxLen) (ht : TakH w) :
    Calls Tryd.prog 3 #[.slice a n c] w fun e w' => e = .returned (.bool true) ∧ Below w.heap.size w w' := by
  have HRD : Hid (RdI w a n L) := hr
  have HS : Hid (∀ v ∈ L, v.t.size ≤ maxLen) := hs
  have HT : Hid (TakH w) := ht
  have C1 := c_szI a n c L 1048576 w hr hm hs (by omega) (by omega)
  clear hr hs ht
  go_enter Tryd.func3, Tryd.ntmps3
  go_wp2_with fail
  refine C1.mono ?_
  rintro e w1 ⟨⟨z, rfl, hz, hzn⟩, hb⟩
  have B1 : Hid (Below w.heap.size w w1) := hb
  clear hb C1
  by_cases hneg : z < 0
  · clear hzn
    go_wp2
    go_ret
    exact ⟨rfl, B1.out⟩
  have hn : n ≤ 1048576 := hzn (by omega)
  clear hzn
  have CT : Hid (∀ W, Below w.heap.size w W → Calls Tryd.prog 9 #[.slice a n c] W fun e w' => (∃ g, e = .returned (.slice (some ⟨g, 0, none⟩) n n) ∧ RdI w' (some ⟨g, 0, none⟩) n L) ∧ Below W.heap.size W w') := fun W hW => (c_toI a n c L W (HRD.out.below hW) hn).mono fun e w' ⟨h1, h2, h3⟩ => ⟨⟨_, h1, RdI.own h2⟩, h3⟩
  obtain ⟨K, hK⟩ : ∃ K, okC n L = K := ⟨_, rfl⟩
  have nn : (K != K) = false := by simp
  have CS : Hid (∀ W g, RdI W (some ⟨g, 0, none⟩) n L → Calls Tryd.prog 8 #[.slice (some ⟨g, 0, none⟩) n n] W fun e w' => e = .returned (.bool K) ∧ Below W.heap.size W w') := fun W g h => by rw [← hK]; exact c_specCO L _ n n W h hm HS.out
  have CI : Hid (∀ W g, RdI W (some ⟨g, 0, none⟩) n L → TakH W → Calls Tryd.prog 10 #[.slice (some ⟨g, 0, none⟩) n n] W fun e w' => e = .returned (.bool K) ∧ Below W.heap.size W w') := fun W g h h2 => by rw [← hK]; exact c_implCO L _ n n W h hm HS.out h2
  have CE : Hid (∀ W g1 g2, RdI W (some ⟨g1, 0, none⟩) n L → RdI W (some ⟨g2, 0, none⟩) n L → Calls Tryd.prog 11 #[.slice (some ⟨g1, 0, none⟩) n n, .slice (some ⟨g2, 0, none⟩) n n] W fun e w' => e = .returned (.bool true) ∧ Below W.heap.size W w') := fun W g1 g2 h1 h2 => c_eqI _ _ n n n L W h1 h2 hn
  clear HS HRD hm hK
  go_wp2_with fail
  refine (CT.out w1 B1.out).mono ?_
  rintro e w2 ⟨⟨g2, rfl, r2⟩, hb⟩
  have B2 : Hid (Below w.heap.size w w2) := B1.out.trans (hb.mono B1.out.size)
  have R2 : Hid (RdI w2 (some ⟨g2, 0, none⟩) n L) := r2
  clear hb B1 r2
  go_wp2_with fail
  refine (CS.out w2 g2 R2.out).mono ?_
  rintro e w3 ⟨rfl, hb⟩
  have B3 : Hid (Below w.heap.size w w3) := B2.out.trans (hb.mono B2.out.size)
  clear hb B2 CS R2
  go_wp2_with fail
  refine (CT.out w3 B3.out).mono ?_
  rintro e w4 ⟨⟨g4, rfl, r4⟩, hb⟩
  have B4 : Hid (Below w.heap.size w w4) := B3.out.trans (hb.mono B3.out.size)
  have R4 : Hid (RdI w4 (some ⟨g4, 0, none⟩) n L) := r4
  clear hb B3 r4
  go_wp2_with fail
  refine (CI.out w4 g4 R4.out (HT.out.below B4.out)).mono ?_
  rintro e w5 ⟨rfl, hb⟩
  have B5 : Hid (Below w.heap.size w w5) := B4.out.trans (hb.mono B4.out.size)
  have R5 : Hid (RdI w5 (some ⟨g4, 0, none⟩) n L) := R4.out.below hb
  clear hb B4 R4 CI
  go_wp2_with fail
  refine (CT.out w5 B5.out).mono ?_
  rintro e w6 ⟨⟨g6, rfl, r6⟩, hb⟩
  have B6 : Hid (Below w.heap.size w w6) := B5.out.trans (hb.mono B5.out.size)
  have R6 : Hid (RdI w6 (some ⟨g6, 0, none⟩) n L) := r6
  have R6' : Hid (RdI w6 (some ⟨g4, 0, none⟩) n L) := R5.out.below hb
  clear hb B5 r6 R5
  go_wp2_with fail
  refine (CE.out w6 g4 g6 R6'.out R6.out).mono ?_
  rintro e w7 ⟨rfl, hb⟩
  have B7 : Hid (Below w.heap.size w w7) := B6.out.trans (hb.mono B6.out.size)
  clear hb B6 R6 R6' CE CT
  go_wp2
  go_ret
  exact ⟨rfl, B7.out⟩
set_option maxRecDepth 100000 in
set_option maxHeartbeats 4000000 in
theorem law_FnExactCodeDepth (L : List IN) (a : Option Addr) (n c : Nat) (w : World) (hr : RdI w a n L) (hm : n ≤ maxLen) (hs : ∀ v ∈ L, v.t.size ≤ maxLen) (ht : TakH w) :
    Calls Tryd.prog 5 #[.slice a n c] w fun e w' => e = .returned (.bool true) ∧ Below w.heap.size w w' := by
  have HRD : Hid (RdI w a n L) := hr
  have HS : Hid (∀ v ∈ L, v.t.size ≤ maxLen) := hs
  have HT : Hid (TakH w) := ht
  have C1 := c_szI a n c L 1048576 w hr hm hs (by omega) (by omega)
  clear hr hs ht
  go_enter Tryd.func5, Tryd.ntmps5
  go_wp2_with fail
  refine C1.mono ?_
  rintro e w1 ⟨⟨z, rfl, hz, hzn⟩, hb⟩
  have B1 : Hid (Below w.heap.size w w1) := hb
  clear hb C1
  by_cases hneg : z < 0
  · clear hzn
    go_wp2
    go_ret
    exact ⟨rfl, B1.out⟩
  have hn : n ≤ 1048576 := hzn (by omega)
  clear hzn
  have CT : Hid (∀ W, Below w.heap.size w W → Calls Tryd.prog 9 #[.slice a n c] W fun e w' => (∃ g, e = .returned (.slice (some ⟨g, 0, none⟩) n n) ∧ RdI w' (some ⟨g, 0, none⟩) n L) ∧ Below W.heap.size W w') := fun W hW => (c_toI a n c L W (HRD.out.below hW) hn).mono fun e w' ⟨h1, h2, h3⟩ => ⟨⟨_, h1, RdI.own h2⟩, h3⟩
  obtain ⟨K, hK⟩ : ∃ K, cdV n L = K := ⟨_, rfl⟩
  obtain ⟨M, hM⟩ : ∃ K, cdC n L = K := ⟨_, rfl⟩
  have nn : (K != K) = false := by simp
  have mm : (M != M) = false := by simp
  have CS : Hid (∀ W g, RdI W (some ⟨g, 0, none⟩) n L → Calls Tryd.prog 17 #[.slice (some ⟨g, 0, none⟩) n n] W fun e w' => e = .returned (.tuple #[.int .i64 K, .int .i64 M]) ∧ Below W.heap.size W w') := fun W g h => by rw [← hK, ← hM]; exact c_specCD L _ n n W h hm HS.out
  have CI : Hid (∀ W g, RdI W (some ⟨g, 0, none⟩) n L → TakH W → Calls Tryd.prog 18 #[.slice (some ⟨g, 0, none⟩) n n] W fun e w' => e = .returned (.tuple #[.int .i64 K, .int .i64 M]) ∧ Below W.heap.size W w') := fun W g h h2 => by rw [← hK, ← hM]; exact c_implCD L _ n n W h hm HS.out h2
  have CE : Hid (∀ W g1 g2, RdI W (some ⟨g1, 0, none⟩) n L → RdI W (some ⟨g2, 0, none⟩) n L → Calls Tryd.prog 11 #[.slice (some ⟨g1, 0, none⟩) n n, .slice (some ⟨g2, 0, none⟩) n n] W fun e w' => e = .returned (.bool true) ∧ Below W.heap.size W w') := fun W g1 g2 h1 h2 => c_eqI _ _ n n n L W h1 h2 hn
  clear HS HRD hm hK hM
  go_wp2_with fail
  refine (CT.out w1 B1.out).mono ?_
  rintro e w2 ⟨⟨g2, rfl, r2⟩, hb⟩
  have B2 : Hid (Below w.heap.size w w2) := B1.out.trans (hb.mono B1.out.size)
  have R2 : Hid (RdI w2 (some ⟨g2, 0, none⟩) n L) := r2
  clear hb B1 r2
  go_wp2_with fail
  refine (CS.out w2 g2 R2.out).mono ?_
  rintro e w3 ⟨rfl, hb⟩
  have B3 : Hid (Below w.heap.size w w3) := B2.out.trans (hb.mono B2.out.size)
  clear hb B2 CS R2
  go_wp2_with fail
  refine (CT.out w3 B3.out).mono ?_
  rintro e w4 ⟨⟨g4, rfl, r4⟩, hb⟩
  have B4 : Hid (Below w.heap.size w w4) := B3.out.trans (hb.mono B3.out.size)
  have R4 : Hid (RdI w4 (some ⟨g4, 0, none⟩) n L) := r4
  clear hb B3 r4
  go_wp2_with fail
  refine (CI.out w4 g4 R4.out (HT.out.below B4.out)).mono ?_
  rintro e w5 ⟨rfl, hb⟩
  have B5 : Hid (Below w.heap.size w w5) := B4.out.trans (hb.mono B4.out.size)
  have R5 : Hid (RdI w5 (some ⟨g4, 0, none⟩) n L) := R4.out.below hb
  clear hb B4 R4 CI
  go_wp2_with fail
  refine (CT.out w5 B5.out).mono ?_
  rintro e w6 ⟨⟨g6, rfl, r6⟩, hb⟩
  have B6 : Hid (Below w.heap.size w w6) := B5.out.trans (hb.mono B5.out.size)
  have R6 : Hid (RdI w6 (some ⟨g6, 0, none⟩) n L) := r6
  have R6' : Hid (RdI w6 (some ⟨g4, 0, none⟩) n L) := R5.out.below hb
  clear hb B5 r6 R5
  go_wp2_with fail
  refine (CE.out w6 g4 g6 R6'.out R6.out).mono ?_
  rintro e w7 ⟨rfl, hb⟩
  have B7 : Hid (Below w.heap.size w w7) := B6.out.trans (hb.mono B6.out.size)
  clear hb B6 R6 R6' CE CT
  go_wp2
  go_ret
  exact ⟨rfl, B7.out⟩

end Go.Proofs.YtepeaabacfjheaaDoor
