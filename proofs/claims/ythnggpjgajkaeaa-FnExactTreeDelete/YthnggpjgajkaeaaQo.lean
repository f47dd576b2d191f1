/-
  TreeDelete of the specification.
-/
import Derived.Test.YthnggpjgajkaeaaQm
import Derived.Test.YthnggpjgajkaeaaQn
namespace Go.Proofs.Ythnggpjgajkaeaa
open Go Go.RowKit
attribute [local go_sem ↓] Go.wp_at_zero Go.wp_at_succ

theorem c_buildA (base : Nat) (a : Option Addr) (n c : Nat) (keys : List ByteArray) (w : World) (hn : n ≤ 61) (ho : w.ownsRow base 9 1 (.slice a n c) n (keys.map Value.string)) :
    Calls Try.prog 50 #[.slice a n c] w fun e w' => AnsTr w keys e w' ∧ Below w.heap.size w w' := by
  have hl : keys.length = n := by have := ho.1; rw [List.length_map] at this; omega
  rcases own_form ho with ⟨e, h0⟩ | ⟨g, cap', e, _, _⟩
  · simp only [Value.slice.injEq] at e
    obtain ⟨rfl, rfl, rfl⟩ := e
    rw [List.eq_nil_of_length_eq_zero hl]
    exact c_build0n w
  · simp only [Value.slice.injEq] at e
    obtain ⟨rfl, _, rfl⟩ := e
    have hcap := own_cap ho
    rcases Nat.eq_zero_or_pos n with rfl | h0
    · rw [List.eq_nil_of_length_eq_zero hl]
      exact c_build0s g c w
    · exact c_build _ n c keys w h0 hn hcap.1 (by have := hcap.2; unfold maxLen at this; omega) (RdV.own ho)
set_option maxRecDepth 100000 in
set_option maxHeartbeats 8000000 in
theorem c_specTD (ro : Int) (la : Option Addr) (ln lc : Nat) (vs : List TNode) (key : ByteArray) (w : World) (hr : RdN w la ln vs) (hn : ln ≤ 1048576) (hf : ∀ i, i < ln → FitN (vs.getD i zeroN)) (hnil : ∀ i, i < ln → (vs.getD i zeroN).ka = none → (vs.getD i zeroN).kc = 0) (hkey : key.size ≤ 1048576) :
    Calls Try.prog 30 #[.agg #[.int .i64 ro, .slice la ln lc], .string key] w fun e w' => AnsTC w (DelIs (vs.map saysN) ro key) e w' ∧ Below w.heap.size w w' := by
  obtain ⟨iS, hi, hz0, hz1, hz2⟩ := info_parts infoS1
  have JI : Hid (Try.prog.info? 9 = some iS) := hi
  have JZ0 : Hid (iS.zero = some (.string ⟨#[]⟩)) := hz0
  have JZ1 : Hid (iS.size = 1) := hz1
  have JZ2 : Hid (iS.bytes = 16) := hz2
  clear hi hz0 hz1 hz2
  obtain ⟨V0, hV0⟩ : ∃ Q, w.alloc (.cells #[.int .i64 ro, .slice la ln lc] 27) = Q := ⟨_, rfl⟩
  have bV0 : Below w.heap.size w V0 := by rw [← hV0]; exact (Below.refl _ _).alloc (Nat.le_refl _) _
  have XV0 : Box V0 w.heap.size 27 #[.int .i64 ro, .slice la ln lc] := by rw [← hV0]; exact Box.new _ _ _
  have S0 : V0.heap.size = w.heap.size + 1 := by rw [← hV0]; simp
  obtain ⟨V, hV⟩ : ∃ Q, V0.alloc (.cells #[.int .i64 0, .slice none 0 0] 27) = Q := ⟨_, rfl⟩
  have bV1 : Below V0.heap.size V0 V := by rw [← hV]; exact (Below.refl _ _).alloc (Nat.le_refl _) _
  have XV : Hid (Box V (w.heap.size + 1) 27 #[.int .i64 0, .slice none 0 0]) := by unfold Hid; rw [← hV, ← S0]; exact Box.new _ _ _
  have YV : Hid (Box V w.heap.size 27 #[.int .i64 ro, .slice la ln lc]) := XV0.belowS bV1
  have BV : Hid (Below w.heap.size w V) := bV0.trans (bV1.mono bV0.size)
  have x0 : V.cell? ⟨w.heap.size, 0, none⟩ = some (.int .i64 ro) := YV.out.cell 0
  have x1 : V.cell? ⟨w.heap.size, 1, none⟩ = some (.slice la ln lc) := YV.out.cell 1
  have C := c_l09Ask ro la ln lc vs key V (hr.below BV.out) hn hf hnil hkey
  have z0 := XV.out.cell 0
  have z1 := XV.out.cell 1
  have t0 := XV.out.thaw 0
  have t1 := XV.out.thaw 1
  clear hr hf hnil bV0 bV1 XV0 YV
  by_cases h1 : 65536 < key.size
  · have HI : Hid (DelIs (vs.map saysN) ro key 2 none) := .inl ⟨.inl ⟨h1, rfl⟩, by omega, rfl⟩
    clear C
    go_enter Try.func30, Try.ntmps30
    go_wp2
    exact retTC (v2 := .int .i64 2) Try.results30 rfl rfl rfl (put2_box XV.out _ _) ⟨⟨none, 0, [], _, 2, none, rfl, ((OwnTr.nil BV.out.size).set XV.out).set (XV.out.set 0 _), HI.out, rfl⟩, put2_below BV.out (Nat.le_succ _) _ _⟩
  · clear z0 z1 t0 t1
    go_enter Try.func30, Try.ntmps30
    go_wp2_with fail
    refine C.mono ?_
    rintro e w1 ⟨ya, n, yc, K, c, rfl, hkl, hk1, ho, ha, h4, hb1⟩
    have B1 : Hid (Below w.heap.size w w1) := BV.out.trans (hb1.mono BV.out.size)
    have X1 : Hid (Box w1 (w.heap.size + 1) 27 #[.int .i64 0, .slice none 0 0]) := XV.out.belowS hb1
    have HRK : Hid (RdV w1 ya n (K.map Value.string)) := RdV.own ho
    have HYN : Hid (ya = none → yc = 0) := own_src ho
    have HKL : Hid (K.length = n) := hkl
    have HOF : Hid ((ya = none ∧ n = 0 ∧ yc = 0) ∨ ∃ g, ya = some ⟨g, 0, none⟩ ∧ n ≤ yc ∧ yc ≤ maxLen) := by
      rcases own_form ho with ⟨e, h0⟩ | ⟨g, cap', e, _, _⟩
      · simp only [Value.slice.injEq] at e; exact .inl ⟨e.1, h0, e.2.2⟩
      · simp only [Value.slice.injEq] at e
        obtain ⟨rfl, _, rfl⟩ := e
        exact .inr ⟨g, rfl, own_cap ho⟩
    have z0 := X1.out.cell 0
    have z1 := X1.out.cell 1
    have t0 := X1.out.thaw 0
    have t1 := X1.out.thaw 1
    clear hb1 C hV hV0 x0 x1 ho hkl XV BV S0
    by_cases hc0 : c = 0
    · subst hc0
      obtain ⟨ks, f, d, hg, he⟩ := h4 rfl
      have HA : Hid (AskC (vs.map saysN) ro key 0) := ha
      have HG : Hid (TGood (vs.map saysN) ro ks f d) := hg
      have HE : Hid (K = allT ks f) := he
      have h60 : n ≤ 60 := by have := hg.keys.1; rw [← he, HKL.out] at this; exact this
      have CA := c_l09At ya n yc K key w1 HRK.out (by omega)
      obtain ⟨P, hP⟩ : ∃ P, posK key K = P := ⟨_, rfl⟩
      have HP : Hid (posK key K = P) := hP
      rw [hP] at CA
      have hPn : P ≤ n := by rw [← hP, ← HKL.out]; exact posK_le key K
      clear ha h4 hg he hP
      have HTW : Hid (∀ c' K', ((inK key K = false ∧ c' = 5 ∧ K' = none) ∨ (inK key K = true ∧ c' = 0 ∧ K' = some (K.take P ++ K.drop (P + 1)))) → DelIs (vs.map saysN) ro key c' K') := by
        intro c' K' h
        refine .inr ⟨HA.out, ks, f, d, HG.out, ?_⟩
        rw [← HE.out, HP.out]; exact h
      go_wp2_with fail
      refine CA.mono ?_
      rintro e w' ⟨rfl, hq⟩; have hq' := hq.symm; subst hq'; clear hq CA
      by_cases hpn : P < n
      · obtain ⟨b, off, hya, hbl, hc⟩ := HRK.out.2 (by omega)
        rcases HOF.out with ⟨e, _, _⟩ | ⟨g, e, hnc, hcm⟩
        · rw [e] at hya; cases hya
        have hgb : g = b ∧ 0 = off := by rw [e] at hya; simpa using hya
        obtain ⟨rfl, rfl⟩ := hgb
        clear hya
        subst e
        obtain ⟨y, hy⟩ : ∃ y, K.getD P zS = y := ⟨_, rfl⟩
        have e0 : w1.cell? ⟨g, P, none⟩ = some (.string y) := by have := hc P hpn; rw [Nat.zero_add] at this; rw [this, ← hy]; exact map_get _ _ _ _ (by rw [HKL.out]; omega)
        have HI : Hid (inK key K = decide (y = key)) := by unfold Hid; rw [inK_lt HKL.out HP.out hpn, hy]
        have g1 : (0 : Int) ≤ (P : Int) := by omega
        have g2 : (P : Int) < (n : Int) := by omega
        have g3 : ((P : Int) == (n : Int)) = false := by simp; omega
        clear hc hy
        by_cases hq : y = key
        · have hq' : (y.toList == key.toList) = true := by simp [hq]
          have HI0 : Hid (DelIs (vs.map saysN) ro key 0 (some (K.take P ++ K.drop (P + 1)))) := HTW.out 0 _ (.inr ⟨by rw [HI.out, decide_eq_true hq], rfl, rfl⟩)
          have q5 : IntKind.i64.wrap ((P : Int) + 1) = (P : Int) + 1 := by rw [IntKind.wrap_i64]; omega
          have q6 : (0 : Int) ≤ (P : Int) + 1 := by omega
          have q7 : (P : Int) + 1 ≤ (n : Int) := by omega
          have q8 : ((P : Int) + 1).toNat = P + 1 := by omega
          have q9 : (P : Int) ≤ (yc : Int) := by omega
          have q10 : (P : Int) + 1 ≤ (yc : Int) := by omega
          clear hq HI HTW
          by_cases g5 : yc = P + 1
          · obtain rfl : n = P + 1 := by omega
            subst g5
            have h61 : P + 1 ≤ 60 := h60
            clear g3 g2 q7 q10 h60
            have g3 : ((P : Int) == (P : Int) + 1) = false := by simp; omega
            have g2 : (P : Int) < (P : Int) + 1 := by omega
            have g6 : (P : Int) ≤ (P : Int) + 1 := by omega
            go_wp2_with fail
            obtain ⟨U1, hU1⟩ : ∃ U, w1.drew.alloc (.cells #[] 9) = U := ⟨_, rfl⟩
            have b1 : Below w1.heap.size w1 U1 := by rw [← hU1]; exact (Below.refl _ _).drew.alloc (Nat.le_refl _) _
            have B1' : Hid (Below w1.heap.size w1 U1) := b1
            have O1 : Hid (U1.ownsRow w1.heap.size 9 1 (.slice (some ⟨w1.heap.size, 0, none⟩) 0 0) 0 []) := by unfold Hid; rw [← hU1]; exact own_emptyE (V := w1.drew) (Nat.le_refl _)
            have HTK : Hid (((K.take P).map Value.string).length = P * 1) := by unfold Hid; rw [List.length_map, List.length_take, HKL.out]; omega
            have HTM : Hid (((K.drop (P + 1)).map Value.string).length = 0 * 1) := by unfold Hid; rw [List.length_map, List.length_drop, HKL.out]; omega
            have HT1 : Hid (∀ u ∈ (K.take P).map Value.string, u.oneCell' = true) := map_one _ (fun _ => rfl) _
            have HD1 : Hid (∀ u ∈ (K.drop (P + 1)).map Value.string, u.oneCell' = true) := map_one _ (fun _ => rfl) _
            have HTC : Hid (∀ U, Below w1.heap.size w1 U → ∀ ad : Addr, some (⟨g, 0, none⟩ : Addr) = some ad → ∀ i u, ((K.take P).map Value.string)[i]? = some u → U.cell? (ad.add i) = some u) := by
              intro U hU ad ea i u hu
              have hi : i < P := by have := (List.getElem?_eq_some_iff.1 hu).1; rw [List.length_map, List.length_take] at this; omega
              obtain ⟨b', off', e, hl, hc⟩ := (HRK.out.below hU).2 (by omega)
              cases e
              cases ea
              rw [addr_add, hc i (by omega)]
              rw [List.getElem?_map, List.getElem?_take_of_lt hi] at hu
              rw [List.getElem?_map]; exact hu
            have HTL : Hid (∀ U, Below w1.heap.size w1 U → ∀ ad : Addr, (some ⟨g, 0, none⟩) = some ad → ∀ i u, ((K.drop (P + 1)).map Value.string)[i]? = some u → U.cell? (ad.add i) = some u) := by
              intro U hU ad ea i u hu
              have hi : i < (P + 1) - (P + 1) := by have := (List.getElem?_eq_some_iff.1 hu).1; rw [List.length_map, List.length_drop, HKL.out] at this; exact this
              exfalso; omega
            have HFIN : Hid (((K.take P).map Value.string) ++ ((K.drop (P + 1)).map Value.string) = (K.take P ++ K.drop (P + 1)).map Value.string) := by unfold Hid; simp
            have HTM2 : Hid ((P + 0) ≤ 60) := by unfold Hid; omega
            clear b1 hpn
            go_region_law (first
              | (refine step_app_any _ (by rfl) (.tmp 39) (.tmp 42) 23 (by rfl) w1.heap.size 9 iS (.string ⟨#[]⟩) 1 16 Try.underlying23 JI.out JZ0.out JZ1.out JZ2.out rfl (by omega) (.slice (some ⟨w1.heap.size, 0, none⟩) 0 0) 0 [] (by rfl) O1.out (some ⟨g, 0, none⟩) P (P + 1) ((K.take P).map Value.string) (by rfl) (fun ex => by cases ex) HTK.out (HTC.out _ B1'.out) HT1.out (by unfold maxLen; omega) (by omega) B1'.out.size ?_
                 intro l7 c7 w7 ho7 hg7 hx7
                 rw [Nat.zero_add, List.nil_append] at ho7
                 rw [ob_slice] at hg7
                 have B7 : Hid (Below w1.heap.size w1 w7) := B1'.out.grown hg7 B1'.out.size (fun g e => (own_blk O1.out g e).1)
                 have O7 : Hid (w7.ownsRow w1.heap.size 9 1 (.slice l7 P c7) P ((K.take P).map Value.string)) := ho7
                 clear ho7 hg7 hx7)
              | (refine step_app_any _ (by rfl) (.tmp 43) (.tmp 47) 23 (by rfl) w1.heap.size 9 iS (.string ⟨#[]⟩) 1 16 Try.underlying23 JI.out JZ0.out JZ1.out JZ2.out rfl (by omega) (.slice l7 P c7) P ((K.take P).map Value.string) (by rfl) O7.out (some ⟨g, 0, none⟩) 0 0 ((K.drop (P + 1)).map Value.string) (by rfl) (fun ex => by cases ex) HTM.out (HTL.out _ B7.out) HD1.out (by unfold maxLen; omega) (by omega) B7.out.size ?_
                 intro l9 c9 w9 ho9 hg9 hx9
                 rw [ob_slice] at hg9
                 have B9 : Hid (Below w1.heap.size w1 w9) := B7.out.grown hg9 B7.out.size (fun g e => (own_blk O7.out g e).1)
                 have O9 : Hid (w9.ownsRow w1.heap.size 9 1 (.slice l9 (P + 0) c9) (P + 0) ((K.take P ++ K.drop (P + 1)).map Value.string)) := by unfold Hid; rw [← HFIN.out]; exact ho9
                 clear ho9 hg9 hx9)
              | (rw [if_pos (by simp [Region.wanted])]
                 go_simp
                 go_at_call 50
                 refine (c_buildA w1.heap.size l9 (P + 0) c9 (K.take P ++ K.drop (P + 1)) w9 (by have := HTM2.out; omega) O9.out).mono ?_
                 rintro e w10 ⟨⟨na, nc, ws, bs, rfl, ht, his⟩, hb10⟩
                 have B10 : Hid (Below w1.heap.size w1 w10) := B9.out.trans (hb10.mono B9.out.size)
                 have HT : Hid (OwnTr w10 w.heap.size na nc bs ws) := ht.low (Nat.le_trans B1.out.size B9.out.size)
                 have HTI : Hid (TreeIs (K.take P ++ K.drop (P + 1)) (ws.map saysN)) := his
                 have X10 : Box w10 (w.heap.size + 1) 27 #[.int .i64 0, .slice none 0 0] := X1.out.belowS B10.out
                 have HX10 : Hid (Box w10 (w.heap.size + 1) 27 #[.int .i64 0, .slice none 0 0]) := X10
                 have u0 := X10.cell 0
                 have u1 := X10.cell 1
                 have v0 := X10.thaw 0
                 have v1 := X10.thaw 1
                 clear ht his hb10 X10
                 go_simp))
            all_goals
              have B11 : Hid (Below w.heap.size w w10) := B1.out.trans (B10.out.mono B1.out.size)
              clear z0 z1 t0 t1
              go_wp2
              exact retTC (v2 := .int .i64 0) Try.results30 rfl rfl rfl (put2_box HX10.out _ _) ⟨⟨na, nc, ws, bs, 0, _, rfl, (HT.out.set HX10.out).set (HX10.out.set 0 _), HI0.out, HTI.out⟩, put2_below B11.out (Nat.le_succ _) _ _⟩
          · have g5' : ¬ (yc = P + 1) := g5
            go_wp2_with fail
            obtain ⟨U1, hU1⟩ : ∃ U, w1.drew.alloc (.cells #[] 9) = U := ⟨_, rfl⟩
            have b1 : Below w1.heap.size w1 U1 := by rw [← hU1]; exact (Below.refl _ _).drew.alloc (Nat.le_refl _) _
            have B1' : Hid (Below w1.heap.size w1 U1) := b1
            have O1 : Hid (U1.ownsRow w1.heap.size 9 1 (.slice (some ⟨w1.heap.size, 0, none⟩) 0 0) 0 []) := by unfold Hid; rw [← hU1]; exact own_emptyE (V := w1.drew) (Nat.le_refl _)
            have HTK : Hid (((K.take P).map Value.string).length = P * 1) := by unfold Hid; rw [List.length_map, List.length_take, HKL.out]; omega
            have HTM : Hid (((K.drop (P + 1)).map Value.string).length = (n - (P + 1)) * 1) := by unfold Hid; rw [List.length_map, List.length_drop, HKL.out]; omega
            have HT1 : Hid (∀ u ∈ (K.take P).map Value.string, u.oneCell' = true) := map_one _ (fun _ => rfl) _
            have HD1 : Hid (∀ u ∈ (K.drop (P + 1)).map Value.string, u.oneCell' = true) := map_one _ (fun _ => rfl) _
            have HTC : Hid (∀ U, Below w1.heap.size w1 U → ∀ ad : Addr, some (⟨g, 0, none⟩ : Addr) = some ad → ∀ i u, ((K.take P).map Value.string)[i]? = some u → U.cell? (ad.add i) = some u) := by
              intro U hU ad ea i u hu
              have hi : i < P := by have := (List.getElem?_eq_some_iff.1 hu).1; rw [List.length_map, List.length_take] at this; omega
              obtain ⟨b', off', e, hl, hc⟩ := (HRK.out.below hU).2 (by omega)
              cases e
              cases ea
              rw [addr_add, hc i (by omega)]
              rw [List.getElem?_map, List.getElem?_take_of_lt hi] at hu
              rw [List.getElem?_map]; exact hu
            have HTL : Hid (∀ U, Below w1.heap.size w1 U → ∀ ad : Addr, (some ⟨g, P + 1, none⟩) = some ad → ∀ i u, ((K.drop (P + 1)).map Value.string)[i]? = some u → U.cell? (ad.add i) = some u) := by
              intro U hU ad ea i u hu
              have hi : i < n - (P + 1) := by have := (List.getElem?_eq_some_iff.1 hu).1; rw [List.length_map, List.length_drop, HKL.out] at this; exact this
              obtain ⟨b', off', e, hl, hc⟩ := (HRK.out.below hU).2 (by omega)
              cases e
              cases ea
              have := hc (P + 1 + i) (by omega)
              rw [Nat.zero_add] at this
              rw [addr_add, this]
              rw [List.getElem?_map, List.getElem?_drop] at hu
              rw [List.getElem?_map]; exact hu
            have HFIN : Hid (((K.take P).map Value.string) ++ ((K.drop (P + 1)).map Value.string) = (K.take P ++ K.drop (P + 1)).map Value.string) := by unfold Hid; simp
            have HTM2 : Hid ((P + (n - (P + 1))) ≤ 60) := by unfold Hid; omega
            clear b1 hpn
            go_region_law (first
              | (refine step_app_any _ (by rfl) (.tmp 39) (.tmp 42) 23 (by rfl) w1.heap.size 9 iS (.string ⟨#[]⟩) 1 16 Try.underlying23 JI.out JZ0.out JZ1.out JZ2.out rfl (by omega) (.slice (some ⟨w1.heap.size, 0, none⟩) 0 0) 0 [] (by rfl) O1.out (some ⟨g, 0, none⟩) P yc ((K.take P).map Value.string) (by rfl) (fun ex => by cases ex) HTK.out (HTC.out _ B1'.out) HT1.out (by unfold maxLen; omega) (by omega) B1'.out.size ?_
                 intro l7 c7 w7 ho7 hg7 hx7
                 rw [Nat.zero_add, List.nil_append] at ho7
                 rw [ob_slice] at hg7
                 have B7 : Hid (Below w1.heap.size w1 w7) := B1'.out.grown hg7 B1'.out.size (fun g e => (own_blk O1.out g e).1)
                 have O7 : Hid (w7.ownsRow w1.heap.size 9 1 (.slice l7 P c7) P ((K.take P).map Value.string)) := ho7
                 clear ho7 hg7 hx7)
              | (refine step_app_any _ (by rfl) (.tmp 43) (.tmp 47) 23 (by rfl) w1.heap.size 9 iS (.string ⟨#[]⟩) 1 16 Try.underlying23 JI.out JZ0.out JZ1.out JZ2.out rfl (by omega) (.slice l7 P c7) P ((K.take P).map Value.string) (by rfl) O7.out (some ⟨g, P + 1, none⟩) (n - (P + 1)) (yc - (P + 1)) ((K.drop (P + 1)).map Value.string) (by rfl) (fun ex => by cases ex) HTM.out (HTL.out _ B7.out) HD1.out (by unfold maxLen; omega) (by omega) B7.out.size ?_
                 intro l9 c9 w9 ho9 hg9 hx9
                 rw [ob_slice] at hg9
                 have B9 : Hid (Below w1.heap.size w1 w9) := B7.out.grown hg9 B7.out.size (fun g e => (own_blk O7.out g e).1)
                 have O9 : Hid (w9.ownsRow w1.heap.size 9 1 (.slice l9 (P + (n - (P + 1))) c9) (P + (n - (P + 1))) ((K.take P ++ K.drop (P + 1)).map Value.string)) := by unfold Hid; rw [← HFIN.out]; exact ho9
                 clear ho9 hg9 hx9)
              | (rw [if_pos (by simp [Region.wanted])]
                 go_simp
                 go_at_call 50
                 refine (c_buildA w1.heap.size l9 (P + (n - (P + 1))) c9 (K.take P ++ K.drop (P + 1)) w9 (by have := HTM2.out; omega) O9.out).mono ?_
                 rintro e w10 ⟨⟨na, nc, ws, bs, rfl, ht, his⟩, hb10⟩
                 have B10 : Hid (Below w1.heap.size w1 w10) := B9.out.trans (hb10.mono B9.out.size)
                 have HT : Hid (OwnTr w10 w.heap.size na nc bs ws) := ht.low (Nat.le_trans B1.out.size B9.out.size)
                 have HTI : Hid (TreeIs (K.take P ++ K.drop (P + 1)) (ws.map saysN)) := his
                 have X10 : Box w10 (w.heap.size + 1) 27 #[.int .i64 0, .slice none 0 0] := X1.out.belowS B10.out
                 have HX10 : Hid (Box w10 (w.heap.size + 1) 27 #[.int .i64 0, .slice none 0 0]) := X10
                 have u0 := X10.cell 0
                 have u1 := X10.cell 1
                 have v0 := X10.thaw 0
                 have v1 := X10.thaw 1
                 clear ht his hb10 X10
                 go_simp))
            all_goals
              have B11 : Hid (Below w.heap.size w w10) := B1.out.trans (B10.out.mono B1.out.size)
              clear z0 z1 t0 t1
              go_wp2
              exact retTC (v2 := .int .i64 0) Try.results30 rfl rfl rfl (put2_box HX10.out _ _) ⟨⟨na, nc, ws, bs, 0, _, rfl, (HT.out.set HX10.out).set (HX10.out.set 0 _), HI0.out, HTI.out⟩, put2_below B11.out (Nat.le_succ _) _ _⟩
        · have hq' : (y.toList == key.toList) = false := by rw [beq_eq_false_iff_ne]; exact fun e => hq (toList_inj e)
          have HI5 : Hid (DelIs (vs.map saysN) ro key 5 none) := HTW.out 5 none (.inl ⟨by rw [HI.out, decide_eq_false hq], rfl, rfl⟩)
          clear hq HI HTW
          go_wp2
          exact retTC (v2 := .int .i64 5) Try.results30 rfl rfl rfl (put2_box X1.out _ _) ⟨⟨none, 0, [], _, 5, none, rfl, ((OwnTr.nil B1.out.size).set X1.out).set (X1.out.set 0 _), HI5.out, rfl⟩, put2_below B1.out (Nat.le_succ _) _ _⟩
      · have HI5 : Hid (DelIs (vs.map saysN) ro key 5 none) := HTW.out 5 none (.inl ⟨inK_end HKL.out HP.out hpn, rfl, rfl⟩)
        have g3 : ((P : Int) == (n : Int)) = true := by simp; omega
        clear HTW
        go_wp2
        exact retTC (v2 := .int .i64 5) Try.results30 rfl rfl rfl (put2_box X1.out _ _) ⟨⟨none, 0, [], _, 5, none, rfl, ((OwnTr.nil B1.out.size).set X1.out).set (X1.out.set 0 _), HI5.out, rfl⟩, put2_below B1.out (Nat.le_succ _) _ _⟩
    · have HI : Hid (DelIs (vs.map saysN) ro key c none) := .inl ⟨ha, hc0, rfl⟩
      have hc1 : (c != 0) = true := by simpa using hc0
      clear ha hc0 h4
      go_wp2
      exact retTC (v2 := .int .i64 c) Try.results30 rfl rfl rfl (put2_box X1.out _ _) ⟨⟨none, 0, [], _, c, none, rfl, ((OwnTr.nil B1.out.size).set X1.out).set (X1.out.set 0 _), HI.out, rfl⟩, put2_below B1.out (Nat.le_succ _) _ _⟩

end Go.Proofs.Ythnggpjgajkaeaa
