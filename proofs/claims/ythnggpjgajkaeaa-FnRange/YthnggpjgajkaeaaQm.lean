/-
  TreeInsert of the specification.
-/
import Derived.Test.YthnggpjgajkaeaaQl
namespace Go.Proofs.Ythnggpjgajkaeaa
open Go Go.RowKit
attribute [local go_sem ↓] Go.wp_at_zero Go.wp_at_succ

set_option maxRecDepth 100000 in
set_option maxHeartbeats 8000000 in
theorem c_specTI (ro : Int) (la : Option Addr) (ln lc : Nat) (vs : List TNode) (key : ByteArray) (w : World) (hr : RdN w la ln vs) (hn : ln ≤ 1048576) (hf : ∀ i, i < ln → FitN (vs.getD i zeroN)) (hnil : ∀ i, i < ln → (vs.getD i zeroN).ka = none → (vs.getD i zeroN).kc = 0) (hkey : key.size ≤ 1048576) :
    Calls Try.prog 21 #[.agg #[.int .i64 ro, .slice la ln lc], .string key] w fun e w' => AnsTC w (InsIs (vs.map saysN) ro key) e w' ∧ Below w.heap.size w w' := by
  obtain ⟨iS, hi, hz0, hz1, hz2⟩ := info_parts infoS1
  have JI : Hid (Try.prog.info? 9 = some iS) := hi
  have JZ0 : Hid (iS.zero = some (.string ⟨#[]⟩)) := hz0
  have JZ1 : Hid (iS.size = 1) := hz1
  have JZ2 : Hid (iS.bytes = 16) := hz2
  clear hi hz0 hz1 hz2
  obtain ⟨V0, hV0⟩ : ∃ Q, w.alloc (.cells #[.int .i64 ro, .slice la ln lc] 27) = Q := ⟨_, rfl⟩
  have bV0 : Below w.heap.size w V0 := by rw [← hV0]; exact (Below.refl _ _).alloc (Nat.le_refl _) _
  have XV0 : Box V0 w.heap.size 27 #[.int .i64 ro, .slice la ln lc] := by rw [← hV0]; exact Box.new _ _ _
  have S0 : V0.heap.size = w.heap.size + 1 := by rw [← hV0]; simp
  obtain ⟨V, hV⟩ : ∃ Q, V0.alloc (.cells #[.int .i64 0, .slice none 0 0] 27) = Q := ⟨_, rfl⟩
  have bV1 : Below V0.heap.size V0 V := by rw [← hV]; exact (Below.refl _ _).alloc (Nat.le_refl _) _
  have XV : Hid (Box V (w.heap.size + 1) 27 #[.int .i64 0, .slice none 0 0]) := by unfold Hid; rw [← hV, ← S0]; exact Box.new _ _ _
  have YV : Hid (Box V w.heap.size 27 #[.int .i64 ro, .slice la ln lc]) := XV0.belowS bV1
  have BV : Hid (Below w.heap.size w V) := bV0.trans (bV1.mono bV0.size)
  have x0 : V.cell? ⟨w.heap.size, 0, none⟩ = some (.int .i64 ro) := YV.out.cell 0
  have x1 : V.cell? ⟨w.heap.size, 1, none⟩ = some (.slice la ln lc) := YV.out.cell 1
  have C := c_l09Ask ro la ln lc vs key V (hr.below BV.out) hn hf hnil hkey
  have z0 := XV.out.cell 0
  have z1 := XV.out.cell 1
  have t0 := XV.out.thaw 0
  have t1 := XV.out.thaw 1
  clear hr hf hnil bV0 bV1 XV0 YV
  by_cases h1 : 65536 < key.size
  · have HI : Hid (InsIs (vs.map saysN) ro key 2 none) := .inl ⟨.inl ⟨h1, rfl⟩, by omega, rfl⟩
    clear C
    go_enter Try.func21, Try.ntmps21
    go_wp2
    exact retTC (v2 := .int .i64 2) Try.results21 rfl rfl rfl (put2_box XV.out _ _) ⟨⟨none, 0, [], _, 2, none, rfl, ((OwnTr.nil BV.out.size).set XV.out).set (XV.out.set 0 _), HI.out, rfl⟩, put2_below BV.out (Nat.le_succ _) _ _⟩
  · clear z0 z1 t0 t1
    go_enter Try.func21, Try.ntmps21
    go_wp2_with fail
    refine C.mono ?_
    rintro e w1 ⟨ya, n, yc, K, c, rfl, hkl, hk1, ho, ha, h4, hb1⟩
    have B1 : Hid (Below w.heap.size w w1) := BV.out.trans (hb1.mono BV.out.size)
    have X1 : Hid (Box w1 (w.heap.size + 1) 27 #[.int .i64 0, .slice none 0 0]) := XV.out.belowS hb1
    have HRK : Hid (RdV w1 ya n (K.map Value.string)) := RdV.own ho
    have HYN : Hid (ya = none → yc = 0) := own_src ho
    have HKL : Hid (K.length = n) := hkl
    have HOF : Hid ((ya = none ∧ n = 0 ∧ yc = 0) ∨ ∃ g, ya = some ⟨g, 0, none⟩ ∧ n ≤ yc ∧ yc ≤ maxLen) := by
      rcases own_form ho with ⟨e, h0⟩ | ⟨g, cap', e, _, _⟩
      · simp only [Value.slice.injEq] at e; exact .inl ⟨e.1, h0, e.2.2⟩
      · simp only [Value.slice.injEq] at e
        obtain ⟨rfl, _, rfl⟩ := e
        exact .inr ⟨g, rfl, own_cap ho⟩
    have z0 := X1.out.cell 0
    have z1 := X1.out.cell 1
    have t0 := X1.out.thaw 0
    have t1 := X1.out.thaw 1
    clear hb1 C hV hV0 x0 x1 ho hkl XV BV S0
    by_cases hc0 : c = 0
    · subst hc0
      obtain ⟨ks, f, d, hg, he⟩ := h4 rfl
      have HA : Hid (AskC (vs.map saysN) ro key 0) := ha
      have HG : Hid (TGood (vs.map saysN) ro ks f d) := hg
      have HE : Hid (K = allT ks f) := he
      have h60 : n ≤ 60 := by have := hg.keys.1; rw [← he, HKL.out] at this; exact this
      have CA := c_l09At ya n yc K key w1 HRK.out (by omega)
      obtain ⟨P, hP⟩ : ∃ P, posK key K = P := ⟨_, rfl⟩
      have HP : Hid (posK key K = P) := hP
      rw [hP] at CA
      have hPn : P ≤ n := by rw [← hP, ← HKL.out]; exact posK_le key K
      clear ha h4 hg he hP
      have HTW : Hid (∀ c' K', ((inK key K = true ∧ c' = 9 ∧ K' = none) ∨ (inK key K = false ∧ n = 60 ∧ c' = 7 ∧ K' = none) ∨ (inK key K = false ∧ n ≠ 60 ∧ c' = 0 ∧ K' = some (K.take P ++ key :: K.drop P))) → InsIs (vs.map saysN) ro key c' K') := by
        intro c' K' h
        refine .inr ⟨HA.out, ks, f, d, HG.out, ?_⟩
        rw [← HE.out, HKL.out, HP.out]; exact h
      go_wp2_with fail
      refine CA.mono ?_
      rintro e w' ⟨rfl, hq⟩; have hq' := hq.symm; subst hq'; clear hq CA
      by_cases hpn : P < n
      · obtain ⟨b, off, hya, hbl, hc⟩ := HRK.out.2 (by omega)
        rcases HOF.out with ⟨e, _, _⟩ | ⟨g, e, hnc, hcm⟩
        · rw [e] at hya; cases hya
        have hgb : g = b ∧ 0 = off := by rw [e] at hya; simpa using hya
        obtain ⟨rfl, rfl⟩ := hgb
        clear hya
        subst e
        obtain ⟨y, hy⟩ : ∃ y, K.getD P zS = y := ⟨_, rfl⟩
        have e0 : w1.cell? ⟨g, P, none⟩ = some (.string y) := by have := hc P hpn; rw [Nat.zero_add] at this; rw [this, ← hy]; exact map_get _ _ _ _ (by rw [HKL.out]; omega)
        have HI : Hid (inK key K = decide (y = key)) := by unfold Hid; rw [inK_lt HKL.out HP.out hpn, hy]
        have g1 : (0 : Int) ≤ (P : Int) := by omega
        have g2 : (P : Int) < (n : Int) := by omega
        clear hc hy
        by_cases hq : y = key
        · have hq' : (y.toList == key.toList) = true := by simp [hq]
          have HI9 : Hid (InsIs (vs.map saysN) ro key 9 none) := HTW.out 9 none (.inl ⟨by rw [HI.out, decide_eq_true hq], rfl, rfl⟩)
          clear hq HI HTW
          go_wp2
          exact retTC (v2 := .int .i64 9) Try.results21 rfl rfl rfl (put2_box X1.out _ _) ⟨⟨none, 0, [], _, 9, none, rfl, ((OwnTr.nil B1.out.size).set X1.out).set (X1.out.set 0 _), HI9.out, rfl⟩, put2_below B1.out (Nat.le_succ _) _ _⟩
        · have hq' : (y.toList == key.toList) = false := by rw [beq_eq_false_iff_ne]; exact fun e => hq (toList_inj e)
          have HI2 : Hid (inK key K = false) := by unfold Hid; rw [HI.out, decide_eq_false hq]
          clear hq HI
          by_cases h6 : n = 60
          · have HI : Hid (InsIs (vs.map saysN) ro key 7 none) := HTW.out 7 none (.inr (.inl ⟨HI2.out, h6, rfl, rfl⟩))
            clear HI2 HTW
            subst h6
            go_wp2
            exact retTC (v2 := .int .i64 7) Try.results21 rfl rfl rfl (put2_box X1.out _ _) ⟨⟨none, 0, [], _, 7, none, rfl, ((OwnTr.nil B1.out.size).set X1.out).set (X1.out.set 0 _), HI.out, rfl⟩, put2_below B1.out (Nat.le_succ _) _ _⟩
          · have HI : Hid (InsIs (vs.map saysN) ro key 0 (some (K.take P ++ key :: K.drop P))) := HTW.out 0 _ (.inr (.inr ⟨HI2.out, h6, rfl, rfl⟩))
            have h6' : ((n : Int) == 60) = false := by simp; omega
            have g3 : (P : Int) ≤ (yc : Int) := by omega
            have g4 : (P : Int) ≤ (n : Int) := by omega
            have g5 : ¬ (yc = P) := by omega
            have HTL : Hid (∀ U, Below w1.heap.size w1 U → ∀ ad : Addr, some (⟨g, P, none⟩ : Addr) = some ad → ∀ i u, ((K.drop P).map Value.string)[i]? = some u → U.cell? (ad.add i) = some u) := by
              intro U hU ad ea i u hu
              cases ea
              obtain ⟨b', off', e, hl, hc⟩ := (HRK.out.below hU).2 (by omega)
              cases e
              have hi : i < n - P := by have := (List.getElem?_eq_some_iff.1 hu).1; rw [List.length_map, List.length_drop, HKL.out] at this; exact this
              have := hc (P + i) (by omega)
              rw [Nat.zero_add] at this
              rw [addr_add, this]
              rw [List.getElem?_map, List.getElem?_drop] at hu
              rw [List.getElem?_map]; exact hu
            clear HTW HI2
            go_wp2_with fail
            obtain ⟨U1, hU1⟩ : ∃ U, w1.drew.alloc (.cells #[] 9) = U := ⟨_, rfl⟩
            obtain ⟨U2, hU2⟩ : ∃ U, w1.drew.alloc (.cells #[.string key] 9) = U := ⟨_, rfl⟩
            have S1 : U1.heap.size = w1.heap.size + 1 := by rw [← hU1]; simp
            have S2 : U2.heap.size = w1.heap.size + 1 := by rw [← hU2]; simp
            obtain ⟨U12, hU12⟩ : ∃ U, U1.alloc (.cells #[.string key] 9) = U := ⟨_, rfl⟩
            obtain ⟨U21, hU21⟩ : ∃ U, U2.alloc (.cells #[] 9) = U := ⟨_, rfl⟩
            have b1 : Below w1.heap.size w1 U1 := by rw [← hU1]; exact (Below.refl _ _).drew.alloc (Nat.le_refl _) _
            have b2 : Below w1.heap.size w1 U2 := by rw [← hU2]; exact (Below.refl _ _).drew.alloc (Nat.le_refl _) _
            have B1' : Hid (Below w1.heap.size w1 U1) := b1
            have B12 : Hid (Below w1.heap.size w1 U12) := by unfold Hid; rw [← hU12]; exact b1.alloc b1.size _
            have B21 : Hid (Below w1.heap.size w1 U21) := by unfold Hid; rw [← hU21]; exact b2.alloc b2.size _
            have O1 : Hid (U1.ownsRow w1.heap.size 9 1 (.slice (some ⟨w1.heap.size, 0, none⟩) 0 0) 0 []) := by unfold Hid; rw [← hU1]; exact own_emptyE (V := w1.drew) (Nat.le_refl _)
            have O12 : Hid (U12.ownsRow w1.heap.size 9 1 (.slice (some ⟨w1.heap.size, 0, none⟩) 0 0) 0 []) := by unfold Hid; rw [← hU12]; exact own_below O1.out ((Below.refl _ _).alloc (Nat.le_refl _) _)
            have K12 : Hid (Box U12 (w1.heap.size + 1) 9 #[.string key]) := by unfold Hid; rw [← hU12, ← S1]; exact Box.new _ _ _
            have K2 : Box U2 w1.heap.size 9 #[.string key] := by rw [← hU2]; exact Box.new w1.drew _ _
            have K21 : Hid (Box U21 w1.heap.size 9 #[.string key]) := by unfold Hid; rw [← hU21]; exact K2.alloc _
            have O21 : Hid (U21.ownsRow w1.heap.size 9 1 (.slice (some ⟨w1.heap.size + 1, 0, none⟩) 0 0) 0 []) := by unfold Hid; rw [← hU21, ← S2]; exact own_emptyE b2.size
            have HTK : Hid (((K.take P).map Value.string).length = P * 1) := by unfold Hid; rw [List.length_map, List.length_take, HKL.out]; omega
            have HTM : Hid (((K.drop P).map Value.string).length = (n - P) * 1) := by unfold Hid; rw [List.length_map, List.length_drop, HKL.out]; omega
            have HT1 : Hid (∀ u ∈ (K.take P).map Value.string, u.oneCell' = true) := map_one _ (fun _ => rfl) _
            have HD1 : Hid (∀ u ∈ (K.drop P).map Value.string, u.oneCell' = true) := map_one _ (fun _ => rfl) _
            have HTC : Hid (∀ U, Below w1.heap.size w1 U → ∀ ad : Addr, ((some ⟨g, 0, none⟩) : Option Addr) = some ad → ∀ i u, ((K.take P).map Value.string)[i]? = some u → U.cell? (ad.add i) = some u) := by
              intro U hU ad ea i u hu
              have hi : i < P := by have := (List.getElem?_eq_some_iff.1 hu).1; rw [List.length_map, List.length_take] at this; omega
              obtain ⟨b', off', e, hl, hc⟩ := (HRK.out.below hU).2 (by omega)
              cases e
              cases ea
              rw [addr_add, hc i (by omega)]
              rw [List.getElem?_map, List.getElem?_take_of_lt hi] at hu
              rw [List.getElem?_map]; exact hu
            have HFIN : Hid ((((K.take P).map Value.string) ++ [Value.string key]) ++ ((K.drop P).map Value.string) = (K.take P ++ key :: K.drop P).map Value.string) := by unfold Hid; simp
            have HTM2 : Hid (P + 1 + (n - P) = n + 1) := by unfold Hid; omega
            clear b1 b2 K2 hpn
            go_region_law (first
              | (refine step_app_any _ (by rfl) (.tmp 43) (.tmp 46) 23 (by rfl) w1.heap.size 9 iS (.string ⟨#[]⟩) 1 16 Try.underlying23 JI.out JZ0.out JZ1.out JZ2.out rfl (by omega) (.slice (some ⟨w1.heap.size, 0, none⟩) 0 0) 0 [] (by rfl) O1.out (some ⟨g, 0, none⟩) P yc ((K.take P).map Value.string) (by rfl) (fun ex => by cases ex) HTK.out (HTC.out _ B1'.out) HT1.out (by unfold maxLen; omega) (by omega) B1'.out.size ?_
                 intro l5 c5 w5 ho5 hg5 hx5
                 rw [Nat.zero_add, List.nil_append] at ho5
                 rw [ob_slice] at hg5
                 have b5 : Below w1.heap.size w1 w5 := B1'.out.grown hg5 B1'.out.size (fun g e => (own_blk O1.out g e).1)
                 obtain ⟨Y, hY⟩ : ∃ Y, w5.alloc (.cells #[.string key] 9) = Y := ⟨_, rfl⟩
                 have b5Y : Below w5.heap.size w5 Y := by rw [← hY]; exact (Below.refl _ _).alloc (Nat.le_refl _) _
                 have BY : Hid (Below w1.heap.size w1 Y) := b5.trans (b5Y.mono b5.size)
                 have KY : Hid (Box Y w5.heap.size 9 #[.string key]) := by unfold Hid; rw [← hY]; exact Box.new _ _ _
                 have OY : Hid (Y.ownsRow w1.heap.size 9 1 (.slice l5 P c5) P ((K.take P).map Value.string)) := own_below ho5 b5Y
                 clear ho5 hg5 hx5 b5 b5Y)
              | (refine step_app_any _ (by rfl) (.tmp 43) (.tmp 46) 23 (by rfl) w1.heap.size 9 iS (.string ⟨#[]⟩) 1 16 Try.underlying23 JI.out JZ0.out JZ1.out JZ2.out rfl (by omega) (.slice (some ⟨w1.heap.size, 0, none⟩) 0 0) 0 [] (by rfl) O12.out (some ⟨g, 0, none⟩) P yc ((K.take P).map Value.string) (by rfl) (fun ex => by cases ex) HTK.out (HTC.out _ B12.out) HT1.out (by unfold maxLen; omega) (by omega) B12.out.size ?_
                 intro l5 c5 Y ho5 hg5 hx5
                 rw [Nat.zero_add, List.nil_append] at ho5
                 rw [ob_slice] at hg5
                 have b5 : Below w1.heap.size w1 Y := B12.out.grown hg5 B12.out.size (fun g e => (own_blk O12.out g e).1)
                 have BY : Hid (Below w1.heap.size w1 Y) := b5
                 have KY : Hid (Box Y (w1.heap.size + 1) 9 #[.string key]) := K12.out.grown hg5 (fun ex => by have h : w1.heap.size = w1.heap.size + 1 := Option.some.inj ex; omega)
                 have OY : Hid (Y.ownsRow w1.heap.size 9 1 (.slice l5 P c5) P ((K.take P).map Value.string)) := ho5
                 clear ho5 hg5 hx5 b5)
              | (refine step_app_any _ (by rfl) (.tmp 43) (.tmp 46) 23 (by rfl) w1.heap.size 9 iS (.string ⟨#[]⟩) 1 16 Try.underlying23 JI.out JZ0.out JZ1.out JZ2.out rfl (by omega) (.slice (some ⟨w1.heap.size + 1, 0, none⟩) 0 0) 0 [] (by rfl) O21.out (some ⟨g, 0, none⟩) P yc ((K.take P).map Value.string) (by rfl) (fun ex => by cases ex) HTK.out (HTC.out _ B21.out) HT1.out (by unfold maxLen; omega) (by omega) B21.out.size ?_
                 intro l5 c5 Y ho5 hg5 hx5
                 rw [Nat.zero_add, List.nil_append] at ho5
                 rw [ob_slice] at hg5
                 have b5 : Below w1.heap.size w1 Y := B21.out.grown hg5 B21.out.size (fun g e => (own_blk O21.out g e).1)
                 have BY : Hid (Below w1.heap.size w1 Y) := b5
                 have KY : Hid (Box Y (w1.heap.size) 9 #[.string key]) := K21.out.grown hg5 (fun ex => by have h : w1.heap.size + 1 = w1.heap.size := Option.some.inj ex; omega)
                 have OY : Hid (Y.ownsRow w1.heap.size 9 1 (.slice l5 P c5) P ((K.take P).map Value.string)) := ho5
                 clear ho5 hg5 hx5 b5)
              | (refine step_app_any _ (by rfl) (.tmp 47) (.tmp 49) 23 (by rfl) w1.heap.size 9 iS (.string ⟨#[]⟩) 1 16 Try.underlying23 JI.out JZ0.out JZ1.out JZ2.out rfl (by omega) (.slice l5 P c5) P ((K.take P).map Value.string) (by rfl) OY.out (some ⟨w1.heap.size, 0, none⟩) 1 1 [.string key] (by rfl) (fun ex => by cases ex) rfl (fun ad e => by cases e; intro k u hu; cases k with | zero => (cases hu; exact KY.out.cell 0) | succ k => simp at hu) (by intro u hu; simp at hu; subst hu; rfl) (by unfold maxLen; omega) (by omega) BY.out.size ?_
                 intro l7 c7 w7 ho7 hg7 hx7
                 rw [ob_slice] at hg7
                 have B7 : Hid (Below w1.heap.size w1 w7) := BY.out.grown hg7 BY.out.size (fun g e => (own_blk OY.out g e).1)
                 have O7 : Hid (w7.ownsRow w1.heap.size 9 1 (.slice l7 (P + 1) c7) (P + 1) ((K.take P).map Value.string ++ [.string key])) := ho7
                 clear ho7 hg7 hx7)
              | (refine step_app_any _ (by rfl) (.tmp 47) (.tmp 49) 23 (by rfl) w1.heap.size 9 iS (.string ⟨#[]⟩) 1 16 Try.underlying23 JI.out JZ0.out JZ1.out JZ2.out rfl (by omega) (.slice l5 P c5) P ((K.take P).map Value.string) (by rfl) OY.out (some ⟨w1.heap.size + 1, 0, none⟩) 1 1 [.string key] (by rfl) (fun ex => by cases ex) rfl (fun ad e => by cases e; intro k u hu; cases k with | zero => (cases hu; exact KY.out.cell 0) | succ k => simp at hu) (by intro u hu; simp at hu; subst hu; rfl) (by unfold maxLen; omega) (by omega) BY.out.size ?_
                 intro l7 c7 w7 ho7 hg7 hx7
                 rw [ob_slice] at hg7
                 have B7 : Hid (Below w1.heap.size w1 w7) := BY.out.grown hg7 BY.out.size (fun g e => (own_blk OY.out g e).1)
                 have O7 : Hid (w7.ownsRow w1.heap.size 9 1 (.slice l7 (P + 1) c7) (P + 1) ((K.take P).map Value.string ++ [.string key])) := ho7
                 clear ho7 hg7 hx7)
              | (refine step_app_any _ (by rfl) (.tmp 47) (.tmp 49) 23 (by rfl) w1.heap.size 9 iS (.string ⟨#[]⟩) 1 16 Try.underlying23 JI.out JZ0.out JZ1.out JZ2.out rfl (by omega) (.slice l5 P c5) P ((K.take P).map Value.string) (by rfl) OY.out (some ⟨w5.heap.size, 0, none⟩) 1 1 [.string key] (by rfl) (fun ex => by cases ex) rfl (fun ad e => by cases e; intro k u hu; cases k with | zero => (cases hu; exact KY.out.cell 0) | succ k => simp at hu) (by intro u hu; simp at hu; subst hu; rfl) (by unfold maxLen; omega) (by omega) BY.out.size ?_
                 intro l7 c7 w7 ho7 hg7 hx7
                 rw [ob_slice] at hg7
                 have B7 : Hid (Below w1.heap.size w1 w7) := BY.out.grown hg7 BY.out.size (fun g e => (own_blk OY.out g e).1)
                 have O7 : Hid (w7.ownsRow w1.heap.size 9 1 (.slice l7 (P + 1) c7) (P + 1) ((K.take P).map Value.string ++ [.string key])) := ho7
                 clear ho7 hg7 hx7)
              | (refine step_app_any _ (by rfl) (.tmp 50) (.tmp 53) 23 (by rfl) w1.heap.size 9 iS (.string ⟨#[]⟩) 1 16 Try.underlying23 JI.out JZ0.out JZ1.out JZ2.out rfl (by omega) (.slice l7 (P + 1) c7) (P + 1) ((K.take P).map Value.string ++ [.string key]) (by rfl) O7.out (some ⟨g, P, none⟩) (n - P) (yc - P) ((K.drop P).map Value.string) (by rfl) (fun ex => by cases ex) HTM.out (HTL.out _ B7.out) HD1.out (by unfold maxLen; omega) (by omega) B7.out.size ?_
                 intro l9 c9 w9 ho9 hg9 hx9
                 rw [ob_slice] at hg9
                 have B9 : Hid (Below w1.heap.size w1 w9) := B7.out.grown hg9 B7.out.size (fun g e => (own_blk O7.out g e).1)
                 have O9 : Hid (w9.ownsRow w1.heap.size 9 1 (.slice l9 (P + 1 + (n - P)) c9) (P + 1 + (n - P)) ((K.take P ++ key :: K.drop P).map Value.string)) := by unfold Hid; rw [← HFIN.out]; exact ho9
                 clear ho9 hg9 hx9)
              | (rw [if_pos (by simp [Region.wanted])]
                 go_simp
                 go_at_call 50
                 have hcap : P + 1 + (n - P) ≤ c9 ∧ c9 ≤ maxLen := by
                   rcases own_form O9.out with ⟨e, h0⟩ | ⟨g', cap', e, _, _⟩
                   · have := HTM2.out; omega
                   · simp only [Value.slice.injEq] at e
                     obtain ⟨rfl, _, rfl⟩ := e
                     exact own_cap O9.out
                 refine (c_build l9 (P + 1 + (n - P)) c9 (K.take P ++ key :: K.drop P) w9 (by have := HTM2.out; omega) (by have := HTM2.out; omega) hcap.1 (by have := hcap.2; unfold maxLen at this; omega) (RdV.own O9.out)).mono ?_
                 rintro e w10 ⟨⟨na, nc, ws, bs, rfl, ht, his⟩, hb10⟩
                 have B10 : Hid (Below w1.heap.size w1 w10) := B9.out.trans (hb10.mono B9.out.size)
                 have HT : Hid (OwnTr w10 w.heap.size na nc bs ws) := ht.low (Nat.le_trans B1.out.size B9.out.size)
                 have HTI : Hid (TreeIs (K.take P ++ key :: K.drop P) (ws.map saysN)) := his
                 have X10 : Box w10 (w.heap.size + 1) 27 #[.int .i64 0, .slice none 0 0] := X1.out.belowS B10.out
                 have HX10 : Hid (Box w10 (w.heap.size + 1) 27 #[.int .i64 0, .slice none 0 0]) := X10
                 have u0 := X10.cell 0
                 have u1 := X10.cell 1
                 have v0 := X10.thaw 0
                 have v1 := X10.thaw 1
                 clear ht his hb10 hcap X10
                 go_simp))
            all_goals
              have B11 : Hid (Below w.heap.size w w10) := B1.out.trans (B10.out.mono B1.out.size)
              clear z0 z1 t0 t1
              go_wp2
              exact retTC (v2 := .int .i64 0) Try.results21 rfl rfl rfl (put2_box HX10.out _ _) ⟨⟨na, nc, ws, bs, 0, _, rfl, (HT.out.set HX10.out).set (HX10.out.set 0 _), HI.out, HTI.out⟩, put2_below B11.out (Nat.le_succ _) _ _⟩
      · have HI2 : Hid (inK key K = false) := inK_end HKL.out HP.out hpn
        have hPe : P = n := by omega
        have g2 : ¬ (P : Int) < (P : Int) := by omega
        obtain rfl : P = n := hPe
        by_cases h6 : P = 60
        · have HI : Hid (InsIs (vs.map saysN) ro key 7 none) := HTW.out 7 none (.inr (.inl ⟨HI2.out, h6, rfl, rfl⟩))
          clear HI2 HTW
          subst h6
          go_wp2
          exact retTC (v2 := .int .i64 7) Try.results21 rfl rfl rfl (put2_box X1.out _ _) ⟨⟨none, 0, [], _, 7, none, rfl, ((OwnTr.nil B1.out.size).set X1.out).set (X1.out.set 0 _), HI.out, rfl⟩, put2_below B1.out (Nat.le_succ _) _ _⟩
        · have HI : Hid (InsIs (vs.map saysN) ro key 0 (some (K.take P ++ key :: K.drop P))) := HTW.out 0 _ (.inr (.inr ⟨HI2.out, h6, rfl, rfl⟩))
          have h6' : ((P : Int) == 60) = false := by simp; omega
          have HDN : Hid ((K.drop P).map Value.string = []) := by unfold Hid; rw [List.drop_eq_nil_of_le (by rw [HKL.out]; omega)]; rfl
          have HTL : Hid (∀ (x : Option Addr) U, Below w1.heap.size w1 U → ∀ ad : Addr, x = some ad → ∀ i u, ((K.drop P).map Value.string)[i]? = some u → U.cell? (ad.add i) = some u) := by
            intro x U hU ad ea i u hu
            rw [HDN.out] at hu; simp at hu
          have g0 : (0 : Int) ≤ (P : Int) := by omega
          have g4 : (P : Int) ≤ (P : Int) := by omega
          clear HTW HI2
          rcases HOF.out with ⟨rfl, rfl, rfl⟩ | ⟨g, rfl, hnc, hcm⟩
          · clear hPn
            go_wp2_with fail
            obtain ⟨U1, hU1⟩ : ∃ U, w1.drew.alloc (.cells #[] 9) = U := ⟨_, rfl⟩
            obtain ⟨U2, hU2⟩ : ∃ U, w1.drew.alloc (.cells #[.string key] 9) = U := ⟨_, rfl⟩
            have S1 : U1.heap.size = w1.heap.size + 1 := by rw [← hU1]; simp
            have S2 : U2.heap.size = w1.heap.size + 1 := by rw [← hU2]; simp
            obtain ⟨U12, hU12⟩ : ∃ U, U1.alloc (.cells #[.string key] 9) = U := ⟨_, rfl⟩
            obtain ⟨U21, hU21⟩ : ∃ U, U2.alloc (.cells #[] 9) = U := ⟨_, rfl⟩
            have b1 : Below w1.heap.size w1 U1 := by rw [← hU1]; exact (Below.refl _ _).drew.alloc (Nat.le_refl _) _
            have b2 : Below w1.heap.size w1 U2 := by rw [← hU2]; exact (Below.refl _ _).drew.alloc (Nat.le_refl _) _
            have B1' : Hid (Below w1.heap.size w1 U1) := b1
            have B12 : Hid (Below w1.heap.size w1 U12) := by unfold Hid; rw [← hU12]; exact b1.alloc b1.size _
            have B21 : Hid (Below w1.heap.size w1 U21) := by unfold Hid; rw [← hU21]; exact b2.alloc b2.size _
            have O1 : Hid (U1.ownsRow w1.heap.size 9 1 (.slice (some ⟨w1.heap.size, 0, none⟩) 0 0) 0 []) := by unfold Hid; rw [← hU1]; exact own_emptyE (V := w1.drew) (Nat.le_refl _)
            have O12 : Hid (U12.ownsRow w1.heap.size 9 1 (.slice (some ⟨w1.heap.size, 0, none⟩) 0 0) 0 []) := by unfold Hid; rw [← hU12]; exact own_below O1.out ((Below.refl _ _).alloc (Nat.le_refl _) _)
            have K12 : Hid (Box U12 (w1.heap.size + 1) 9 #[.string key]) := by unfold Hid; rw [← hU12, ← S1]; exact Box.new _ _ _
            have K2 : Box U2 w1.heap.size 9 #[.string key] := by rw [← hU2]; exact Box.new w1.drew _ _
            have K21 : Hid (Box U21 w1.heap.size 9 #[.string key]) := by unfold Hid; rw [← hU21]; exact K2.alloc _
            have O21 : Hid (U21.ownsRow w1.heap.size 9 1 (.slice (some ⟨w1.heap.size + 1, 0, none⟩) 0 0) 0 []) := by unfold Hid; rw [← hU21, ← S2]; exact own_emptyE b2.size
            have HTK : Hid (((K.take 0).map Value.string).length = 0 * 1) := by unfold Hid; simp
            have HTM : Hid (((K.drop 0).map Value.string).length = (0) * 1) := by unfold Hid; simp [HKL.out]
            have HT1 : Hid (∀ u ∈ (K.take 0).map Value.string, u.oneCell' = true) := map_one _ (fun _ => rfl) _
            have HD1 : Hid (∀ u ∈ (K.drop 0).map Value.string, u.oneCell' = true) := map_one _ (fun _ => rfl) _
            have HTC : Hid (∀ U, Below w1.heap.size w1 U → ∀ ad : Addr, (none : Option Addr) = some ad → ∀ i u, ((K.take 0).map Value.string)[i]? = some u → U.cell? (ad.add i) = some u) := by
              intro U hU ad ea
              cases ea
            have HFIN : Hid ((((K.take 0).map Value.string) ++ [Value.string key]) ++ ((K.drop 0).map Value.string) = (K.take 0 ++ key :: K.drop 0).map Value.string) := by unfold Hid; simp
            have HTM2 : Hid (0 + 1 + (0) = 0 + 1) := by unfold Hid; omega
            clear b1 b2 K2 hpn
            go_region_law (first
              | (refine step_app_any _ (by rfl) (.tmp 43) (.tmp 46) 23 (by rfl) w1.heap.size 9 iS (.string ⟨#[]⟩) 1 16 Try.underlying23 JI.out JZ0.out JZ1.out JZ2.out rfl (by omega) (.slice (some ⟨w1.heap.size, 0, none⟩) 0 0) 0 [] (by rfl) O1.out none 0 0 ((K.take 0).map Value.string) (by rfl) (fun _ => ⟨rfl, rfl⟩) HTK.out (HTC.out _ B1'.out) HT1.out (by unfold maxLen; omega) (by omega) B1'.out.size ?_
                 intro l5 c5 w5 ho5 hg5 hx5
                 rw [Nat.zero_add, List.nil_append] at ho5
                 rw [ob_slice] at hg5
                 have b5 : Below w1.heap.size w1 w5 := B1'.out.grown hg5 B1'.out.size (fun g e => (own_blk O1.out g e).1)
                 obtain ⟨Y, hY⟩ : ∃ Y, w5.alloc (.cells #[.string key] 9) = Y := ⟨_, rfl⟩
                 have b5Y : Below w5.heap.size w5 Y := by rw [← hY]; exact (Below.refl _ _).alloc (Nat.le_refl _) _
                 have BY : Hid (Below w1.heap.size w1 Y) := b5.trans (b5Y.mono b5.size)
                 have KY : Hid (Box Y w5.heap.size 9 #[.string key]) := by unfold Hid; rw [← hY]; exact Box.new _ _ _
                 have OY : Hid (Y.ownsRow w1.heap.size 9 1 (.slice l5 0 c5) 0 ((K.take 0).map Value.string)) := own_below ho5 b5Y
                 clear ho5 hg5 hx5 b5 b5Y)
              | (refine step_app_any _ (by rfl) (.tmp 43) (.tmp 46) 23 (by rfl) w1.heap.size 9 iS (.string ⟨#[]⟩) 1 16 Try.underlying23 JI.out JZ0.out JZ1.out JZ2.out rfl (by omega) (.slice (some ⟨w1.heap.size, 0, none⟩) 0 0) 0 [] (by rfl) O12.out none 0 0 ((K.take 0).map Value.string) (by rfl) (fun _ => ⟨rfl, rfl⟩) HTK.out (HTC.out _ B12.out) HT1.out (by unfold maxLen; omega) (by omega) B12.out.size ?_
                 intro l5 c5 Y ho5 hg5 hx5
                 rw [Nat.zero_add, List.nil_append] at ho5
                 rw [ob_slice] at hg5
                 have b5 : Below w1.heap.size w1 Y := B12.out.grown hg5 B12.out.size (fun g e => (own_blk O12.out g e).1)
                 have BY : Hid (Below w1.heap.size w1 Y) := b5
                 have KY : Hid (Box Y (w1.heap.size + 1) 9 #[.string key]) := K12.out.grown hg5 (fun ex => by have h : w1.heap.size = w1.heap.size + 1 := Option.some.inj ex; omega)
                 have OY : Hid (Y.ownsRow w1.heap.size 9 1 (.slice l5 0 c5) 0 ((K.take 0).map Value.string)) := ho5
                 clear ho5 hg5 hx5 b5)
              | (refine step_app_any _ (by rfl) (.tmp 43) (.tmp 46) 23 (by rfl) w1.heap.size 9 iS (.string ⟨#[]⟩) 1 16 Try.underlying23 JI.out JZ0.out JZ1.out JZ2.out rfl (by omega) (.slice (some ⟨w1.heap.size + 1, 0, none⟩) 0 0) 0 [] (by rfl) O21.out none 0 0 ((K.take 0).map Value.string) (by rfl) (fun _ => ⟨rfl, rfl⟩) HTK.out (HTC.out _ B21.out) HT1.out (by unfold maxLen; omega) (by omega) B21.out.size ?_
                 intro l5 c5 Y ho5 hg5 hx5
                 rw [Nat.zero_add, List.nil_append] at ho5
                 rw [ob_slice] at hg5
                 have b5 : Below w1.heap.size w1 Y := B21.out.grown hg5 B21.out.size (fun g e => (own_blk O21.out g e).1)
                 have BY : Hid (Below w1.heap.size w1 Y) := b5
                 have KY : Hid (Box Y (w1.heap.size) 9 #[.string key]) := K21.out.grown hg5 (fun ex => by have h : w1.heap.size + 1 = w1.heap.size := Option.some.inj ex; omega)
                 have OY : Hid (Y.ownsRow w1.heap.size 9 1 (.slice l5 0 c5) 0 ((K.take 0).map Value.string)) := ho5
                 clear ho5 hg5 hx5 b5)
              | (refine step_app_any _ (by rfl) (.tmp 47) (.tmp 49) 23 (by rfl) w1.heap.size 9 iS (.string ⟨#[]⟩) 1 16 Try.underlying23 JI.out JZ0.out JZ1.out JZ2.out rfl (by omega) (.slice l5 0 c5) 0 ((K.take 0).map Value.string) (by rfl) OY.out (some ⟨w1.heap.size, 0, none⟩) 1 1 [.string key] (by rfl) (fun ex => by cases ex) rfl (fun ad e => by cases e; intro k u hu; cases k with | zero => (cases hu; exact KY.out.cell 0) | succ k => simp at hu) (by intro u hu; simp at hu; subst hu; rfl) (by unfold maxLen; omega) (by omega) BY.out.size ?_
                 intro l7 c7 w7 ho7 hg7 hx7
                 rw [ob_slice] at hg7
                 have B7 : Hid (Below w1.heap.size w1 w7) := BY.out.grown hg7 BY.out.size (fun g e => (own_blk OY.out g e).1)
                 have O7 : Hid (w7.ownsRow w1.heap.size 9 1 (.slice l7 (0 + 1) c7) (0 + 1) ((K.take 0).map Value.string ++ [.string key])) := ho7
                 clear ho7 hg7 hx7)
              | (refine step_app_any _ (by rfl) (.tmp 47) (.tmp 49) 23 (by rfl) w1.heap.size 9 iS (.string ⟨#[]⟩) 1 16 Try.underlying23 JI.out JZ0.out JZ1.out JZ2.out rfl (by omega) (.slice l5 0 c5) 0 ((K.take 0).map Value.string) (by rfl) OY.out (some ⟨w1.heap.size + 1, 0, none⟩) 1 1 [.string key] (by rfl) (fun ex => by cases ex) rfl (fun ad e => by cases e; intro k u hu; cases k with | zero => (cases hu; exact KY.out.cell 0) | succ k => simp at hu) (by intro u hu; simp at hu; subst hu; rfl) (by unfold maxLen; omega) (by omega) BY.out.size ?_
                 intro l7 c7 w7 ho7 hg7 hx7
                 rw [ob_slice] at hg7
                 have B7 : Hid (Below w1.heap.size w1 w7) := BY.out.grown hg7 BY.out.size (fun g e => (own_blk OY.out g e).1)
                 have O7 : Hid (w7.ownsRow w1.heap.size 9 1 (.slice l7 (0 + 1) c7) (0 + 1) ((K.take 0).map Value.string ++ [.string key])) := ho7
                 clear ho7 hg7 hx7)
              | (refine step_app_any _ (by rfl) (.tmp 47) (.tmp 49) 23 (by rfl) w1.heap.size 9 iS (.string ⟨#[]⟩) 1 16 Try.underlying23 JI.out JZ0.out JZ1.out JZ2.out rfl (by omega) (.slice l5 0 c5) 0 ((K.take 0).map Value.string) (by rfl) OY.out (some ⟨w5.heap.size, 0, none⟩) 1 1 [.string key] (by rfl) (fun ex => by cases ex) rfl (fun ad e => by cases e; intro k u hu; cases k with | zero => (cases hu; exact KY.out.cell 0) | succ k => simp at hu) (by intro u hu; simp at hu; subst hu; rfl) (by unfold maxLen; omega) (by omega) BY.out.size ?_
                 intro l7 c7 w7 ho7 hg7 hx7
                 rw [ob_slice] at hg7
                 have B7 : Hid (Below w1.heap.size w1 w7) := BY.out.grown hg7 BY.out.size (fun g e => (own_blk OY.out g e).1)
                 have O7 : Hid (w7.ownsRow w1.heap.size 9 1 (.slice l7 (0 + 1) c7) (0 + 1) ((K.take 0).map Value.string ++ [.string key])) := ho7
                 clear ho7 hg7 hx7)
              | (refine step_app_any _ (by rfl) (.tmp 50) (.tmp 53) 23 (by rfl) w1.heap.size 9 iS (.string ⟨#[]⟩) 1 16 Try.underlying23 JI.out JZ0.out JZ1.out JZ2.out rfl (by omega) (.slice l7 (0 + 1) c7) (0 + 1) ((K.take 0).map Value.string ++ [.string key]) (by rfl) O7.out none (0) (0) ((K.drop 0).map Value.string) (by rfl) (fun _ => ⟨rfl, rfl⟩) HTM.out (HTL.out _ _ B7.out) HD1.out (by unfold maxLen; omega) (by omega) B7.out.size ?_
                 intro l9 c9 w9 ho9 hg9 hx9
                 rw [ob_slice] at hg9
                 have B9 : Hid (Below w1.heap.size w1 w9) := B7.out.grown hg9 B7.out.size (fun g e => (own_blk O7.out g e).1)
                 have O9 : Hid (w9.ownsRow w1.heap.size 9 1 (.slice l9 (0 + 1 + (0)) c9) (0 + 1 + (0)) ((K.take 0 ++ key :: K.drop 0).map Value.string)) := by unfold Hid; rw [← HFIN.out]; exact ho9
                 clear ho9 hg9 hx9)
              | (rw [if_pos (by simp [Region.wanted])]
                 go_simp
                 go_at_call 50
                 have hcap : 0 + 1 + (0) ≤ c9 ∧ c9 ≤ maxLen := by
                   rcases own_form O9.out with ⟨e, h0⟩ | ⟨g', cap', e, _, _⟩
                   · have := HTM2.out; omega
                   · simp only [Value.slice.injEq] at e
                     obtain ⟨rfl, _, rfl⟩ := e
                     exact own_cap O9.out
                 refine (c_build l9 (0 + 1 + (0)) c9 (K.take 0 ++ key :: K.drop 0) w9 (by have := HTM2.out; omega) (by have := HTM2.out; omega) hcap.1 (by have := hcap.2; unfold maxLen at this; omega) (RdV.own O9.out)).mono ?_
                 rintro e w10 ⟨⟨na, nc, ws, bs, rfl, ht, his⟩, hb10⟩
                 have B10 : Hid (Below w1.heap.size w1 w10) := B9.out.trans (hb10.mono B9.out.size)
                 have HT : Hid (OwnTr w10 w.heap.size na nc bs ws) := ht.low (Nat.le_trans B1.out.size B9.out.size)
                 have HTI : Hid (TreeIs (K.take 0 ++ key :: K.drop 0) (ws.map saysN)) := his
                 have X10 : Box w10 (w.heap.size + 1) 27 #[.int .i64 0, .slice none 0 0] := X1.out.belowS B10.out
                 have HX10 : Hid (Box w10 (w.heap.size + 1) 27 #[.int .i64 0, .slice none 0 0]) := X10
                 have u0 := X10.cell 0
                 have u1 := X10.cell 1
                 have v0 := X10.thaw 0
                 have v1 := X10.thaw 1
                 clear ht his hb10 hcap X10
                 go_simp))
            all_goals
              have B11 : Hid (Below w.heap.size w w10) := B1.out.trans (B10.out.mono B1.out.size)
              clear z0 z1 t0 t1
              go_wp2
              exact retTC (v2 := .int .i64 0) Try.results21 rfl rfl rfl (put2_box HX10.out _ _) ⟨⟨na, nc, ws, bs, 0, _, rfl, (HT.out.set HX10.out).set (HX10.out.set 0 _), HI.out, HTI.out⟩, put2_below B11.out (Nat.le_succ _) _ _⟩
          · have g3 : (P : Int) ≤ (yc : Int) := by omega
            by_cases g5 : yc = P
            · obtain rfl : P = yc := g5.symm
              go_wp2_with fail
              obtain ⟨U1, hU1⟩ : ∃ U, w1.drew.alloc (.cells #[] 9) = U := ⟨_, rfl⟩
              obtain ⟨U2, hU2⟩ : ∃ U, w1.drew.alloc (.cells #[.string key] 9) = U := ⟨_, rfl⟩
              have S1 : U1.heap.size = w1.heap.size + 1 := by rw [← hU1]; simp
              have S2 : U2.heap.size = w1.heap.size + 1 := by rw [← hU2]; simp
              obtain ⟨U12, hU12⟩ : ∃ U, U1.alloc (.cells #[.string key] 9) = U := ⟨_, rfl⟩
              obtain ⟨U21, hU21⟩ : ∃ U, U2.alloc (.cells #[] 9) = U := ⟨_, rfl⟩
              have b1 : Below w1.heap.size w1 U1 := by rw [← hU1]; exact (Below.refl _ _).drew.alloc (Nat.le_refl _) _
              have b2 : Below w1.heap.size w1 U2 := by rw [← hU2]; exact (Below.refl _ _).drew.alloc (Nat.le_refl _) _
              have B1' : Hid (Below w1.heap.size w1 U1) := b1
              have B12 : Hid (Below w1.heap.size w1 U12) := by unfold Hid; rw [← hU12]; exact b1.alloc b1.size _
              have B21 : Hid (Below w1.heap.size w1 U21) := by unfold Hid; rw [← hU21]; exact b2.alloc b2.size _
              have O1 : Hid (U1.ownsRow w1.heap.size 9 1 (.slice (some ⟨w1.heap.size, 0, none⟩) 0 0) 0 []) := by unfold Hid; rw [← hU1]; exact own_emptyE (V := w1.drew) (Nat.le_refl _)
              have O12 : Hid (U12.ownsRow w1.heap.size 9 1 (.slice (some ⟨w1.heap.size, 0, none⟩) 0 0) 0 []) := by unfold Hid; rw [← hU12]; exact own_below O1.out ((Below.refl _ _).alloc (Nat.le_refl _) _)
              have K12 : Hid (Box U12 (w1.heap.size + 1) 9 #[.string key]) := by unfold Hid; rw [← hU12, ← S1]; exact Box.new _ _ _
              have K2 : Box U2 w1.heap.size 9 #[.string key] := by rw [← hU2]; exact Box.new w1.drew _ _
              have K21 : Hid (Box U21 w1.heap.size 9 #[.string key]) := by unfold Hid; rw [← hU21]; exact K2.alloc _
              have O21 : Hid (U21.ownsRow w1.heap.size 9 1 (.slice (some ⟨w1.heap.size + 1, 0, none⟩) 0 0) 0 []) := by unfold Hid; rw [← hU21, ← S2]; exact own_emptyE b2.size
              have HTK : Hid (((K.take P).map Value.string).length = P * 1) := by unfold Hid; rw [List.length_map, List.length_take, HKL.out]; omega
              have HTM : Hid (((K.drop P).map Value.string).length = (0) * 1) := by unfold Hid; rw [List.length_map, List.length_drop, HKL.out]; omega
              have HT1 : Hid (∀ u ∈ (K.take P).map Value.string, u.oneCell' = true) := map_one _ (fun _ => rfl) _
              have HD1 : Hid (∀ u ∈ (K.drop P).map Value.string, u.oneCell' = true) := map_one _ (fun _ => rfl) _
              have HTC : Hid (∀ U, Below w1.heap.size w1 U → ∀ ad : Addr, ((some ⟨g, 0, none⟩) : Option Addr) = some ad → ∀ i u, ((K.take P).map Value.string)[i]? = some u → U.cell? (ad.add i) = some u) := by
                intro U hU ad ea i u hu
                have hi : i < P := by have := (List.getElem?_eq_some_iff.1 hu).1; rw [List.length_map, List.length_take] at this; omega
                obtain ⟨b', off', e, hl, hc⟩ := (HRK.out.below hU).2 (by omega)
                cases e
                cases ea
                rw [addr_add, hc i (by omega)]
                rw [List.getElem?_map, List.getElem?_take_of_lt hi] at hu
                rw [List.getElem?_map]; exact hu
              have HFIN : Hid ((((K.take P).map Value.string) ++ [Value.string key]) ++ ((K.drop P).map Value.string) = (K.take P ++ key :: K.drop P).map Value.string) := by unfold Hid; simp
              have HTM2 : Hid (P + 1 + (0) = P + 1) := by unfold Hid; omega
              clear b1 b2 K2 hpn
              go_region_law (first
                | (refine step_app_any _ (by rfl) (.tmp 43) (.tmp 46) 23 (by rfl) w1.heap.size 9 iS (.string ⟨#[]⟩) 1 16 Try.underlying23 JI.out JZ0.out JZ1.out JZ2.out rfl (by omega) (.slice (some ⟨w1.heap.size, 0, none⟩) 0 0) 0 [] (by rfl) O1.out (some ⟨g, 0, none⟩) P P ((K.take P).map Value.string) (by rfl) (fun ex => by cases ex) HTK.out (HTC.out _ B1'.out) HT1.out (by unfold maxLen; omega) (by omega) B1'.out.size ?_
                   intro l5 c5 w5 ho5 hg5 hx5
                   rw [Nat.zero_add, List.nil_append] at ho5
                   rw [ob_slice] at hg5
                   have b5 : Below w1.heap.size w1 w5 := B1'.out.grown hg5 B1'.out.size (fun g e => (own_blk O1.out g e).1)
                   obtain ⟨Y, hY⟩ : ∃ Y, w5.alloc (.cells #[.string key] 9) = Y := ⟨_, rfl⟩
                   have b5Y : Below w5.heap.size w5 Y := by rw [← hY]; exact (Below.refl _ _).alloc (Nat.le_refl _) _
                   have BY : Hid (Below w1.heap.size w1 Y) := b5.trans (b5Y.mono b5.size)
                   have KY : Hid (Box Y w5.heap.size 9 #[.string key]) := by unfold Hid; rw [← hY]; exact Box.new _ _ _
                   have OY : Hid (Y.ownsRow w1.heap.size 9 1 (.slice l5 P c5) P ((K.take P).map Value.string)) := own_below ho5 b5Y
                   clear ho5 hg5 hx5 b5 b5Y)
                | (refine step_app_any _ (by rfl) (.tmp 43) (.tmp 46) 23 (by rfl) w1.heap.size 9 iS (.string ⟨#[]⟩) 1 16 Try.underlying23 JI.out JZ0.out JZ1.out JZ2.out rfl (by omega) (.slice (some ⟨w1.heap.size, 0, none⟩) 0 0) 0 [] (by rfl) O12.out (some ⟨g, 0, none⟩) P P ((K.take P).map Value.string) (by rfl) (fun ex => by cases ex) HTK.out (HTC.out _ B12.out) HT1.out (by unfold maxLen; omega) (by omega) B12.out.size ?_
                   intro l5 c5 Y ho5 hg5 hx5
                   rw [Nat.zero_add, List.nil_append] at ho5
                   rw [ob_slice] at hg5
                   have b5 : Below w1.heap.size w1 Y := B12.out.grown hg5 B12.out.size (fun g e => (own_blk O12.out g e).1)
                   have BY : Hid (Below w1.heap.size w1 Y) := b5
                   have KY : Hid (Box Y (w1.heap.size + 1) 9 #[.string key]) := K12.out.grown hg5 (fun ex => by have h : w1.heap.size = w1.heap.size + 1 := Option.some.inj ex; omega)
                   have OY : Hid (Y.ownsRow w1.heap.size 9 1 (.slice l5 P c5) P ((K.take P).map Value.string)) := ho5
                   clear ho5 hg5 hx5 b5)
                | (refine step_app_any _ (by rfl) (.tmp 43) (.tmp 46) 23 (by rfl) w1.heap.size 9 iS (.string ⟨#[]⟩) 1 16 Try.underlying23 JI.out JZ0.out JZ1.out JZ2.out rfl (by omega) (.slice (some ⟨w1.heap.size + 1, 0, none⟩) 0 0) 0 [] (by rfl) O21.out (some ⟨g, 0, none⟩) P P ((K.take P).map Value.string) (by rfl) (fun ex => by cases ex) HTK.out (HTC.out _ B21.out) HT1.out (by unfold maxLen; omega) (by omega) B21.out.size ?_
                   intro l5 c5 Y ho5 hg5 hx5
                   rw [Nat.zero_add, List.nil_append] at ho5
                   rw [ob_slice] at hg5
                   have b5 : Below w1.heap.size w1 Y := B21.out.grown hg5 B21.out.size (fun g e => (own_blk O21.out g e).1)
                   have BY : Hid (Below w1.heap.size w1 Y) := b5
                   have KY : Hid (Box Y (w1.heap.size) 9 #[.string key]) := K21.out.grown hg5 (fun ex => by have h : w1.heap.size + 1 = w1.heap.size := Option.some.inj ex; omega)
                   have OY : Hid (Y.ownsRow w1.heap.size 9 1 (.slice l5 P c5) P ((K.take P).map Value.string)) := ho5
                   clear ho5 hg5 hx5 b5)
                | (refine step_app_any _ (by rfl) (.tmp 47) (.tmp 49) 23 (by rfl) w1.heap.size 9 iS (.string ⟨#[]⟩) 1 16 Try.underlying23 JI.out JZ0.out JZ1.out JZ2.out rfl (by omega) (.slice l5 P c5) P ((K.take P).map Value.string) (by rfl) OY.out (some ⟨w1.heap.size, 0, none⟩) 1 1 [.string key] (by rfl) (fun ex => by cases ex) rfl (fun ad e => by cases e; intro k u hu; cases k with | zero => (cases hu; exact KY.out.cell 0) | succ k => simp at hu) (by intro u hu; simp at hu; subst hu; rfl) (by unfold maxLen; omega) (by omega) BY.out.size ?_
                   intro l7 c7 w7 ho7 hg7 hx7
                   rw [ob_slice] at hg7
                   have B7 : Hid (Below w1.heap.size w1 w7) := BY.out.grown hg7 BY.out.size (fun g e => (own_blk OY.out g e).1)
                   have O7 : Hid (w7.ownsRow w1.heap.size 9 1 (.slice l7 (P + 1) c7) (P + 1) ((K.take P).map Value.string ++ [.string key])) := ho7
                   clear ho7 hg7 hx7)
                | (refine step_app_any _ (by rfl) (.tmp 47) (.tmp 49) 23 (by rfl) w1.heap.size 9 iS (.string ⟨#[]⟩) 1 16 Try.underlying23 JI.out JZ0.out JZ1.out JZ2.out rfl (by omega) (.slice l5 P c5) P ((K.take P).map Value.string) (by rfl) OY.out (some ⟨w1.heap.size + 1, 0, none⟩) 1 1 [.string key] (by rfl) (fun ex => by cases ex) rfl (fun ad e => by cases e; intro k u hu; cases k with | zero => (cases hu; exact KY.out.cell 0) | succ k => simp at hu) (by intro u hu; simp at hu; subst hu; rfl) (by unfold maxLen; omega) (by omega) BY.out.size ?_
                   intro l7 c7 w7 ho7 hg7 hx7
                   rw [ob_slice] at hg7
                   have B7 : Hid (Below w1.heap.size w1 w7) := BY.out.grown hg7 BY.out.size (fun g e => (own_blk OY.out g e).1)
                   have O7 : Hid (w7.ownsRow w1.heap.size 9 1 (.slice l7 (P + 1) c7) (P + 1) ((K.take P).map Value.string ++ [.string key])) := ho7
                   clear ho7 hg7 hx7)
                | (refine step_app_any _ (by rfl) (.tmp 47) (.tmp 49) 23 (by rfl) w1.heap.size 9 iS (.string ⟨#[]⟩) 1 16 Try.underlying23 JI.out JZ0.out JZ1.out JZ2.out rfl (by omega) (.slice l5 P c5) P ((K.take P).map Value.string) (by rfl) OY.out (some ⟨w5.heap.size, 0, none⟩) 1 1 [.string key] (by rfl) (fun ex => by cases ex) rfl (fun ad e => by cases e; intro k u hu; cases k with | zero => (cases hu; exact KY.out.cell 0) | succ k => simp at hu) (by intro u hu; simp at hu; subst hu; rfl) (by unfold maxLen; omega) (by omega) BY.out.size ?_
                   intro l7 c7 w7 ho7 hg7 hx7
                   rw [ob_slice] at hg7
                   have B7 : Hid (Below w1.heap.size w1 w7) := BY.out.grown hg7 BY.out.size (fun g e => (own_blk OY.out g e).1)
                   have O7 : Hid (w7.ownsRow w1.heap.size 9 1 (.slice l7 (P + 1) c7) (P + 1) ((K.take P).map Value.string ++ [.string key])) := ho7
                   clear ho7 hg7 hx7)
                | (refine step_app_any _ (by rfl) (.tmp 50) (.tmp 53) 23 (by rfl) w1.heap.size 9 iS (.string ⟨#[]⟩) 1 16 Try.underlying23 JI.out JZ0.out JZ1.out JZ2.out rfl (by omega) (.slice l7 (P + 1) c7) (P + 1) ((K.take P).map Value.string ++ [.string key]) (by rfl) O7.out (some ⟨g, 0, none⟩) (0) (0) ((K.drop P).map Value.string) (by rfl) (fun ex => by cases ex) HTM.out (HTL.out _ _ B7.out) HD1.out (by unfold maxLen; omega) (by omega) B7.out.size ?_
                   intro l9 c9 w9 ho9 hg9 hx9
                   rw [ob_slice] at hg9
                   have B9 : Hid (Below w1.heap.size w1 w9) := B7.out.grown hg9 B7.out.size (fun g e => (own_blk O7.out g e).1)
                   have O9 : Hid (w9.ownsRow w1.heap.size 9 1 (.slice l9 (P + 1 + (0)) c9) (P + 1 + (0)) ((K.take P ++ key :: K.drop P).map Value.string)) := by unfold Hid; rw [← HFIN.out]; exact ho9
                   clear ho9 hg9 hx9)
                | (rw [if_pos (by simp [Region.wanted])]
                   go_simp
                   go_at_call 50
                   have hcap : P + 1 + (0) ≤ c9 ∧ c9 ≤ maxLen := by
                     rcases own_form O9.out with ⟨e, h0⟩ | ⟨g', cap', e, _, _⟩
                     · have := HTM2.out; omega
                     · simp only [Value.slice.injEq] at e
                       obtain ⟨rfl, _, rfl⟩ := e
                       exact own_cap O9.out
                   refine (c_build l9 (P + 1 + (0)) c9 (K.take P ++ key :: K.drop P) w9 (by have := HTM2.out; omega) (by have := HTM2.out; omega) hcap.1 (by have := hcap.2; unfold maxLen at this; omega) (RdV.own O9.out)).mono ?_
                   rintro e w10 ⟨⟨na, nc, ws, bs, rfl, ht, his⟩, hb10⟩
                   have B10 : Hid (Below w1.heap.size w1 w10) := B9.out.trans (hb10.mono B9.out.size)
                   have HT : Hid (OwnTr w10 w.heap.size na nc bs ws) := ht.low (Nat.le_trans B1.out.size B9.out.size)
                   have HTI : Hid (TreeIs (K.take P ++ key :: K.drop P) (ws.map saysN)) := his
                   have X10 : Box w10 (w.heap.size + 1) 27 #[.int .i64 0, .slice none 0 0] := X1.out.belowS B10.out
                   have HX10 : Hid (Box w10 (w.heap.size + 1) 27 #[.int .i64 0, .slice none 0 0]) := X10
                   have u0 := X10.cell 0
                   have u1 := X10.cell 1
                   have v0 := X10.thaw 0
                   have v1 := X10.thaw 1
                   clear ht his hb10 hcap X10
                   go_simp))
              all_goals
                have B11 : Hid (Below w.heap.size w w10) := B1.out.trans (B10.out.mono B1.out.size)
                clear z0 z1 t0 t1
                go_wp2
                exact retTC (v2 := .int .i64 0) Try.results21 rfl rfl rfl (put2_box HX10.out _ _) ⟨⟨na, nc, ws, bs, 0, _, rfl, (HT.out.set HX10.out).set (HX10.out.set 0 _), HI.out, HTI.out⟩, put2_below B11.out (Nat.le_succ _) _ _⟩
            · have hPe' : P - P = 0 := by omega
              go_wp2_with fail
              obtain ⟨U1, hU1⟩ : ∃ U, w1.drew.alloc (.cells #[] 9) = U := ⟨_, rfl⟩
              obtain ⟨U2, hU2⟩ : ∃ U, w1.drew.alloc (.cells #[.string key] 9) = U := ⟨_, rfl⟩
              have S1 : U1.heap.size = w1.heap.size + 1 := by rw [← hU1]; simp
              have S2 : U2.heap.size = w1.heap.size + 1 := by rw [← hU2]; simp
              obtain ⟨U12, hU12⟩ : ∃ U, U1.alloc (.cells #[.string key] 9) = U := ⟨_, rfl⟩
              obtain ⟨U21, hU21⟩ : ∃ U, U2.alloc (.cells #[] 9) = U := ⟨_, rfl⟩
              have b1 : Below w1.heap.size w1 U1 := by rw [← hU1]; exact (Below.refl _ _).drew.alloc (Nat.le_refl _) _
              have b2 : Below w1.heap.size w1 U2 := by rw [← hU2]; exact (Below.refl _ _).drew.alloc (Nat.le_refl _) _
              have B1' : Hid (Below w1.heap.size w1 U1) := b1
              have B12 : Hid (Below w1.heap.size w1 U12) := by unfold Hid; rw [← hU12]; exact b1.alloc b1.size _
              have B21 : Hid (Below w1.heap.size w1 U21) := by unfold Hid; rw [← hU21]; exact b2.alloc b2.size _
              have O1 : Hid (U1.ownsRow w1.heap.size 9 1 (.slice (some ⟨w1.heap.size, 0, none⟩) 0 0) 0 []) := by unfold Hid; rw [← hU1]; exact own_emptyE (V := w1.drew) (Nat.le_refl _)
              have O12 : Hid (U12.ownsRow w1.heap.size 9 1 (.slice (some ⟨w1.heap.size, 0, none⟩) 0 0) 0 []) := by unfold Hid; rw [← hU12]; exact own_below O1.out ((Below.refl _ _).alloc (Nat.le_refl _) _)
              have K12 : Hid (Box U12 (w1.heap.size + 1) 9 #[.string key]) := by unfold Hid; rw [← hU12, ← S1]; exact Box.new _ _ _
              have K2 : Box U2 w1.heap.size 9 #[.string key] := by rw [← hU2]; exact Box.new w1.drew _ _
              have K21 : Hid (Box U21 w1.heap.size 9 #[.string key]) := by unfold Hid; rw [← hU21]; exact K2.alloc _
              have O21 : Hid (U21.ownsRow w1.heap.size 9 1 (.slice (some ⟨w1.heap.size + 1, 0, none⟩) 0 0) 0 []) := by unfold Hid; rw [← hU21, ← S2]; exact own_emptyE b2.size
              have HTK : Hid (((K.take P).map Value.string).length = P * 1) := by unfold Hid; rw [List.length_map, List.length_take, HKL.out]; omega
              have HTM : Hid (((K.drop P).map Value.string).length = (0) * 1) := by unfold Hid; rw [List.length_map, List.length_drop, HKL.out]; omega
              have HT1 : Hid (∀ u ∈ (K.take P).map Value.string, u.oneCell' = true) := map_one _ (fun _ => rfl) _
              have HD1 : Hid (∀ u ∈ (K.drop P).map Value.string, u.oneCell' = true) := map_one _ (fun _ => rfl) _
              have HTC : Hid (∀ U, Below w1.heap.size w1 U → ∀ ad : Addr, ((some ⟨g, 0, none⟩) : Option Addr) = some ad → ∀ i u, ((K.take P).map Value.string)[i]? = some u → U.cell? (ad.add i) = some u) := by
                intro U hU ad ea i u hu
                have hi : i < P := by have := (List.getElem?_eq_some_iff.1 hu).1; rw [List.length_map, List.length_take] at this; omega
                obtain ⟨b', off', e, hl, hc⟩ := (HRK.out.below hU).2 (by omega)
                cases e
                cases ea
                rw [addr_add, hc i (by omega)]
                rw [List.getElem?_map, List.getElem?_take_of_lt hi] at hu
                rw [List.getElem?_map]; exact hu
              have HFIN : Hid ((((K.take P).map Value.string) ++ [Value.string key]) ++ ((K.drop P).map Value.string) = (K.take P ++ key :: K.drop P).map Value.string) := by unfold Hid; simp
              have HTM2 : Hid (P + 1 + (0) = P + 1) := by unfold Hid; omega
              clear b1 b2 K2 hpn
              go_region_law (first
                | (refine step_app_any _ (by rfl) (.tmp 43) (.tmp 46) 23 (by rfl) w1.heap.size 9 iS (.string ⟨#[]⟩) 1 16 Try.underlying23 JI.out JZ0.out JZ1.out JZ2.out rfl (by omega) (.slice (some ⟨w1.heap.size, 0, none⟩) 0 0) 0 [] (by rfl) O1.out (some ⟨g, 0, none⟩) P yc ((K.take P).map Value.string) (by rfl) (fun ex => by cases ex) HTK.out (HTC.out _ B1'.out) HT1.out (by unfold maxLen; omega) (by omega) B1'.out.size ?_
                   intro l5 c5 w5 ho5 hg5 hx5
                   rw [Nat.zero_add, List.nil_append] at ho5
                   rw [ob_slice] at hg5
                   have b5 : Below w1.heap.size w1 w5 := B1'.out.grown hg5 B1'.out.size (fun g e => (own_blk O1.out g e).1)
                   obtain ⟨Y, hY⟩ : ∃ Y, w5.alloc (.cells #[.string key] 9) = Y := ⟨_, rfl⟩
                   have b5Y : Below w5.heap.size w5 Y := by rw [← hY]; exact (Below.refl _ _).alloc (Nat.le_refl _) _
                   have BY : Hid (Below w1.heap.size w1 Y) := b5.trans (b5Y.mono b5.size)
                   have KY : Hid (Box Y w5.heap.size 9 #[.string key]) := by unfold Hid; rw [← hY]; exact Box.new _ _ _
                   have OY : Hid (Y.ownsRow w1.heap.size 9 1 (.slice l5 P c5) P ((K.take P).map Value.string)) := own_below ho5 b5Y
                   clear ho5 hg5 hx5 b5 b5Y)
                | (refine step_app_any _ (by rfl) (.tmp 43) (.tmp 46) 23 (by rfl) w1.heap.size 9 iS (.string ⟨#[]⟩) 1 16 Try.underlying23 JI.out JZ0.out JZ1.out JZ2.out rfl (by omega) (.slice (some ⟨w1.heap.size, 0, none⟩) 0 0) 0 [] (by rfl) O12.out (some ⟨g, 0, none⟩) P yc ((K.take P).map Value.string) (by rfl) (fun ex => by cases ex) HTK.out (HTC.out _ B12.out) HT1.out (by unfold maxLen; omega) (by omega) B12.out.size ?_
                   intro l5 c5 Y ho5 hg5 hx5
                   rw [Nat.zero_add, List.nil_append] at ho5
                   rw [ob_slice] at hg5
                   have b5 : Below w1.heap.size w1 Y := B12.out.grown hg5 B12.out.size (fun g e => (own_blk O12.out g e).1)
                   have BY : Hid (Below w1.heap.size w1 Y) := b5
                   have KY : Hid (Box Y (w1.heap.size + 1) 9 #[.string key]) := K12.out.grown hg5 (fun ex => by have h : w1.heap.size = w1.heap.size + 1 := Option.some.inj ex; omega)
                   have OY : Hid (Y.ownsRow w1.heap.size 9 1 (.slice l5 P c5) P ((K.take P).map Value.string)) := ho5
                   clear ho5 hg5 hx5 b5)
                | (refine step_app_any _ (by rfl) (.tmp 43) (.tmp 46) 23 (by rfl) w1.heap.size 9 iS (.string ⟨#[]⟩) 1 16 Try.underlying23 JI.out JZ0.out JZ1.out JZ2.out rfl (by omega) (.slice (some ⟨w1.heap.size + 1, 0, none⟩) 0 0) 0 [] (by rfl) O21.out (some ⟨g, 0, none⟩) P yc ((K.take P).map Value.string) (by rfl) (fun ex => by cases ex) HTK.out (HTC.out _ B21.out) HT1.out (by unfold maxLen; omega) (by omega) B21.out.size ?_
                   intro l5 c5 Y ho5 hg5 hx5
                   rw [Nat.zero_add, List.nil_append] at ho5
                   rw [ob_slice] at hg5
                   have b5 : Below w1.heap.size w1 Y := B21.out.grown hg5 B21.out.size (fun g e => (own_blk O21.out g e).1)
                   have BY : Hid (Below w1.heap.size w1 Y) := b5
                   have KY : Hid (Box Y (w1.heap.size) 9 #[.string key]) := K21.out.grown hg5 (fun ex => by have h : w1.heap.size + 1 = w1.heap.size := Option.some.inj ex; omega)
                   have OY : Hid (Y.ownsRow w1.heap.size 9 1 (.slice l5 P c5) P ((K.take P).map Value.string)) := ho5
                   clear ho5 hg5 hx5 b5)
                | (refine step_app_any _ (by rfl) (.tmp 47) (.tmp 49) 23 (by rfl) w1.heap.size 9 iS (.string ⟨#[]⟩) 1 16 Try.underlying23 JI.out JZ0.out JZ1.out JZ2.out rfl (by omega) (.slice l5 P c5) P ((K.take P).map Value.string) (by rfl) OY.out (some ⟨w1.heap.size, 0, none⟩) 1 1 [.string key] (by rfl) (fun ex => by cases ex) rfl (fun ad e => by cases e; intro k u hu; cases k with | zero => (cases hu; exact KY.out.cell 0) | succ k => simp at hu) (by intro u hu; simp at hu; subst hu; rfl) (by unfold maxLen; omega) (by omega) BY.out.size ?_
                   intro l7 c7 w7 ho7 hg7 hx7
                   rw [ob_slice] at hg7
                   have B7 : Hid (Below w1.heap.size w1 w7) := BY.out.grown hg7 BY.out.size (fun g e => (own_blk OY.out g e).1)
                   have O7 : Hid (w7.ownsRow w1.heap.size 9 1 (.slice l7 (P + 1) c7) (P + 1) ((K.take P).map Value.string ++ [.string key])) := ho7
                   clear ho7 hg7 hx7)
                | (refine step_app_any _ (by rfl) (.tmp 47) (.tmp 49) 23 (by rfl) w1.heap.size 9 iS (.string ⟨#[]⟩) 1 16 Try.underlying23 JI.out JZ0.out JZ1.out JZ2.out rfl (by omega) (.slice l5 P c5) P ((K.take P).map Value.string) (by rfl) OY.out (some ⟨w1.heap.size + 1, 0, none⟩) 1 1 [.string key] (by rfl) (fun ex => by cases ex) rfl (fun ad e => by cases e; intro k u hu; cases k with | zero => (cases hu; exact KY.out.cell 0) | succ k => simp at hu) (by intro u hu; simp at hu; subst hu; rfl) (by unfold maxLen; omega) (by omega) BY.out.size ?_
                   intro l7 c7 w7 ho7 hg7 hx7
                   rw [ob_slice] at hg7
                   have B7 : Hid (Below w1.heap.size w1 w7) := BY.out.grown hg7 BY.out.size (fun g e => (own_blk OY.out g e).1)
                   have O7 : Hid (w7.ownsRow w1.heap.size 9 1 (.slice l7 (P + 1) c7) (P + 1) ((K.take P).map Value.string ++ [.string key])) := ho7
                   clear ho7 hg7 hx7)
                | (refine step_app_any _ (by rfl) (.tmp 47) (.tmp 49) 23 (by rfl) w1.heap.size 9 iS (.string ⟨#[]⟩) 1 16 Try.underlying23 JI.out JZ0.out JZ1.out JZ2.out rfl (by omega) (.slice l5 P c5) P ((K.take P).map Value.string) (by rfl) OY.out (some ⟨w5.heap.size, 0, none⟩) 1 1 [.string key] (by rfl) (fun ex => by cases ex) rfl (fun ad e => by cases e; intro k u hu; cases k with | zero => (cases hu; exact KY.out.cell 0) | succ k => simp at hu) (by intro u hu; simp at hu; subst hu; rfl) (by unfold maxLen; omega) (by omega) BY.out.size ?_
                   intro l7 c7 w7 ho7 hg7 hx7
                   rw [ob_slice] at hg7
                   have B7 : Hid (Below w1.heap.size w1 w7) := BY.out.grown hg7 BY.out.size (fun g e => (own_blk OY.out g e).1)
                   have O7 : Hid (w7.ownsRow w1.heap.size 9 1 (.slice l7 (P + 1) c7) (P + 1) ((K.take P).map Value.string ++ [.string key])) := ho7
                   clear ho7 hg7 hx7)
                | (refine step_app_any _ (by rfl) (.tmp 50) (.tmp 53) 23 (by rfl) w1.heap.size 9 iS (.string ⟨#[]⟩) 1 16 Try.underlying23 JI.out JZ0.out JZ1.out JZ2.out rfl (by omega) (.slice l7 (P + 1) c7) (P + 1) ((K.take P).map Value.string ++ [.string key]) (by rfl) O7.out (some ⟨g, P, none⟩) (0) (yc - P) ((K.drop P).map Value.string) (by rfl) (fun ex => by cases ex) HTM.out (HTL.out _ _ B7.out) HD1.out (by unfold maxLen; omega) (by omega) B7.out.size ?_
                   intro l9 c9 w9 ho9 hg9 hx9
                   rw [ob_slice] at hg9
                   have B9 : Hid (Below w1.heap.size w1 w9) := B7.out.grown hg9 B7.out.size (fun g e => (own_blk O7.out g e).1)
                   have O9 : Hid (w9.ownsRow w1.heap.size 9 1 (.slice l9 (P + 1 + (0)) c9) (P + 1 + (0)) ((K.take P ++ key :: K.drop P).map Value.string)) := by unfold Hid; rw [← HFIN.out]; exact ho9
                   clear ho9 hg9 hx9)
                | (rw [if_pos (by simp [Region.wanted])]
                   go_simp
                   go_at_call 50
                   have hcap : P + 1 + (0) ≤ c9 ∧ c9 ≤ maxLen := by
                     rcases own_form O9.out with ⟨e, h0⟩ | ⟨g', cap', e, _, _⟩
                     · have := HTM2.out; omega
                     · simp only [Value.slice.injEq] at e
                       obtain ⟨rfl, _, rfl⟩ := e
                       exact own_cap O9.out
                   refine (c_build l9 (P + 1 + (0)) c9 (K.take P ++ key :: K.drop P) w9 (by have := HTM2.out; omega) (by have := HTM2.out; omega) hcap.1 (by have := hcap.2; unfold maxLen at this; omega) (RdV.own O9.out)).mono ?_
                   rintro e w10 ⟨⟨na, nc, ws, bs, rfl, ht, his⟩, hb10⟩
                   have B10 : Hid (Below w1.heap.size w1 w10) := B9.out.trans (hb10.mono B9.out.size)
                   have HT : Hid (OwnTr w10 w.heap.size na nc bs ws) := ht.low (Nat.le_trans B1.out.size B9.out.size)
                   have HTI : Hid (TreeIs (K.take P ++ key :: K.drop P) (ws.map saysN)) := his
                   have X10 : Box w10 (w.heap.size + 1) 27 #[.int .i64 0, .slice none 0 0] := X1.out.belowS B10.out
                   have HX10 : Hid (Box w10 (w.heap.size + 1) 27 #[.int .i64 0, .slice none 0 0]) := X10
                   have u0 := X10.cell 0
                   have u1 := X10.cell 1
                   have v0 := X10.thaw 0
                   have v1 := X10.thaw 1
                   clear ht his hb10 hcap X10
                   go_simp))
              all_goals
                have B11 : Hid (Below w.heap.size w w10) := B1.out.trans (B10.out.mono B1.out.size)
                clear z0 z1 t0 t1
                go_wp2
                exact retTC (v2 := .int .i64 0) Try.results21 rfl rfl rfl (put2_box HX10.out _ _) ⟨⟨na, nc, ws, bs, 0, _, rfl, (HT.out.set HX10.out).set (HX10.out.set 0 _), HI.out, HTI.out⟩, put2_below B11.out (Nat.le_succ _) _ _⟩
    · have HI : Hid (InsIs (vs.map saysN) ro key c none) := .inl ⟨ha, hc0, rfl⟩
      have hc1 : (c != 0) = true := by simpa using hc0
      clear ha hc0 h4
      go_wp2
      exact retTC (v2 := .int .i64 c) Try.results21 rfl rfl rfl (put2_box X1.out _ _) ⟨⟨none, 0, [], _, c, none, rfl, ((OwnTr.nil B1.out.size).set X1.out).set (X1.out.set 0 _), HI.out, rfl⟩, put2_below B1.out (Nat.le_succ _) _ _⟩

end Go.Proofs.Ythnggpjgajkaeaa
