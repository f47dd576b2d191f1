/-
  Drawn keys that rise.
-/
import Derived.Test.YthnggpjgajkaeaaRd
import Derived.Test.YthnggpjgajkaeaaQl
namespace Go.Proofs.Ythnggpjgajkaeaa
open Go Go.RowKit
attribute [local go_sem ↓] Go.wp_at_zero Go.wp_at_succ
set_option linter.unusedVariables false

set_option maxRecDepth 100000 in
set_option maxHeartbeats 20000000 in
theorem c_treeKeysD (w0 w : World) (gs : Nat) (a : Option Addr) (nn cc T : Nat) (zs : List Int) (h : Drw w0 w gs a nn cc T zs) (hT : T ≤ 1000) :
    Calls Try.prog 38 #[.pointer (some ⟨gs, 0, none⟩)] w fun e w' => (∃ a' c' K, e = .returned (.slice a' K.length c') ∧ RdV w' a' K.length (K.map Value.string) ∧ Rise K ∧ K.length ≤ 47 ∧ ∀ s ∈ K, TK 6 s) ∧ Below w0.heap.size w0 w' := by
  obtain ⟨iS, hi, hz0, hz1, hz2⟩ := info_parts infoS1
  have JI : Hid (Try.prog.info? 9 = some iS) := hi
  have JZ0 : Hid (iS.zero = some (.string ⟨#[]⟩)) := hz0
  have JZ1 : Hid (iS.size = 1) := hz1
  have JZ2 : Hid (iS.bytes = 16) := hz2
  clear hi hz0 hz1 hz2
  have hgw := h.src.lt
  obtain ⟨V, hV⟩ : ∃ V, w.alloc (.cells #[] 9) = V := ⟨_, rfl⟩
  have bV : Below w.heap.size w V := by rw [← hV]; exact (Below.refl _ _).alloc (Nat.le_refl _) _
  have OV : Hid (V.ownsRow w.heap.size 9 1 (.slice (some ⟨w.heap.size, 0, none⟩) 0 0) 0 []) := by unfold Hid; rw [← hV]; exact own_emptyE (V := w) (Nat.le_refl _)
  have HDV : Hid (Drw w0 V gs a nn cc T zs) := h.below bV
  have hVs : Hid (w.heap.size ≤ V.heap.size) := bV.size
  have C0 := c_sizeD w0 V gs a nn cc T zs HDV.out
  clear h bV
  go_enter Try.func38, Try.ntmps38
  go_wp2_with fail
  refine C0.mono ?_
  rintro e w' ⟨⟨r, rfl, r1, r2⟩, hq⟩
  subst hq
  have wr8 : IntKind.i64.wrap (r + 8) = r + 8 := by rw [IntKind.wrap_i64]; omega
  have C1 := c_next w0 w' gs a nn cc T zs (r + 8) HDV.out (by omega) (by omega)
  clear C0
  go_wp2_with fail
  refine C1.mono ?_
  rintro e w2 ⟨⟨z, rfl, z0, z1⟩, hd2, hi2⟩
  have HD2 : Hid (Drw w0 w2 gs a nn cc (T + 95 - 2 * z.toNat) zs) := hd2.mono (by omega)
  have O2 : Hid (w2.ownsRow w.heap.size 9 1 (.slice (some ⟨w.heap.size, 0, none⟩) 0 0) 0 []) := own_same OV.out fun g e => hi2.block g (own_blk OV.out g e).2 (.inr (by have := (own_blk OV.out g e).1; omega))
  clear C1 hd2 hi2 HDV OV hV hVs
  go_wp2
  go_loopw [3, 4] (fun o i wr => ∃ (K : List ByteArray) (b yc n : Nat) (z : Int), o = .slice (some ⟨b, 0, none⟩) n yc ∧ i = .int .i64 z ∧ (0 ≤ z ∧ z ≤ 47) ∧ n + z.toNat ≤ 47 ∧ Hid (K.length = n) ∧ Hid (wr.ownsRow w.heap.size 9 1 (.slice (some ⟨b, 0, none⟩) n yc) n (K.map Value.string)) ∧ Hid (Rise K) ∧ Hid (∀ s ∈ K, TK 6 s) ∧ Hid (Drw w0 wr gs a nn cc (T + 95 - 2 * z.toNat) zs)) (fun _ i _ => (intOf i).toNat)
  case atStart => exact ⟨[], w.heap.size, 0, 0, z, rfl, rfl, by omega, by omega, rfl, O2, List.Pairwise.nil, fun s hs => by (cases hs), HD2⟩
  case round =>
    obtain ⟨K, b, yc, n, z, rfl, rfl, hz, hnz, HKL, OW, HRI, HTKS, HD⟩ := hrel
    by_cases hj0 : 0 < z
    · have C1 := c_treeKeyD w0 wr gs a nn cc _ zs HD.out (by omega)
      have wz : IntKind.i64.wrap (z - 1) = z - 1 := by rw [IntKind.wrap_i64]; omega
      go_wp2_with fail
      refine C1.mono ?_
      rintro e w1 ⟨⟨key, rfl, hk⟩, hd1, hi1⟩
      have HKEY : Hid (TK 6 key) := hk
      have HDW1 : Hid (Drw w0 w1 gs a nn cc (T + 95 - 2 * (z - 1).toNat) zs) := hd1.mono (by omega)
      have ho : w1.ownsRow w.heap.size 9 1 (.slice (some ⟨b, 0, none⟩) n yc) n (K.map Value.string) := own_same OW.out fun g e => hi1.block g (own_blk OW.out g e).2 (.inr (by have := (own_blk OW.out g e).1; omega))
      have OW1 : Hid (w1.ownsRow w.heap.size 9 1 (.slice (some ⟨b, 0, none⟩) n yc) n (K.map Value.string)) := ho
      have HW1 : Hid (w.heap.size ≤ w1.heap.size) := by have := own_blk ho b rfl; unfold Hid; omega
      have HRK : Hid (RdV w1 (some ⟨b, 0, none⟩) n (K.map Value.string)) := RdV.own ho
      have hcap := own_cap ho
      have CA := c_l09At (some ⟨b, 0, none⟩) n yc K key w1 HRK.out (by omega)
      obtain ⟨P, hP⟩ : ∃ P, posK key K = P := ⟨_, rfl⟩
      have HP : Hid (posK key K = P) := hP
      have HINS : Hid (insK key K = K.take P ++ key :: K.drop P) := by unfold Hid insK; rw [hP]
      rw [hP] at CA
      have hPn : P ≤ n := by rw [← hP, ← HKL.out]; exact posK_le key K
      clear C1 hk hd1 hi1 ho hP
      go_wp2_with fail
      refine CA.mono ?_
      rintro e w' ⟨rfl, hq⟩; have hq' := hq.symm; subst hq'; clear hq CA
      have hnc : n ≤ yc := hcap.1
      have hcm : yc ≤ maxLen := hcap.2
      clear hcap
      by_cases hpn : P < n
      · obtain ⟨b', off, hya, hbl, hc⟩ := HRK.out.2 (by omega)
        have hgb : b = b' ∧ 0 = off := by simpa using hya
        obtain ⟨rfl, rfl⟩ := hgb
        clear hya
        obtain ⟨y, hy⟩ : ∃ y, K.getD P zS = y := ⟨_, rfl⟩
        have e0 : w1.cell? ⟨b, P, none⟩ = some (.string y) := by have := hc P hpn; rw [Nat.zero_add] at this; rw [this, ← hy]; exact map_get _ _ _ _ (by rw [HKL.out]; omega)
        have HI : Hid (inK key K = decide (y = key)) := by unfold Hid; rw [inK_lt HKL.out HP.out hpn, hy]
        have g1 : (0 : Int) ≤ (P : Int) := by omega
        have g2 : (P : Int) < (n : Int) := by omega
        clear hc hy
        by_cases hq : y = key
        · have hq' : (y.toList == key.toList) = true := by simp [hq]
          clear hq HI
          go_wp2
          go_roundw
          case rel => exact ⟨K, b, yc, n, z - 1, rfl, rfl, by omega, by omega, HKL, OW1, HRI, HTKS, HDW1⟩
          case measure => simp [intOf]; omega
        · have hq' : (y.toList == key.toList) = false := by rw [beq_eq_false_iff_ne]; exact fun e => hq (toList_inj e)
          have HNK : Hid (key ∉ K) := fun hm => by have h1 := (inK_iff HRI.out).2 hm; rw [HI.out, decide_eq_false hq] at h1; cases h1
          clear hq HI
          have g3 : (P : Int) ≤ (yc : Int) := by omega
          have g4 : (P : Int) ≤ (n : Int) := by omega
          have g5 : ¬ (yc = P) := by omega
          have HTL : Hid (∀ U, Below w1.heap.size w1 U → ∀ ad : Addr, some (⟨b, P, none⟩ : Addr) = some ad → ∀ i u, ((K.drop P).map Value.string)[i]? = some u → U.cell? (ad.add i) = some u) := by
            intro U hU ad ea i u hu
            cases ea
            obtain ⟨b', off', e, hl, hc⟩ := (HRK.out.below hU).2 (by omega)
            cases e
            have hi : i < n - P := by have := (List.getElem?_eq_some_iff.1 hu).1; rw [List.length_map, List.length_drop, HKL.out] at this; exact this
            have := hc (P + i) (by omega)
            rw [Nat.zero_add] at this
            rw [addr_add, this]
            rw [List.getElem?_map, List.getElem?_drop] at hu
            rw [List.getElem?_map]; exact hu
          go_wp2_with fail
          obtain ⟨U1, hU1⟩ : ∃ U, w1.drew.alloc (.cells #[] 9) = U := ⟨_, rfl⟩
          obtain ⟨U2, hU2⟩ : ∃ U, w1.drew.alloc (.cells #[.string key] 9) = U := ⟨_, rfl⟩
          have S1 : U1.heap.size = w1.heap.size + 1 := by rw [← hU1]; simp
          have S2 : U2.heap.size = w1.heap.size + 1 := by rw [← hU2]; simp
          obtain ⟨U12, hU12⟩ : ∃ U, U1.alloc (.cells #[.string key] 9) = U := ⟨_, rfl⟩
          obtain ⟨U21, hU21⟩ : ∃ U, U2.alloc (.cells #[] 9) = U := ⟨_, rfl⟩
          have b1 : Below w1.heap.size w1 U1 := by rw [← hU1]; exact (Below.refl _ _).drew.alloc (Nat.le_refl _) _
          have b2 : Below w1.heap.size w1 U2 := by rw [← hU2]; exact (Below.refl _ _).drew.alloc (Nat.le_refl _) _
          have B1' : Hid (Below w1.heap.size w1 U1) := b1
          have B12 : Hid (Below w1.heap.size w1 U12) := by unfold Hid; rw [← hU12]; exact b1.alloc b1.size _
          have B21 : Hid (Below w1.heap.size w1 U21) := by unfold Hid; rw [← hU21]; exact b2.alloc b2.size _
          have O1 : Hid (U1.ownsRow w1.heap.size 9 1 (.slice (some ⟨w1.heap.size, 0, none⟩) 0 0) 0 []) := by unfold Hid; rw [← hU1]; exact own_emptyE (V := w1.drew) (Nat.le_refl _)
          have O12 : Hid (U12.ownsRow w1.heap.size 9 1 (.slice (some ⟨w1.heap.size, 0, none⟩) 0 0) 0 []) := by unfold Hid; rw [← hU12]; exact own_below O1.out ((Below.refl _ _).alloc (Nat.le_refl _) _)
          have K12 : Hid (Box U12 (w1.heap.size + 1) 9 #[.string key]) := by unfold Hid; rw [← hU12, ← S1]; exact Box.new _ _ _
          have K2 : Box U2 w1.heap.size 9 #[.string key] := by rw [← hU2]; exact Box.new w1.drew _ _
          have K21 : Hid (Box U21 w1.heap.size 9 #[.string key]) := by unfold Hid; rw [← hU21]; exact K2.alloc _
          have O21 : Hid (U21.ownsRow w1.heap.size 9 1 (.slice (some ⟨w1.heap.size + 1, 0, none⟩) 0 0) 0 []) := by unfold Hid; rw [← hU21, ← S2]; exact own_emptyE b2.size
          have HTK : Hid (((K.take P).map Value.string).length = P * 1) := by unfold Hid; rw [List.length_map, List.length_take, HKL.out]; omega
          have HTM : Hid (((K.drop P).map Value.string).length = (n - P) * 1) := by unfold Hid; rw [List.length_map, List.length_drop, HKL.out]; omega
          have HT1 : Hid (∀ u ∈ (K.take P).map Value.string, u.oneCell' = true) := map_one _ (fun _ => rfl) _
          have HD1 : Hid (∀ u ∈ (K.drop P).map Value.string, u.oneCell' = true) := map_one _ (fun _ => rfl) _
          have HTC : Hid (∀ U, Below w1.heap.size w1 U → ∀ ad : Addr, ((some ⟨b, 0, none⟩) : Option Addr) = some ad → ∀ i u, ((K.take P).map Value.string)[i]? = some u → U.cell? (ad.add i) = some u) := by
            intro U hU ad ea i u hu
            have hi : i < P := by have := (List.getElem?_eq_some_iff.1 hu).1; rw [List.length_map, List.length_take] at this; omega
            obtain ⟨b', off', e, hl, hc⟩ := (HRK.out.below hU).2 (by omega)
            cases e
            cases ea
            rw [addr_add, hc i (by omega)]
            rw [List.getElem?_map, List.getElem?_take_of_lt hi] at hu
            rw [List.getElem?_map]; exact hu
          have HFIN : Hid ((((K.take P).map Value.string) ++ [Value.string key]) ++ ((K.drop P).map Value.string) = (K.take P ++ key :: K.drop P).map Value.string) := by unfold Hid; simp
          have HTM2 : Hid (P + 1 + (n - P) = n + 1) := by unfold Hid; omega
          clear b1 b2 K2 hpn
          go_region_law (first
            | (refine step_app_any _ (by rfl) (.tmp 34) (.tmp 37) 23 (by rfl) w1.heap.size 9 iS (.string ⟨#[]⟩) 1 16 Try.underlying23 JI.out JZ0.out JZ1.out JZ2.out rfl (by omega) (.slice (some ⟨w1.heap.size, 0, none⟩) 0 0) 0 [] (by rfl) O1.out (some ⟨b, 0, none⟩) P yc ((K.take P).map Value.string) (by rfl) (fun ex => by cases ex) HTK.out (HTC.out _ B1'.out) HT1.out (by unfold maxLen; omega) (by omega) B1'.out.size ?_
               intro l5 c5 w5 ho5 hg5 hx5
               rw [Nat.zero_add, List.nil_append] at ho5
               rw [ob_slice] at hg5
               have b5 : Below w1.heap.size w1 w5 := B1'.out.grown hg5 B1'.out.size (fun g e => (own_blk O1.out g e).1)
               obtain ⟨Y, hY⟩ : ∃ Y, w5.alloc (.cells #[.string key] 9) = Y := ⟨_, rfl⟩
               have b5Y : Below w5.heap.size w5 Y := by rw [← hY]; exact (Below.refl _ _).alloc (Nat.le_refl _) _
               have BY : Hid (Below w1.heap.size w1 Y) := b5.trans (b5Y.mono b5.size)
               have KY : Hid (Box Y w5.heap.size 9 #[.string key]) := by unfold Hid; rw [← hY]; exact Box.new _ _ _
               have OY : Hid (Y.ownsRow w1.heap.size 9 1 (.slice l5 P c5) P ((K.take P).map Value.string)) := own_below ho5 b5Y
               clear ho5 hg5 hx5 b5 b5Y)
            | (refine step_app_any _ (by rfl) (.tmp 34) (.tmp 37) 23 (by rfl) w1.heap.size 9 iS (.string ⟨#[]⟩) 1 16 Try.underlying23 JI.out JZ0.out JZ1.out JZ2.out rfl (by omega) (.slice (some ⟨w1.heap.size, 0, none⟩) 0 0) 0 [] (by rfl) O12.out (some ⟨b, 0, none⟩) P yc ((K.take P).map Value.string) (by rfl) (fun ex => by cases ex) HTK.out (HTC.out _ B12.out) HT1.out (by unfold maxLen; omega) (by omega) B12.out.size ?_
               intro l5 c5 Y ho5 hg5 hx5
               rw [Nat.zero_add, List.nil_append] at ho5
               rw [ob_slice] at hg5
               have b5 : Below w1.heap.size w1 Y := B12.out.grown hg5 B12.out.size (fun g e => (own_blk O12.out g e).1)
               have BY : Hid (Below w1.heap.size w1 Y) := b5
               have KY : Hid (Box Y (w1.heap.size + 1) 9 #[.string key]) := K12.out.grown hg5 (fun ex => by have h : w1.heap.size = w1.heap.size + 1 := Option.some.inj ex; omega)
               have OY : Hid (Y.ownsRow w1.heap.size 9 1 (.slice l5 P c5) P ((K.take P).map Value.string)) := ho5
               clear ho5 hg5 hx5 b5)
            | (refine step_app_any _ (by rfl) (.tmp 34) (.tmp 37) 23 (by rfl) w1.heap.size 9 iS (.string ⟨#[]⟩) 1 16 Try.underlying23 JI.out JZ0.out JZ1.out JZ2.out rfl (by omega) (.slice (some ⟨w1.heap.size + 1, 0, none⟩) 0 0) 0 [] (by rfl) O21.out (some ⟨b, 0, none⟩) P yc ((K.take P).map Value.string) (by rfl) (fun ex => by cases ex) HTK.out (HTC.out _ B21.out) HT1.out (by unfold maxLen; omega) (by omega) B21.out.size ?_
               intro l5 c5 Y ho5 hg5 hx5
               rw [Nat.zero_add, List.nil_append] at ho5
               rw [ob_slice] at hg5
               have b5 : Below w1.heap.size w1 Y := B21.out.grown hg5 B21.out.size (fun g e => (own_blk O21.out g e).1)
               have BY : Hid (Below w1.heap.size w1 Y) := b5
               have KY : Hid (Box Y (w1.heap.size) 9 #[.string key]) := K21.out.grown hg5 (fun ex => by have h : w1.heap.size + 1 = w1.heap.size := Option.some.inj ex; omega)
               have OY : Hid (Y.ownsRow w1.heap.size 9 1 (.slice l5 P c5) P ((K.take P).map Value.string)) := ho5
               clear ho5 hg5 hx5 b5)
            | (refine step_app_any _ (by rfl) (.tmp 38) (.tmp 40) 23 (by rfl) w1.heap.size 9 iS (.string ⟨#[]⟩) 1 16 Try.underlying23 JI.out JZ0.out JZ1.out JZ2.out rfl (by omega) (.slice l5 P c5) P ((K.take P).map Value.string) (by rfl) OY.out (some ⟨w1.heap.size, 0, none⟩) 1 1 [.string key] (by rfl) (fun ex => by cases ex) rfl (fun ad e => by cases e; intro k u hu; cases k with | zero => (cases hu; exact KY.out.cell 0) | succ k => simp at hu) (by intro u hu; simp at hu; subst hu; rfl) (by unfold maxLen; omega) (by omega) BY.out.size ?_
               intro l7 c7 w7 ho7 hg7 hx7
               rw [ob_slice] at hg7
               have B7 : Hid (Below w1.heap.size w1 w7) := BY.out.grown hg7 BY.out.size (fun g e => (own_blk OY.out g e).1)
               have O7 : Hid (w7.ownsRow w1.heap.size 9 1 (.slice l7 (P + 1) c7) (P + 1) ((K.take P).map Value.string ++ [.string key])) := ho7
               clear ho7 hg7 hx7)
            | (refine step_app_any _ (by rfl) (.tmp 38) (.tmp 40) 23 (by rfl) w1.heap.size 9 iS (.string ⟨#[]⟩) 1 16 Try.underlying23 JI.out JZ0.out JZ1.out JZ2.out rfl (by omega) (.slice l5 P c5) P ((K.take P).map Value.string) (by rfl) OY.out (some ⟨w1.heap.size + 1, 0, none⟩) 1 1 [.string key] (by rfl) (fun ex => by cases ex) rfl (fun ad e => by cases e; intro k u hu; cases k with | zero => (cases hu; exact KY.out.cell 0) | succ k => simp at hu) (by intro u hu; simp at hu; subst hu; rfl) (by unfold maxLen; omega) (by omega) BY.out.size ?_
               intro l7 c7 w7 ho7 hg7 hx7
               rw [ob_slice] at hg7
               have B7 : Hid (Below w1.heap.size w1 w7) := BY.out.grown hg7 BY.out.size (fun g e => (own_blk OY.out g e).1)
               have O7 : Hid (w7.ownsRow w1.heap.size 9 1 (.slice l7 (P + 1) c7) (P + 1) ((K.take P).map Value.string ++ [.string key])) := ho7
               clear ho7 hg7 hx7)
            | (refine step_app_any _ (by rfl) (.tmp 38) (.tmp 40) 23 (by rfl) w1.heap.size 9 iS (.string ⟨#[]⟩) 1 16 Try.underlying23 JI.out JZ0.out JZ1.out JZ2.out rfl (by omega) (.slice l5 P c5) P ((K.take P).map Value.string) (by rfl) OY.out (some ⟨w5.heap.size, 0, none⟩) 1 1 [.string key] (by rfl) (fun ex => by cases ex) rfl (fun ad e => by cases e; intro k u hu; cases k with | zero => (cases hu; exact KY.out.cell 0) | succ k => simp at hu) (by intro u hu; simp at hu; subst hu; rfl) (by unfold maxLen; omega) (by omega) BY.out.size ?_
               intro l7 c7 w7 ho7 hg7 hx7
               rw [ob_slice] at hg7
               have B7 : Hid (Below w1.heap.size w1 w7) := BY.out.grown hg7 BY.out.size (fun g e => (own_blk OY.out g e).1)
               have O7 : Hid (w7.ownsRow w1.heap.size 9 1 (.slice l7 (P + 1) c7) (P + 1) ((K.take P).map Value.string ++ [.string key])) := ho7
               clear ho7 hg7 hx7)
            | (refine step_app_any _ (by rfl) (.tmp 41) (.tmp 44) 23 (by rfl) w1.heap.size 9 iS (.string ⟨#[]⟩) 1 16 Try.underlying23 JI.out JZ0.out JZ1.out JZ2.out rfl (by omega) (.slice l7 (P + 1) c7) (P + 1) ((K.take P).map Value.string ++ [.string key]) (by rfl) O7.out (some ⟨b, P, none⟩) (n - P) (yc - P) ((K.drop P).map Value.string) (by rfl) (fun ex => by cases ex) HTM.out (HTL.out _ B7.out) HD1.out (by unfold maxLen; omega) (by omega) B7.out.size ?_
               intro l9 c9 w9 ho9 hg9 hx9
               rw [ob_slice] at hg9
               have B9 : Hid (Below w1.heap.size w1 w9) := B7.out.grown hg9 B7.out.size (fun g e => (own_blk O7.out g e).1)
               have O9 : Hid (w9.ownsRow w1.heap.size 9 1 (.slice l9 (P + 1 + (n - P)) c9) (P + 1 + (n - P)) ((K.take P ++ key :: K.drop P).map Value.string)) := by unfold Hid; rw [← HFIN.out]; exact ho9
               clear ho9 hg9 hx9))
          all_goals
            obtain ⟨g', rfl⟩ : ∃ g' : Nat, l9 = some ⟨g', 0, none⟩ := by
              rcases own_form O9.out with ⟨e, h0⟩ | ⟨g', cap', e, _, _⟩
              · have := HTM2.out; omega
              · simp only [Value.slice.injEq] at e
                exact ⟨g', e.1⟩
            have HD9 : Hid (Drw w0 w9 gs a nn cc (T + 95 - 2 * (z - 1).toNat) zs) := (HDW1.out.below B9.out).mono (by omega)
            have HO9 : Hid (w9.ownsRow w.heap.size 9 1 (.slice (some ⟨g', 0, none⟩) (P + 1 + (n - P)) c9) (P + 1 + (n - P)) ((insK key K).map Value.string)) := by unfold Hid; rw [HINS.out]; exact own_low O9.out HW1.out
            have HL9 : Hid ((insK key K).length = P + 1 + (n - P)) := by have h1 := insK_len key K; have h2 := HKL.out; have h3 := HTM2.out; unfold Hid; omega
            have HR9 : Hid (Rise (insK key K)) := insK_rise HRI.out HNK.out
            have HT9 : Hid (∀ s ∈ insK key K, TK 6 s) := fun s hs => by
              rcases insK_mem.1 hs with rfl | hs
              · exact HKEY.out
              · exact HTKS.out s hs
            go_wp2
            go_roundw
            case rel => exact ⟨insK key K, g', _, _, z - 1, rfl, rfl, by omega, by have := HTM2.out; omega, HL9, HO9, HR9, HT9, HD9⟩
            case measure => simp [intOf]; omega
      · have HNK : Hid (key ∉ K) := fun hm => by have h1 := (inK_iff HRI.out).2 hm; rw [inK_end HKL.out HP.out hpn] at h1; cases h1
        have hPe : P = n := by omega
        have g2 : ¬ (P : Int) < (P : Int) := by omega
        obtain rfl : P = n := hPe
        have HTL : Hid (∀ (x : Option Addr) U, Below w1.heap.size w1 U → ∀ ad : Addr, x = some ad → ∀ i u, ((K.drop P).map Value.string)[i]? = some u → U.cell? (ad.add i) = some u) := by
          intro x U hU ad ea i u hu
          rw [show (K.drop P).map Value.string = [] by rw [List.drop_eq_nil_of_le (by rw [HKL.out]; omega)]; rfl] at hu; simp at hu
        have g0 : (0 : Int) ≤ (P : Int) := by omega
        have g4 : (P : Int) ≤ (P : Int) := by omega
        have g3 : (P : Int) ≤ (yc : Int) := by omega
        by_cases g5 : yc = P
        · obtain rfl : P = yc := g5.symm
          go_wp2_with fail
          obtain ⟨U1, hU1⟩ : ∃ U, w1.drew.alloc (.cells #[] 9) = U := ⟨_, rfl⟩
          obtain ⟨U2, hU2⟩ : ∃ U, w1.drew.alloc (.cells #[.string key] 9) = U := ⟨_, rfl⟩
          have S1 : U1.heap.size = w1.heap.size + 1 := by rw [← hU1]; simp
          have S2 : U2.heap.size = w1.heap.size + 1 := by rw [← hU2]; simp
          obtain ⟨U12, hU12⟩ : ∃ U, U1.alloc (.cells #[.string key] 9) = U := ⟨_, rfl⟩
          obtain ⟨U21, hU21⟩ : ∃ U, U2.alloc (.cells #[] 9) = U := ⟨_, rfl⟩
          have b1 : Below w1.heap.size w1 U1 := by rw [← hU1]; exact (Below.refl _ _).drew.alloc (Nat.le_refl _) _
          have b2 : Below w1.heap.size w1 U2 := by rw [← hU2]; exact (Below.refl _ _).drew.alloc (Nat.le_refl _) _
          have B1' : Hid (Below w1.heap.size w1 U1) := b1
          have B12 : Hid (Below w1.heap.size w1 U12) := by unfold Hid; rw [← hU12]; exact b1.alloc b1.size _
          have B21 : Hid (Below w1.heap.size w1 U21) := by unfold Hid; rw [← hU21]; exact b2.alloc b2.size _
          have O1 : Hid (U1.ownsRow w1.heap.size 9 1 (.slice (some ⟨w1.heap.size, 0, none⟩) 0 0) 0 []) := by unfold Hid; rw [← hU1]; exact own_emptyE (V := w1.drew) (Nat.le_refl _)
          have O12 : Hid (U12.ownsRow w1.heap.size 9 1 (.slice (some ⟨w1.heap.size, 0, none⟩) 0 0) 0 []) := by unfold Hid; rw [← hU12]; exact own_below O1.out ((Below.refl _ _).alloc (Nat.le_refl _) _)
          have K12 : Hid (Box U12 (w1.heap.size + 1) 9 #[.string key]) := by unfold Hid; rw [← hU12, ← S1]; exact Box.new _ _ _
          have K2 : Box U2 w1.heap.size 9 #[.string key] := by rw [← hU2]; exact Box.new w1.drew _ _
          have K21 : Hid (Box U21 w1.heap.size 9 #[.string key]) := by unfold Hid; rw [← hU21]; exact K2.alloc _
          have O21 : Hid (U21.ownsRow w1.heap.size 9 1 (.slice (some ⟨w1.heap.size + 1, 0, none⟩) 0 0) 0 []) := by unfold Hid; rw [← hU21, ← S2]; exact own_emptyE b2.size
          have HTK : Hid (((K.take P).map Value.string).length = P * 1) := by unfold Hid; rw [List.length_map, List.length_take, HKL.out]; omega
          have HTM : Hid (((K.drop P).map Value.string).length = (0) * 1) := by unfold Hid; rw [List.length_map, List.length_drop, HKL.out]; omega
          have HT1 : Hid (∀ u ∈ (K.take P).map Value.string, u.oneCell' = true) := map_one _ (fun _ => rfl) _
          have HD1 : Hid (∀ u ∈ (K.drop P).map Value.string, u.oneCell' = true) := map_one _ (fun _ => rfl) _
          have HTC : Hid (∀ U, Below w1.heap.size w1 U → ∀ ad : Addr, ((some ⟨b, 0, none⟩) : Option Addr) = some ad → ∀ i u, ((K.take P).map Value.string)[i]? = some u → U.cell? (ad.add i) = some u) := by
            intro U hU ad ea i u hu
            have hi : i < P := by have := (List.getElem?_eq_some_iff.1 hu).1; rw [List.length_map, List.length_take] at this; omega
            obtain ⟨b', off', e, hl, hc⟩ := (HRK.out.below hU).2 (by omega)
            cases e
            cases ea
            rw [addr_add, hc i (by omega)]
            rw [List.getElem?_map, List.getElem?_take_of_lt hi] at hu
            rw [List.getElem?_map]; exact hu
          have HFIN : Hid ((((K.take P).map Value.string) ++ [Value.string key]) ++ ((K.drop P).map Value.string) = (K.take P ++ key :: K.drop P).map Value.string) := by unfold Hid; simp
          have HTM2 : Hid (P + 1 + (0) = P + 1) := by unfold Hid; omega
          clear b1 b2 K2 hpn
          go_region_law (first
            | (refine step_app_any _ (by rfl) (.tmp 34) (.tmp 37) 23 (by rfl) w1.heap.size 9 iS (.string ⟨#[]⟩) 1 16 Try.underlying23 JI.out JZ0.out JZ1.out JZ2.out rfl (by omega) (.slice (some ⟨w1.heap.size, 0, none⟩) 0 0) 0 [] (by rfl) O1.out (some ⟨b, 0, none⟩) P P ((K.take P).map Value.string) (by rfl) (fun ex => by cases ex) HTK.out (HTC.out _ B1'.out) HT1.out (by unfold maxLen; omega) (by omega) B1'.out.size ?_
               intro l5 c5 w5 ho5 hg5 hx5
               rw [Nat.zero_add, List.nil_append] at ho5
               rw [ob_slice] at hg5
               have b5 : Below w1.heap.size w1 w5 := B1'.out.grown hg5 B1'.out.size (fun g e => (own_blk O1.out g e).1)
               obtain ⟨Y, hY⟩ : ∃ Y, w5.alloc (.cells #[.string key] 9) = Y := ⟨_, rfl⟩
               have b5Y : Below w5.heap.size w5 Y := by rw [← hY]; exact (Below.refl _ _).alloc (Nat.le_refl _) _
               have BY : Hid (Below w1.heap.size w1 Y) := b5.trans (b5Y.mono b5.size)
               have KY : Hid (Box Y w5.heap.size 9 #[.string key]) := by unfold Hid; rw [← hY]; exact Box.new _ _ _
               have OY : Hid (Y.ownsRow w1.heap.size 9 1 (.slice l5 P c5) P ((K.take P).map Value.string)) := own_below ho5 b5Y
               clear ho5 hg5 hx5 b5 b5Y)
            | (refine step_app_any _ (by rfl) (.tmp 34) (.tmp 37) 23 (by rfl) w1.heap.size 9 iS (.string ⟨#[]⟩) 1 16 Try.underlying23 JI.out JZ0.out JZ1.out JZ2.out rfl (by omega) (.slice (some ⟨w1.heap.size, 0, none⟩) 0 0) 0 [] (by rfl) O12.out (some ⟨b, 0, none⟩) P P ((K.take P).map Value.string) (by rfl) (fun ex => by cases ex) HTK.out (HTC.out _ B12.out) HT1.out (by unfold maxLen; omega) (by omega) B12.out.size ?_
               intro l5 c5 Y ho5 hg5 hx5
               rw [Nat.zero_add, List.nil_append] at ho5
               rw [ob_slice] at hg5
               have b5 : Below w1.heap.size w1 Y := B12.out.grown hg5 B12.out.size (fun g e => (own_blk O12.out g e).1)
               have BY : Hid (Below w1.heap.size w1 Y) := b5
               have KY : Hid (Box Y (w1.heap.size + 1) 9 #[.string key]) := K12.out.grown hg5 (fun ex => by have h : w1.heap.size = w1.heap.size + 1 := Option.some.inj ex; omega)
               have OY : Hid (Y.ownsRow w1.heap.size 9 1 (.slice l5 P c5) P ((K.take P).map Value.string)) := ho5
               clear ho5 hg5 hx5 b5)
            | (refine step_app_any _ (by rfl) (.tmp 34) (.tmp 37) 23 (by rfl) w1.heap.size 9 iS (.string ⟨#[]⟩) 1 16 Try.underlying23 JI.out JZ0.out JZ1.out JZ2.out rfl (by omega) (.slice (some ⟨w1.heap.size + 1, 0, none⟩) 0 0) 0 [] (by rfl) O21.out (some ⟨b, 0, none⟩) P P ((K.take P).map Value.string) (by rfl) (fun ex => by cases ex) HTK.out (HTC.out _ B21.out) HT1.out (by unfold maxLen; omega) (by omega) B21.out.size ?_
               intro l5 c5 Y ho5 hg5 hx5
               rw [Nat.zero_add, List.nil_append] at ho5
               rw [ob_slice] at hg5
               have b5 : Below w1.heap.size w1 Y := B21.out.grown hg5 B21.out.size (fun g e => (own_blk O21.out g e).1)
               have BY : Hid (Below w1.heap.size w1 Y) := b5
               have KY : Hid (Box Y (w1.heap.size) 9 #[.string key]) := K21.out.grown hg5 (fun ex => by have h : w1.heap.size + 1 = w1.heap.size := Option.some.inj ex; omega)
               have OY : Hid (Y.ownsRow w1.heap.size 9 1 (.slice l5 P c5) P ((K.take P).map Value.string)) := ho5
               clear ho5 hg5 hx5 b5)
            | (refine step_app_any _ (by rfl) (.tmp 38) (.tmp 40) 23 (by rfl) w1.heap.size 9 iS (.string ⟨#[]⟩) 1 16 Try.underlying23 JI.out JZ0.out JZ1.out JZ2.out rfl (by omega) (.slice l5 P c5) P ((K.take P).map Value.string) (by rfl) OY.out (some ⟨w1.heap.size, 0, none⟩) 1 1 [.string key] (by rfl) (fun ex => by cases ex) rfl (fun ad e => by cases e; intro k u hu; cases k with | zero => (cases hu; exact KY.out.cell 0) | succ k => simp at hu) (by intro u hu; simp at hu; subst hu; rfl) (by unfold maxLen; omega) (by omega) BY.out.size ?_
               intro l7 c7 w7 ho7 hg7 hx7
               rw [ob_slice] at hg7
               have B7 : Hid (Below w1.heap.size w1 w7) := BY.out.grown hg7 BY.out.size (fun g e => (own_blk OY.out g e).1)
               have O7 : Hid (w7.ownsRow w1.heap.size 9 1 (.slice l7 (P + 1) c7) (P + 1) ((K.take P).map Value.string ++ [.string key])) := ho7
               clear ho7 hg7 hx7)
            | (refine step_app_any _ (by rfl) (.tmp 38) (.tmp 40) 23 (by rfl) w1.heap.size 9 iS (.string ⟨#[]⟩) 1 16 Try.underlying23 JI.out JZ0.out JZ1.out JZ2.out rfl (by omega) (.slice l5 P c5) P ((K.take P).map Value.string) (by rfl) OY.out (some ⟨w1.heap.size + 1, 0, none⟩) 1 1 [.string key] (by rfl) (fun ex => by cases ex) rfl (fun ad e => by cases e; intro k u hu; cases k with | zero => (cases hu; exact KY.out.cell 0) | succ k => simp at hu) (by intro u hu; simp at hu; subst hu; rfl) (by unfold maxLen; omega) (by omega) BY.out.size ?_
               intro l7 c7 w7 ho7 hg7 hx7
               rw [ob_slice] at hg7
               have B7 : Hid (Below w1.heap.size w1 w7) := BY.out.grown hg7 BY.out.size (fun g e => (own_blk OY.out g e).1)
               have O7 : Hid (w7.ownsRow w1.heap.size 9 1 (.slice l7 (P + 1) c7) (P + 1) ((K.take P).map Value.string ++ [.string key])) := ho7
               clear ho7 hg7 hx7)
            | (refine step_app_any _ (by rfl) (.tmp 38) (.tmp 40) 23 (by rfl) w1.heap.size 9 iS (.string ⟨#[]⟩) 1 16 Try.underlying23 JI.out JZ0.out JZ1.out JZ2.out rfl (by omega) (.slice l5 P c5) P ((K.take P).map Value.string) (by rfl) OY.out (some ⟨w5.heap.size, 0, none⟩) 1 1 [.string key] (by rfl) (fun ex => by cases ex) rfl (fun ad e => by cases e; intro k u hu; cases k with | zero => (cases hu; exact KY.out.cell 0) | succ k => simp at hu) (by intro u hu; simp at hu; subst hu; rfl) (by unfold maxLen; omega) (by omega) BY.out.size ?_
               intro l7 c7 w7 ho7 hg7 hx7
               rw [ob_slice] at hg7
               have B7 : Hid (Below w1.heap.size w1 w7) := BY.out.grown hg7 BY.out.size (fun g e => (own_blk OY.out g e).1)
               have O7 : Hid (w7.ownsRow w1.heap.size 9 1 (.slice l7 (P + 1) c7) (P + 1) ((K.take P).map Value.string ++ [.string key])) := ho7
               clear ho7 hg7 hx7)
            | (refine step_app_any _ (by rfl) (.tmp 41) (.tmp 44) 23 (by rfl) w1.heap.size 9 iS (.string ⟨#[]⟩) 1 16 Try.underlying23 JI.out JZ0.out JZ1.out JZ2.out rfl (by omega) (.slice l7 (P + 1) c7) (P + 1) ((K.take P).map Value.string ++ [.string key]) (by rfl) O7.out (some ⟨b, 0, none⟩) (0) (0) ((K.drop P).map Value.string) (by rfl) (fun ex => by cases ex) HTM.out (HTL.out _ _ B7.out) HD1.out (by unfold maxLen; omega) (by omega) B7.out.size ?_
               intro l9 c9 w9 ho9 hg9 hx9
               rw [ob_slice] at hg9
               have B9 : Hid (Below w1.heap.size w1 w9) := B7.out.grown hg9 B7.out.size (fun g e => (own_blk O7.out g e).1)
               have O9 : Hid (w9.ownsRow w1.heap.size 9 1 (.slice l9 (P + 1 + (0)) c9) (P + 1 + (0)) ((K.take P ++ key :: K.drop P).map Value.string)) := by unfold Hid; rw [← HFIN.out]; exact ho9
               clear ho9 hg9 hx9))
          all_goals
            obtain ⟨g', rfl⟩ : ∃ g' : Nat, l9 = some ⟨g', 0, none⟩ := by
              rcases own_form O9.out with ⟨e, h0⟩ | ⟨g', cap', e, _, _⟩
              · have := HTM2.out; omega
              · simp only [Value.slice.injEq] at e
                exact ⟨g', e.1⟩
            have HD9 : Hid (Drw w0 w9 gs a nn cc (T + 95 - 2 * (z - 1).toNat) zs) := (HDW1.out.below B9.out).mono (by omega)
            have HO9 : Hid (w9.ownsRow w.heap.size 9 1 (.slice (some ⟨g', 0, none⟩) (P + 1 + (0)) c9) (P + 1 + (0)) ((insK key K).map Value.string)) := by unfold Hid; rw [HINS.out]; exact own_low O9.out HW1.out
            have HL9 : Hid ((insK key K).length = P + 1 + (0)) := by have h1 := insK_len key K; have h2 := HKL.out; have h3 := HTM2.out; unfold Hid; omega
            have HR9 : Hid (Rise (insK key K)) := insK_rise HRI.out HNK.out
            have HT9 : Hid (∀ s ∈ insK key K, TK 6 s) := fun s hs => by
              rcases insK_mem.1 hs with rfl | hs
              · exact HKEY.out
              · exact HTKS.out s hs
            go_wp2
            go_roundw
            case rel => exact ⟨insK key K, g', _, _, z - 1, rfl, rfl, by omega, by have := HTM2.out; omega, HL9, HO9, HR9, HT9, HD9⟩
            case measure => simp [intOf]; omega
        · have hPe' : P - P = 0 := by omega
          go_wp2_with fail
          obtain ⟨U1, hU1⟩ : ∃ U, w1.drew.alloc (.cells #[] 9) = U := ⟨_, rfl⟩
          obtain ⟨U2, hU2⟩ : ∃ U, w1.drew.alloc (.cells #[.string key] 9) = U := ⟨_, rfl⟩
          have S1 : U1.heap.size = w1.heap.size + 1 := by rw [← hU1]; simp
          have S2 : U2.heap.size = w1.heap.size + 1 := by rw [← hU2]; simp
          obtain ⟨U12, hU12⟩ : ∃ U, U1.alloc (.cells #[.string key] 9) = U := ⟨_, rfl⟩
          obtain ⟨U21, hU21⟩ : ∃ U, U2.alloc (.cells #[] 9) = U := ⟨_, rfl⟩
          have b1 : Below w1.heap.size w1 U1 := by rw [← hU1]; exact (Below.refl _ _).drew.alloc (Nat.le_refl _) _
          have b2 : Below w1.heap.size w1 U2 := by rw [← hU2]; exact (Below.refl _ _).drew.alloc (Nat.le_refl _) _
          have B1' : Hid (Below w1.heap.size w1 U1) := b1
          have B12 : Hid (Below w1.heap.size w1 U12) := by unfold Hid; rw [← hU12]; exact b1.alloc b1.size _
          have B21 : Hid (Below w1.heap.size w1 U21) := by unfold Hid; rw [← hU21]; exact b2.alloc b2.size _
          have O1 : Hid (U1.ownsRow w1.heap.size 9 1 (.slice (some ⟨w1.heap.size, 0, none⟩) 0 0) 0 []) := by unfold Hid; rw [← hU1]; exact own_emptyE (V := w1.drew) (Nat.le_refl _)
          have O12 : Hid (U12.ownsRow w1.heap.size 9 1 (.slice (some ⟨w1.heap.size, 0, none⟩) 0 0) 0 []) := by unfold Hid; rw [← hU12]; exact own_below O1.out ((Below.refl _ _).alloc (Nat.le_refl _) _)
          have K12 : Hid (Box U12 (w1.heap.size + 1) 9 #[.string key]) := by unfold Hid; rw [← hU12, ← S1]; exact Box.new _ _ _
          have K2 : Box U2 w1.heap.size 9 #[.string key] := by rw [← hU2]; exact Box.new w1.drew _ _
          have K21 : Hid (Box U21 w1.heap.size 9 #[.string key]) := by unfold Hid; rw [← hU21]; exact K2.alloc _
          have O21 : Hid (U21.ownsRow w1.heap.size 9 1 (.slice (some ⟨w1.heap.size + 1, 0, none⟩) 0 0) 0 []) := by unfold Hid; rw [← hU21, ← S2]; exact own_emptyE b2.size
          have HTK : Hid (((K.take P).map Value.string).length = P * 1) := by unfold Hid; rw [List.length_map, List.length_take, HKL.out]; omega
          have HTM : Hid (((K.drop P).map Value.string).length = (0) * 1) := by unfold Hid; rw [List.length_map, List.length_drop, HKL.out]; omega
          have HT1 : Hid (∀ u ∈ (K.take P).map Value.string, u.oneCell' = true) := map_one _ (fun _ => rfl) _
          have HD1 : Hid (∀ u ∈ (K.drop P).map Value.string, u.oneCell' = true) := map_one _ (fun _ => rfl) _
          have HTC : Hid (∀ U, Below w1.heap.size w1 U → ∀ ad : Addr, ((some ⟨b, 0, none⟩) : Option Addr) = some ad → ∀ i u, ((K.take P).map Value.string)[i]? = some u → U.cell? (ad.add i) = some u) := by
            intro U hU ad ea i u hu
            have hi : i < P := by have := (List.getElem?_eq_some_iff.1 hu).1; rw [List.length_map, List.length_take] at this; omega
            obtain ⟨b', off', e, hl, hc⟩ := (HRK.out.below hU).2 (by omega)
            cases e
            cases ea
            rw [addr_add, hc i (by omega)]
            rw [List.getElem?_map, List.getElem?_take_of_lt hi] at hu
            rw [List.getElem?_map]; exact hu
          have HFIN : Hid ((((K.take P).map Value.string) ++ [Value.string key]) ++ ((K.drop P).map Value.string) = (K.take P ++ key :: K.drop P).map Value.string) := by unfold Hid; simp
          have HTM2 : Hid (P + 1 + (0) = P + 1) := by unfold Hid; omega
          clear b1 b2 K2 hpn
          go_region_law (first
            | (refine step_app_any _ (by rfl) (.tmp 34) (.tmp 37) 23 (by rfl) w1.heap.size 9 iS (.string ⟨#[]⟩) 1 16 Try.underlying23 JI.out JZ0.out JZ1.out JZ2.out rfl (by omega) (.slice (some ⟨w1.heap.size, 0, none⟩) 0 0) 0 [] (by rfl) O1.out (some ⟨b, 0, none⟩) P yc ((K.take P).map Value.string) (by rfl) (fun ex => by cases ex) HTK.out (HTC.out _ B1'.out) HT1.out (by unfold maxLen; omega) (by omega) B1'.out.size ?_
               intro l5 c5 w5 ho5 hg5 hx5
               rw [Nat.zero_add, List.nil_append] at ho5
               rw [ob_slice] at hg5
               have b5 : Below w1.heap.size w1 w5 := B1'.out.grown hg5 B1'.out.size (fun g e => (own_blk O1.out g e).1)
               obtain ⟨Y, hY⟩ : ∃ Y, w5.alloc (.cells #[.string key] 9) = Y := ⟨_, rfl⟩
               have b5Y : Below w5.heap.size w5 Y := by rw [← hY]; exact (Below.refl _ _).alloc (Nat.le_refl _) _
               have BY : Hid (Below w1.heap.size w1 Y) := b5.trans (b5Y.mono b5.size)
               have KY : Hid (Box Y w5.heap.size 9 #[.string key]) := by unfold Hid; rw [← hY]; exact Box.new _ _ _
               have OY : Hid (Y.ownsRow w1.heap.size 9 1 (.slice l5 P c5) P ((K.take P).map Value.string)) := own_below ho5 b5Y
               clear ho5 hg5 hx5 b5 b5Y)
            | (refine step_app_any _ (by rfl) (.tmp 34) (.tmp 37) 23 (by rfl) w1.heap.size 9 iS (.string ⟨#[]⟩) 1 16 Try.underlying23 JI.out JZ0.out JZ1.out JZ2.out rfl (by omega) (.slice (some ⟨w1.heap.size, 0, none⟩) 0 0) 0 [] (by rfl) O12.out (some ⟨b, 0, none⟩) P yc ((K.take P).map Value.string) (by rfl) (fun ex => by cases ex) HTK.out (HTC.out _ B12.out) HT1.out (by unfold maxLen; omega) (by omega) B12.out.size ?_
               intro l5 c5 Y ho5 hg5 hx5
               rw [Nat.zero_add, List.nil_append] at ho5
               rw [ob_slice] at hg5
               have b5 : Below w1.heap.size w1 Y := B12.out.grown hg5 B12.out.size (fun g e => (own_blk O12.out g e).1)
               have BY : Hid (Below w1.heap.size w1 Y) := b5
               have KY : Hid (Box Y (w1.heap.size + 1) 9 #[.string key]) := K12.out.grown hg5 (fun ex => by have h : w1.heap.size = w1.heap.size + 1 := Option.some.inj ex; omega)
               have OY : Hid (Y.ownsRow w1.heap.size 9 1 (.slice l5 P c5) P ((K.take P).map Value.string)) := ho5
               clear ho5 hg5 hx5 b5)
            | (refine step_app_any _ (by rfl) (.tmp 34) (.tmp 37) 23 (by rfl) w1.heap.size 9 iS (.string ⟨#[]⟩) 1 16 Try.underlying23 JI.out JZ0.out JZ1.out JZ2.out rfl (by omega) (.slice (some ⟨w1.heap.size + 1, 0, none⟩) 0 0) 0 [] (by rfl) O21.out (some ⟨b, 0, none⟩) P yc ((K.take P).map Value.string) (by rfl) (fun ex => by cases ex) HTK.out (HTC.out _ B21.out) HT1.out (by unfold maxLen; omega) (by omega) B21.out.size ?_
               intro l5 c5 Y ho5 hg5 hx5
               rw [Nat.zero_add, List.nil_append] at ho5
               rw [ob_slice] at hg5
               have b5 : Below w1.heap.size w1 Y := B21.out.grown hg5 B21.out.size (fun g e => (own_blk O21.out g e).1)
               have BY : Hid (Below w1.heap.size w1 Y) := b5
               have KY : Hid (Box Y (w1.heap.size) 9 #[.string key]) := K21.out.grown hg5 (fun ex => by have h : w1.heap.size + 1 = w1.heap.size := Option.some.inj ex; omega)
               have OY : Hid (Y.ownsRow w1.heap.size 9 1 (.slice l5 P c5) P ((K.take P).map Value.string)) := ho5
               clear ho5 hg5 hx5 b5)
            | (refine step_app_any _ (by rfl) (.tmp 38) (.tmp 40) 23 (by rfl) w1.heap.size 9 iS (.string ⟨#[]⟩) 1 16 Try.underlying23 JI.out JZ0.out JZ1.out JZ2.out rfl (by omega) (.slice l5 P c5) P ((K.take P).map Value.string) (by rfl) OY.out (some ⟨w1.heap.size, 0, none⟩) 1 1 [.string key] (by rfl) (fun ex => by cases ex) rfl (fun ad e => by cases e; intro k u hu; cases k with | zero => (cases hu; exact KY.out.cell 0) | succ k => simp at hu) (by intro u hu; simp at hu; subst hu; rfl) (by unfold maxLen; omega) (by omega) BY.out.size ?_
               intro l7 c7 w7 ho7 hg7 hx7
               rw [ob_slice] at hg7
               have B7 : Hid (Below w1.heap.size w1 w7) := BY.out.grown hg7 BY.out.size (fun g e => (own_blk OY.out g e).1)
               have O7 : Hid (w7.ownsRow w1.heap.size 9 1 (.slice l7 (P + 1) c7) (P + 1) ((K.take P).map Value.string ++ [.string key])) := ho7
               clear ho7 hg7 hx7)
            | (refine step_app_any _ (by rfl) (.tmp 38) (.tmp 40) 23 (by rfl) w1.heap.size 9 iS (.string ⟨#[]⟩) 1 16 Try.underlying23 JI.out JZ0.out JZ1.out JZ2.out rfl (by omega) (.slice l5 P c5) P ((K.take P).map Value.string) (by rfl) OY.out (some ⟨w1.heap.size + 1, 0, none⟩) 1 1 [.string key] (by rfl) (fun ex => by cases ex) rfl (fun ad e => by cases e; intro k u hu; cases k with | zero => (cases hu; exact KY.out.cell 0) | succ k => simp at hu) (by intro u hu; simp at hu; subst hu; rfl) (by unfold maxLen; omega) (by omega) BY.out.size ?_
               intro l7 c7 w7 ho7 hg7 hx7
               rw [ob_slice] at hg7
               have B7 : Hid (Below w1.heap.size w1 w7) := BY.out.grown hg7 BY.out.size (fun g e => (own_blk OY.out g e).1)
               have O7 : Hid (w7.ownsRow w1.heap.size 9 1 (.slice l7 (P + 1) c7) (P + 1) ((K.take P).map Value.string ++ [.string key])) := ho7
               clear ho7 hg7 hx7)
            | (refine step_app_any _ (by rfl) (.tmp 38) (.tmp 40) 23 (by rfl) w1.heap.size 9 iS (.string ⟨#[]⟩) 1 16 Try.underlying23 JI.out JZ0.out JZ1.out JZ2.out rfl (by omega) (.slice l5 P c5) P ((K.take P).map Value.string) (by rfl) OY.out (some ⟨w5.heap.size, 0, none⟩) 1 1 [.string key] (by rfl) (fun ex => by cases ex) rfl (fun ad e => by cases e; intro k u hu; cases k with | zero => (cases hu; exact KY.out.cell 0) | succ k => simp at hu) (by intro u hu; simp at hu; subst hu; rfl) (by unfold maxLen; omega) (by omega) BY.out.size ?_
               intro l7 c7 w7 ho7 hg7 hx7
               rw [ob_slice] at hg7
               have B7 : Hid (Below w1.heap.size w1 w7) := BY.out.grown hg7 BY.out.size (fun g e => (own_blk OY.out g e).1)
               have O7 : Hid (w7.ownsRow w1.heap.size 9 1 (.slice l7 (P + 1) c7) (P + 1) ((K.take P).map Value.string ++ [.string key])) := ho7
               clear ho7 hg7 hx7)
            | (refine step_app_any _ (by rfl) (.tmp 41) (.tmp 44) 23 (by rfl) w1.heap.size 9 iS (.string ⟨#[]⟩) 1 16 Try.underlying23 JI.out JZ0.out JZ1.out JZ2.out rfl (by omega) (.slice l7 (P + 1) c7) (P + 1) ((K.take P).map Value.string ++ [.string key]) (by rfl) O7.out (some ⟨b, P, none⟩) (0) (yc - P) ((K.drop P).map Value.string) (by rfl) (fun ex => by cases ex) HTM.out (HTL.out _ _ B7.out) HD1.out (by unfold maxLen; omega) (by omega) B7.out.size ?_
               intro l9 c9 w9 ho9 hg9 hx9
               rw [ob_slice] at hg9
               have B9 : Hid (Below w1.heap.size w1 w9) := B7.out.grown hg9 B7.out.size (fun g e => (own_blk O7.out g e).1)
               have O9 : Hid (w9.ownsRow w1.heap.size 9 1 (.slice l9 (P + 1 + (0)) c9) (P + 1 + (0)) ((K.take P ++ key :: K.drop P).map Value.string)) := by unfold Hid; rw [← HFIN.out]; exact ho9
               clear ho9 hg9 hx9))
          all_goals
            obtain ⟨g', rfl⟩ : ∃ g' : Nat, l9 = some ⟨g', 0, none⟩ := by
              rcases own_form O9.out with ⟨e, h0⟩ | ⟨g', cap', e, _, _⟩
              · have := HTM2.out; omega
              · simp only [Value.slice.injEq] at e
                exact ⟨g', e.1⟩
            have HD9 : Hid (Drw w0 w9 gs a nn cc (T + 95 - 2 * (z - 1).toNat) zs) := (HDW1.out.below B9.out).mono (by omega)
            have HO9 : Hid (w9.ownsRow w.heap.size 9 1 (.slice (some ⟨g', 0, none⟩) (P + 1 + (0)) c9) (P + 1 + (0)) ((insK key K).map Value.string)) := by unfold Hid; rw [HINS.out]; exact own_low O9.out HW1.out
            have HL9 : Hid ((insK key K).length = P + 1 + (0)) := by have h1 := insK_len key K; have h2 := HKL.out; have h3 := HTM2.out; unfold Hid; omega
            have HR9 : Hid (Rise (insK key K)) := insK_rise HRI.out HNK.out
            have HT9 : Hid (∀ s ∈ insK key K, TK 6 s) := fun s hs => by
              rcases insK_mem.1 hs with rfl | hs
              · exact HKEY.out
              · exact HTKS.out s hs
            go_wp2
            go_roundw
            case rel => exact ⟨insK key K, g', _, _, z - 1, rfl, rfl, by omega, by have := HTM2.out; omega, HL9, HO9, HR9, HT9, HD9⟩
            case measure => simp [intOf]; omega
    · have e : z = 0 := by omega
      subst e
      obtain rfl : K.length = n := HKL.out
      go_wp2
      go_ret
      exact ⟨⟨_, _, K, rfl, RdV.own OW.out, HRI.out, by omega, HTKS.out⟩, HD.out.kept⟩
set_option maxRecDepth 100000 in
set_option maxHeartbeats 2000000 in
theorem c_keysOf (a : Option Addr) (n c : Nat) (zs : List Int) (w : World) (hr : RdV w a n (zs.map (Value.int .u8))) (hz : ∀ z ∈ zs, 0 ≤ z ∧ z < 256) (hn : n ≤ 1048576) :
    Calls Try.prog 12 #[.slice a n c] w fun e w' => (∃ a' c' K, e = .returned (.slice a' K.length c') ∧ RdV w' a' K.length (K.map Value.string) ∧ Rise K ∧ K.length ≤ 47 ∧ ∀ s ∈ K, TK 6 s) ∧ Below w.heap.size w w' := by
  have C := c_source a n c zs w hr hz hn
  clear hr hz
  go_enter Try.func12, Try.ntmps12
  go_wp2_with fail
  refine C.mono ?_
  rintro e w1 ⟨rfl, hd, hb⟩
  have C2 := c_treeKeysD w w1 w.heap.size a n c 0 zs hd (by omega)
  clear C hd
  go_wp2_with fail
  refine C2.mono ?_
  rintro e w2 ⟨⟨a2, c2, K, rfl, r2, h3⟩, hi⟩
  have R2 : Hid (RdV w2 a2 K.length (K.map Value.string)) := r2
  have H3 : Hid (Rise K ∧ K.length ≤ 47 ∧ ∀ s ∈ K, TK 6 s) := h3
  clear C2 r2 h3
  go_wp2
  go_ret
  exact ⟨⟨a2, c2, K, rfl, R2.out, H3.out⟩, hi⟩

end Go.Proofs.Ythnggpjgajkaeaa
