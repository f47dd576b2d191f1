/-
  ParseExpr of the program.
-/
import Derived.Test.YtbpfpjmjmkpjoaaGreatDoorLh
import Derived.Test.YtbpfpjmjmkpjoaaGreatDoorQb
import Derived.Test.YtbpfpjmjmkpjoaaGreatDoorXl
import Derived.Test.YtbpfpjmjmkpjoaaGreatDoorZmh
namespace Go.Proofs.YtbpfpjmjmkpjoaaGreatDoor
open Go Go.RowKit

set_option linter.unusedVariables false
set_option linter.unusedSimpArgs false
theorem by8_extract {t : ByteArray} {i e k : Nat} (h : e ≤ t.size) (hk : i + k < e) : by8 (t.extract i e) k = by8 t (i + k) := by
  have hz : (t.extract i e).size = e - i := by rw [ByteArray.size_extract]; omega
  rw [by8_eq _ k (by omega), by8_eq t (i + k) (by omega)]
  congr 2
  simp [ByteArray.getElem_extract]
theorem head_at' {u : ByteArray} (h : 0 < u.size) : u.data.toList.head? = some (u[0]'h) := by
  have hl : u.data.toList.length = u.size := by rw [Array.length_toList]; rfl
  rw [List.head?_eq_getElem?, List.getElem?_eq_getElem (by rw [hl]; exact h)]
  rfl
theorem tok_ok {t : ByteArray} {i e : Nat} (hs : t.size ≤ 65536) (h : i < t.size) (ht : tokE t i = some e) : Tok (t.extract i e) := by
  obtain ⟨h1, h2⟩ := tokE_in h ht
  have hz : (t.extract i e).size = e - i := by rw [ByteArray.size_extract]; omega
  have h0 : by8 (t.extract i e) 0 = by8 t i := by rw [by8_extract h2 (by omega), Nat.add_zero]
  refine ⟨by rw [hz]; omega, fun hq => ?_, fun hm => ?_⟩
  · rw [h0] at hq
    unfold tokE at ht
    rw [hq] at ht
    have e1 : lowI 39 = false := by decide
    have e2 : digI 39 = false := by decide
    rw [e1, e2] at ht
    simp only [Bool.false_eq_true, if_false] at ht
    rw [if_pos (by decide)] at ht
    split at ht
    · split at ht
      · rename_i h3 h4
        have he : spanP lowI t t.size (i + 1) + 1 = e := Option.some.inj ht
        have hsp := (spanP_le lowI t t.size (i + 1) (by omega)).1
        rw [hz]
        refine ⟨by omega, ?_⟩
        rw [by8_extract h2 (by omega), show i + (e - i - 1) = spanP lowI t t.size (i + 1) by omega]
        simpa using h4
      · cases ht
    · cases ht
  · rw [h0] at hm
    unfold tokE at ht
    rw [hm] at ht
    have e1 : lowI 45 = false := by decide
    have e2 : digI 45 = false := by decide
    have e3 : sgI 45 = true := by decide
    rw [e1, e2, e3] at ht
    simp only [Bool.false_eq_true, if_false, if_true] at ht
    rw [if_neg (by decide)] at ht
    have he : i + 1 = e := Option.some.inj ht
    have hb := by8_eq t i h
    rw [hm] at hb
    have hb2 : t[i] = 45 := UInt8.toNat_inj.1 (by show t[i].toNat = 45; omega)
    apply ba_eq0
    apply Array.toList_inj.1
    show (t.extract i e).data.toList = [45]
    have hl : (t.extract i e).data.toList.length = 1 := by rw [Array.length_toList]; show (t.extract i e).size = 1; omega
    match hc : (t.extract i e).data.toList, hl with
    | [x], _ =>
      have h3 := head_at' (u := t.extract i e) (by omega)
      rw [hc] at h3
      have hx : x = (t.extract i e)[0]'(by omega) := Option.some.inj h3
      have h5 := by8_eq (t.extract i e) 0 (by omega)
      rw [h0, hm] at h5
      have h6 : (t.extract i e)[0]'(by omega) = 45 := UInt8.toNat_inj.1 (by show ((t.extract i e)[0]'(by omega)).toNat = 45; omega)
      rw [hx, h6]
theorem lexG_tok (t : ByteArray) (hs : t.size ≤ 65536) : ∀ b i out, (∀ x ∈ out, Tok x) → ∀ x ∈ (lexG t b i out).1, Tok x
  | 0, i, out, h => h
  | b + 1, i, out, h => by
    rw [lexG]
    split
    · rename_i hi
      split
      · intro x hx; cases hx
      · rename_i e he
        split
        · intro x hx; cases hx
        · refine lexG_tok t hs b _ _ fun x hx => ?_
          rcases List.mem_append.1 hx with h1 | h1
          · exact h x h1
          · simp only [List.mem_cons, List.not_mem_nil, or_false] at h1
            subst h1
            exact tok_ok hs hi he
    · exact h
theorem lexR_tok (t : ByteArray) : ∀ x ∈ (lexR t).1, Tok x := by
  unfold lexR
  split
  · intro x hx; cases hx
  · exact lexG_tok t (by omega) _ _ _ fun x hx => by cases hx
/-- An expression of its nodes is right as long as it is not too deep. -/
theorem ok_nodes {p : PT} (hp : p.ok = true) (hc : p.cnt ≤ 40) : okX (nodesP p 0) (nodesP p 0).length = !decide (12 < p.dep) := by
  rw [← top_ok, nodes_len]
  unfold topX
  have h := pF_nodes (nodesP p 0) p 0 p.cnt hp (fun j hj => by rw [Nat.zero_add]) (Nat.le_refl _)
  rw [Nat.zero_add] at h
  rw [if_neg (by omega), h]
  by_cases h12 : 12 < p.dep
  · simp [h12]
  · simp [h12]

end Go.Proofs.YtbpfpjmjmkpjoaaGreatDoor
namespace Go.Proofs.YtbpfpjmjmkpjoaaGreatDoor
open Go Go.RowKit
attribute [local go_sem ↓] Go.wp_at_zero Go.wp_at_succ

set_option linter.unusedVariables false
set_option linter.unusedSimpArgs false
theorem tk_own {w : World} {B c : Nat} {a : Option Addr} {T : List ByteArray} (h : w.ownsRow B 9 1 (.slice a T.length c) T.length (strs T)) (ht : ∀ t ∈ T, Tok t) : TkR w.heap.size w a T ∧ T.length ≤ c := by
  constructor
  · refine ⟨ht, fun hT => ?_⟩
    obtain ⟨b, off, e, hb, hc⟩ := (RdV.own h).2 hT
    refine ⟨b, off, e, hb, fun i hi => ?_⟩
    rw [hc i hi]
    unfold strs
    rw [List.getElem?_map, List.getElem?_eq_getElem hi, List.getD_eq_getElem?_getD, List.getElem?_eq_getElem hi]
    rfl
  · obtain ⟨_, h2⟩ := h
    rcases h2 with ⟨_, h0⟩ | ⟨g, cap, cur, hv, _, _, hn, _⟩
    · omega
    · simp only [Value.slice.injEq] at hv; omega
/-- What ParseExpr tells, of the tokens and what is read of them. -/
def peR (lx : List ByteArray × Int) (r : Res) : List EN × Int :=
  if lx.2 = 0 then (match finR r with
    | .err c => ([], c)
    | .ok p T1 _ => if T1 = [] then (nodesP p 0, 0) else ([], 3)) else ([], lx.2)
def PeA (B : Nat) (P : List EN × Int) (e : Ending) (w' : World) : Prop := ∃ a c, e = .returned (.tuple #[.agg #[.slice a P.1.length c], .int .i64 P.2]) ∧ w'.ownsRow B 86 7 (.slice a P.1.length c) P.1.length (cellsE P.1)
theorem PeA.no {B : Nat} {P : List EN × Int} {k : Int} {w' : World} (h : P = ([], k)) : PeA B P (.returned (.tuple #[.agg #[.slice none 0 0], .int .i64 k])) w' := by
  subst h
  exact ⟨none, 0, rfl, World.ownsRow_nil _ _ _ _⟩
set_option maxRecDepth 100000 in
set_option maxHeartbeats 8000000 in
theorem c_implPE (t : ByteArray) (w : World) (hs : t.size ≤ maxLen) (hT : Tabs w) (hE : TabE w) (r : Res) (hr : Parses (.ch .or) 0 (lexR t).1 0 r) :
    Calls Tryz.prog 10 #[.string t] w fun e w' => PeA w.heap.size (peR (lexR t) r) e w' ∧ Below w.heap.size w w' := by
  obtain ⟨V0, hV0⟩ : ∃ Q, w.alloc (.cells #[.slice none 0 0] 24) = Q := ⟨_, rfl⟩
  have b0 : Below w.heap.size w V0 := by rw [← hV0]; exact (Below.refl _ _).alloc (Nat.le_refl _) _
  have X0 : Hid (Box V0 w.heap.size 24 #[.slice none 0 0]) := by unfold Hid; rw [← hV0]; exact Box.new _ _ _
  have C := c_implL t V0 hs
  have HTK : Hid (∀ x ∈ (lexR t).1, Tok x) := lexR_tok t
  have HT : Hid (Tabs V0 ∧ TabE V0) := ⟨hT.below b0, hE.below b0⟩
  have B0 : Hid (Below w.heap.size w V0) := b0
  obtain ⟨lx, hlx⟩ : ∃ lx, lexR t = lx := ⟨_, rfl⟩
  rw [hlx] at C HTK hr ⊢
  obtain ⟨T, k⟩ := lx
  have HR : Hid (Parses (.ch .or) 0 T 0 r) := hr
  have HTK2 : Hid (∀ x ∈ T, Tok x) := HTK
  clear hlx hr HTK b0 hT hE
  go_enter Tryz.func10, Tryz.ntmps10
  go_wp2_with fail
  refine C.mono ?_
  rintro e w1 ⟨⟨a, c, rfl, ho⟩, hb1⟩
  have HO : Hid (w1.ownsRow V0.heap.size 9 1 (.slice a T.length c) T.length (strs T)) := ho
  have X1 : Hid (Box w1 w.heap.size 24 #[.slice none 0 0]) := X0.out.belowS hb1
  have B1 : Hid (Below w.heap.size w w1) := B0.out.trans (hb1.mono B0.out.size)
  have HT1 : Hid (Tabs w1 ∧ TabE w1) := ⟨HT.out.1.below hb1, HT.out.2.below hb1⟩
  have x0 : w1.cell? ⟨w.heap.size, 0, none⟩ = some (.slice none 0 0) := X1.out.cell 0
  have t0 := X1.out.thaw 0
  clear C ho hb1 hV0 X0 B0 HT
  by_cases hk : k = 0
  · subst hk
    obtain ⟨tk1, tk2⟩ := tk_own HO.out HTK2.out
    have C2 := c_re T a c w1 tk2 (Nat.zero_le _) tk1 HT1.out.1 HT1.out.2 r HR.out
    have PE : Hid (peR (T, 0) r = match finR r with
      | .err c => ([], c)
      | .ok p T1 _ => if T1 = [] then (nodesP p 0, 0) else ([], 3)) := if_pos rfl
    obtain ⟨rf, hrf⟩ : ∃ rf, finR r = rf := ⟨_, rfl⟩
    rw [hrf] at C2 PE
    clear tk1 tk2 hrf HO HT1 HTK2 HR x0 t0
    cases rf with
    | err z =>
      go_wp2_with fail
      refine C2.mono ?_
      rintro e w2 ⟨⟨rfl, hz⟩, hb2⟩
      have X2 : Hid (Box w2 w.heap.size 24 #[.slice none 0 0]) := X1.out.belowS hb2
      have B2 : Hid (Below w.heap.size w w2) := B1.out.trans (hb2.mono B1.out.size)
      have x0 : w2.cell? ⟨w.heap.size, 0, none⟩ = some (.slice none 0 0) := X2.out.cell 0
      have t0 := X2.out.thaw 0
      have lw := X2.out.lt
      clear C2 hb2 X1 B1
      go_wp2
      refine retX2 (v := .int .i64 z) rfl rfl rfl rfl ((put1_box X2.out _).alloc _) ⟨PeA.no PE.out, ?_⟩
      exact (B2.out.setCell (p := ⟨w.heap.size, 0, none⟩) (Nat.le_refl _) _).alloc (by simpa using Nat.le_of_lt lw) _
    | ok p T1 n1 =>
      go_wp2_with fail
      refine C2.mono ?_
      rintro e w2 ⟨⟨a1, c1, aT, cT, rfl, ho2, _, _, _⟩, hb2⟩
      have X2 : Hid (Box w2 w.heap.size 24 #[.slice none 0 0]) := X1.out.belowS hb2
      have B2 : Hid (Below w.heap.size w w2) := B1.out.trans (hb2.mono B1.out.size)
      obtain ⟨M, hM⟩ : ∃ M, nodesP p 0 = M := ⟨_, rfl⟩
      have HM : Hid (nodesP p 0 = M) := hM
      rw [hM] at ho2 ⊢
      have O2 : Hid (w2.ownsRow w1.heap.size 86 7 (.slice a1 M.length c1) M.length (cellsE M)) := ho2
      have l1 := X1.out.lt
      obtain ⟨V3, hV3⟩ : ∃ Q, w2.alloc (.cells #[.slice a1 M.length c1] 24) = Q := ⟨_, rfl⟩
      have b3 : Below w2.heap.size w2 V3 := by rw [← hV3]; exact (Below.refl _ _).alloc (Nat.le_refl _) _
      have X3 : Hid (Box V3 w.heap.size 24 #[.slice none 0 0]) := X2.out.belowS b3
      have Y3 : Hid (Box V3 w2.heap.size 24 #[.slice a1 M.length c1]) := by unfold Hid; rw [← hV3]; exact Box.new _ _ _
      have B3 : Hid (Below w.heap.size w V3) := B2.out.trans (b3.mono B2.out.size)
      have O3 : Hid (V3.ownsRow w1.heap.size 86 7 (.slice a1 M.length c1) M.length (cellsE M)) := own_below O2.out b3
      have x0 : V3.cell? ⟨w.heap.size, 0, none⟩ = some (.slice none 0 0) := X3.out.cell 0
      have y0 : V3.cell? ⟨w2.heap.size, 0, none⟩ = some (.slice a1 M.length c1) := Y3.out.cell 0
      have t0 := X3.out.thaw 0
      have l2 := X2.out.lt
      have l3 := Y3.out.lt
      clear C2 hb2 X1 B1 hM ho2 b3 X2 B2 O2
      by_cases hT1 : T1 = []
      · subst hT1
        have E : Hid (peR (T, 0) r = (M, 0)) := by unfold Hid; rw [PE.out, ← HM.out]; rfl
        clear PE
        go_wp2
        refine retX2 (v := .int .i64 0) rfl rfl rfl rfl (put1_box X3.out _) ⟨?_, ?_⟩
        · rw [E.out]
          refine ⟨a1, c1, rfl, ?_⟩
          refine World.ownsRow.down (own_same O3.out fun x ex => ?_) (Nat.le_of_lt l1)
          rw [ob_slice] at ex
          have := (own_blkN O3.out x ex).1
          exact Below.heap_setCell V3 ⟨w.heap.size, 0, none⟩ _ x (by show x ≠ w.heap.size; omega)
        · exact B3.out.setCell (p := ⟨w.heap.size, 0, none⟩) (Nat.le_refl _) _
      · have E : Hid (peR (T, 0) r = ([], 3)) := by
          unfold Hid; rw [PE.out]; exact if_neg hT1
        have hl : (0 : Int) < (T1.length : Int) := by
          cases T1 with
          | nil => exact absurd rfl hT1
          | cons x xs => simp
        clear PE hT1
        go_wp2
        refine retX2 (v := .int .i64 3) rfl rfl rfl rfl (put1_box X3.out _) ⟨PeA.no E.out, ?_⟩
        exact B3.out.setCell (p := ⟨w.heap.size, 0, none⟩) (Nat.le_refl _) _
  · have E : Hid (peR (T, k) r = ([], k)) := if_neg hk
    have hk2 : (k == 0) = false := by simpa using hk
    clear hk HTK2 HR HO HT1
    go_wp2
    refine retX2 (v := .int .i64 k) rfl rfl rfl rfl (put1_box X1.out _) ⟨PeA.no E.out, ?_⟩
    exact B1.out.setCell (p := ⟨w.heap.size, 0, none⟩) (Nat.le_refl _) _

end Go.Proofs.YtbpfpjmjmkpjoaaGreatDoor
