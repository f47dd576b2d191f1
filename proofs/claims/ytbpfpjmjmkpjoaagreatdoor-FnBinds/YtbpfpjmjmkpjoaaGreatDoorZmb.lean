/-
  Values by their tokens: the specification.
-/
import Derived.Test.YtbpfpjmjmkpjoaaGreatDoorZmi
import Derived.LoopN
namespace Go.Proofs.YtbpfpjmjmkpjoaaGreatDoor
open Go Go.RowKit
attribute [local go_sem ↓] Go.wp_at_zero Go.wp_at_succ

set_option linter.unusedVariables false
set_option linter.unusedSimpArgs false
theorem valD_take {l : List UInt8} {k : Nat} (hk : k < l.length) : valD (l.take (k + 1)) = valD (l.take k) * 10 + ((l[k]'hk).toNat - 48) := by
  rw [List.take_succ_eq_append_getElem hk, valD_snoc]
theorem valD_lt {l : List UInt8} (k : Nat) (hk : k ≤ l.length) (hd : ∀ j (hj : j < l.length), j < k → 48 ≤ (l[j]'hj).toNat ∧ (l[j]'hj).toNat ≤ 57) : valD (l.take k) < 10 ^ k := by
  induction k with
  | zero => simp [valD]
  | succ k ih =>
    have h1 := ih (by omega) (fun j hj h => hd j hj (by omega))
    have h2 := hd k (by omega) (by omega)
    rw [valD_take (by omega), Nat.pow_succ]
    omega
theorem all_take {l : List UInt8} (hd : ∀ j (hj : j < l.length), 48 ≤ (l[j]'hj).toNat ∧ (l[j]'hj).toNat ≤ 57) : ∀ b ∈ l, 48 ≤ b.toNat ∧ b.toNat ≤ 57 := fun b hb => by
  obtain ⟨j, hj, rfl⟩ := List.mem_iff_getElem.1 hb
  exact hd j hj
theorem okD_no {l : List UInt8} {j : Nat} (hj : j < l.length) (h : (l[j]'hj).toNat < 48 ∨ 57 < (l[j]'hj).toNat) : okD l = false := by
  cases ho : okD l with
  | false => rfl
  | true =>
    have := (okD_parts ho).2.1 _ (List.getElem_mem hj)
    omega
theorem pow18 {k : Nat} (hk : k ≤ 17) : 10 ^ k ≤ 100000000000000000 := by
  have : 10 ^ k ≤ 10 ^ 17 := Nat.pow_le_pow_right (by decide) hk
  exact this
theorem pow18b {k : Nat} (hk : k ≤ 18) : 10 ^ k ≤ 1000000000000000000 := by
  have : 10 ^ k ≤ 10 ^ 18 := Nat.pow_le_pow_right (by decide) hk
  exact this
/-- What the reader makes of a text's digits. -/
def NumO (t : ByteArray) (z : Int) (b : Bool) : Prop := (b && inB z (-1000000000) 1000000000) = (numB t).isSome ∧ ∀ m, numB t = some m → z = m
theorem NumO.no {t : ByteArray} (h : numL t.data.toList = none) : NumO t 0 false := by
  have e : numB t = none := by unfold numB numT; rw [h]
  exact ⟨by rw [e]; rfl, fun m hm => by rw [e] at hm; cases hm⟩
theorem NumO.yes {t : ByteArray} {z : Int} (h : numL t.data.toList = some z) : NumO t z true := by
  by_cases hb : -1000000000 ≤ z ∧ z ≤ 1000000000
  · have e : numB t = some z := by unfold numB numT; rw [h]; exact if_pos hb
    exact ⟨by rw [e]; unfold inB; rw [decide_eq_true hb]; rfl, fun m hm => by rw [e] at hm; exact Option.some.inj hm⟩
  · have e : numB t = none := by unfold numB numT; rw [h]; exact if_neg hb
    exact ⟨by rw [e]; unfold inB; rw [decide_eq_false hb]; rfl, fun m hm => by rw [e] at hm; cases hm⟩
theorem numL_pos {l : List UInt8} (h : l.head? ≠ some 45) : numL l = if okD l && decide (l.length ≤ 18) then some (valD l : Int) else none := by
  cases l with
  | nil => rfl
  | cons b r =>
    have : b ≠ 45 := fun e => h (by rw [e]; rfl)
    rw [numL, if_neg this]
theorem numL_neg {r : List UInt8} : numL (45 :: r) = if okD r && decide (r.length ≤ 18) && !(r.head? == some 48) then some (-(valD r : Int)) else none := by rw [numL, if_pos rfl]
theorem head_at {u : ByteArray} (h : 0 < u.size) : u.data.toList.head? = some (u[0]'h) := by
  have hl : u.data.toList.length = u.size := by rw [Array.length_toList]; rfl
  rw [List.head?_eq_getElem?, List.getElem?_eq_getElem (by rw [hl]; exact h)]
  rfl
theorem at_list {u : ByteArray} {k : Nat} (h : k < u.size) (h2 : k < u.data.toList.length) : u.data.toList[k]'h2 = u[k]'h := rfl
set_option maxRecDepth 100000 in
set_option maxHeartbeats 8000000 in
theorem s_l00Z (t : ByteArray) (w : World) (h0 : t.size = 0) :
    Calls Tryz.prog 131 #[.string t] w fun e w' => NumA t e ∧ Below w.heap.size w w' := by
  have hl : t.data.toList.length = t.size := by rw [Array.length_toList]; rfl
  have E : Hid (NumO t 0 false) := NumO.no (by
    have : t.data.toList = [] := List.eq_nil_of_length_eq_zero (hl.trans h0)
    rw [this]; rfl)
  clear hl
  go_enter Tryz.func131, Tryz.ntmps131
  go_wp2
  go_ret2
  exact ⟨⟨0, false, rfl, E.out.1, E.out.2⟩, Below.refl _ _⟩
set_option maxRecDepth 100000 in
set_option maxHeartbeats 8000000 in
theorem s_l00B (t : ByteArray) (w : World) (hs : t.size ≤ 70000) (hpos : 0 < t.size) (hm : ¬ t[0].toNat = 45) :
    Calls Tryz.prog 131 #[.string t] w fun e w' => NumA t e ∧ Below w.heap.size w w' := by
  have HUL : Hid (t.data.toList.length = t.size) := by unfold Hid; rw [Array.length_toList]; rfl
  have g0 : (0 : Int) < (t.size : Int) := by omega
  have m0 : ((t.size : Int) == 0) = false := beq_eq_false_iff_ne.2 (by omega)
  have m1 : ((((t[0]'hpos).toNat : Nat) : Int) == 45) = false := beq_eq_false_iff_ne.2 (by omega)
  have hd45 : t.data.toList.head? ≠ some 45 := by
    rw [head_at hpos]
    intro e
    have : t[0] = 45 := Option.some.inj e
    rw [this] at hm
    exact hm rfl
  have NL : Hid (numL t.data.toList = if okD t.data.toList && decide (t.data.toList.length ≤ 18) then some (valD t.data.toList : Int) else none) := numL_pos hd45
  have NOO : Hid (okD t.data.toList = false → NumO t 0 false) := fun h => NumO.no (by rw [NL.out, h]; rfl)
  clear hd45
  by_cases h18 : (18 : Int) < (t.size : Int)
  · have E : Hid (NumO t 0 false) := NumO.no (by rw [NL.out, HUL.out, decide_eq_false (by omega), Bool.and_false]; rfl)
    have m2 : decide ((18 : Int) < (t.size : Int)) = true := decide_eq_true h18
    go_enter Tryz.func131, Tryz.ntmps131
    go_wp2
    go_ret2
    exact ⟨⟨0, false, rfl, E.out.1, E.out.2⟩, Below.refl _ _⟩
  · have m2 : decide ((18 : Int) < (t.size : Int)) = false := decide_eq_false h18
    have YES : Hid ((t.data.toList.head? = some 48 → t.data.toList.length ≤ 1) → ∀ v : Nat, valD t.data.toList = v → (∀ b ∈ t.data.toList, 48 ≤ b.toNat ∧ b.toNat ≤ 57) → NumO t (1 * (v : Int)) true) := fun hh v hv ha => by
      refine NumO.yes ?_
      rw [NL.out, okD_mk (fun e => by have := HUL.out; rw [e] at this; simp at this; omega) ha hh, HUL.out, decide_eq_true (by omega), hv]
      simp
    by_cases h48 : t[0].toNat = 48
    · have m3 : ((((t[0]'hpos).toNat : Nat) : Int) == 48) = true := by rw [h48]; rfl
      by_cases h1 : (1 : Int) < (t.size : Int)
      · have E : Hid (NumO t 0 false) := NOO.out (by
          cases ho : okD t.data.toList with
          | false => rfl
          | true =>
            have := (okD_parts ho).2.2 (by rw [head_at hpos]; exact congrArg some (UInt8.toNat_inj.1 h48))
            rw [HUL.out] at this
            omega)
        have m4 : decide ((1 : Int) < (t.size : Int)) = true := decide_eq_true h1
        clear YES
        go_enter Tryz.func131, Tryz.ntmps131
        go_wp2
        go_ret2
        exact ⟨⟨0, false, rfl, E.out.1, E.out.2⟩, Below.refl _ _⟩
      · have m4 : decide ((1 : Int) < (t.size : Int)) = false := decide_eq_false h1
        have YES2 : Hid (∀ v : Nat, valD t.data.toList = v → (∀ b ∈ t.data.toList, 48 ≤ b.toNat ∧ b.toNat ≤ 57) → NumO t (1 * (v : Int)) true) := YES.out fun _ => by rw [HUL.out]; omega
        clear YES
        go_enter Tryz.func131, Tryz.ntmps131
        go_wp2
        go_loopw [5, 6] (fun n i wr => ∃ k : Nat, k ≤ t.size ∧ i = .int .i64 (k : Int) ∧ n = .int .i64 ((valD (t.data.toList.take k) : Nat) : Int) ∧ Below w.heap.size w wr ∧ Hid (∀ j (hj : j < t.data.toList.length), j < k → 48 ≤ (t.data.toList[j]'hj).toNat ∧ (t.data.toList[j]'hj).toNat ≤ 57)) (fun _ i _ => t.size - (intOf i).toNat)
        case atStart => exact ⟨0, Nat.zero_le _, rfl, rfl, Below.refl _ _, fun j hj h => absurd h (by omega)⟩
        case round =>
          obtain ⟨k, hk, rfl, rfl, hb, hd⟩ := hrel
          have HB : Hid (Below w.heap.size w wr) := hb
          obtain ⟨v, hv⟩ : ∃ v, valD (t.data.toList.take k) = v := ⟨_, rfl⟩
          have HV : Hid (valD (t.data.toList.take k) = v) := hv
          rw [hv]
          clear hb hv
          by_cases hlt : k < t.size
          · have hkl : k < t.data.toList.length := by rw [HUL.out]; exact hlt
            have vb : v < 100000000000000000 := by
              have h1 := valD_lt k (by omega) hd.out
              rw [HV.out] at h1
              exact Nat.lt_of_lt_of_le h1 (pow18 (by omega))
            have bl := (t[k]'hlt).toNat_lt
            have w1 : IntKind.i64.wrap ((v : Int) * 10) = (v : Int) * 10 := by simp [IntKind.wrap_i64]; omega
            have w2 : IntKind.i64.wrap ((v : Int) * 10 + ((t[k]'hlt).toNat : Int)) = (v : Int) * 10 + ((t[k]'hlt).toNat : Int) := by simp [IntKind.wrap_i64]; omega
            have w3 : IntKind.i64.wrap ((v : Int) * 10 + ((t[k]'hlt).toNat : Int) - 48) = (v : Int) * 10 + ((t[k]'hlt).toNat : Int) - 48 := by simp [IntKind.wrap_i64]; omega
            have w4 : IntKind.i64.wrap ((k : Int) + 1) = (k : Int) + 1 := by simp [IntKind.wrap_i64]; omega
            have g2 : (k : Int) < (t.size : Int) := by omega
            have g1 : (0 : Int) ≤ (k : Int) := by omega
            by_cases d1 : ((t[k]'hlt).toNat : Int) < 48
            · have E : Hid (NumO t 0 false) := NOO.out (okD_no hkl (.inl (by rw [at_list hlt]; omega)))
              clear hd
              go_wp2
              go_ret2
              exact ⟨⟨0, false, rfl, E.out.1, E.out.2⟩, HB.out⟩
            · by_cases d2 : (57 : Int) < ((t[k]'hlt).toNat : Int)
              · have E : Hid (NumO t 0 false) := NOO.out (okD_no hkl (.inr (by rw [at_list hlt]; omega)))
                clear hd
                go_wp2
                go_ret2
                exact ⟨⟨0, false, rfl, E.out.1, E.out.2⟩, HB.out⟩
              · have HN : Hid ((v : Int) * 10 + ((t[k]'hlt).toNat : Int) - 48 = ((valD (t.data.toList.take (k + 1)) : Nat) : Int)) := by
                  unfold Hid; rw [valD_take hkl, HV.out, at_list hlt]; omega
                have HD : Hid (∀ j (hj : j < t.data.toList.length), j < k + 1 → 48 ≤ (t.data.toList[j]'hj).toNat ∧ (t.data.toList[j]'hj).toNat ≤ 57) := fun j hj h => by
                  by_cases e : j = k
                  · subst e; rw [at_list hlt]; omega
                  · exact hd.out j hj (by omega)
                clear hd
                go_wp2
                go_roundw
                case rel => exact ⟨k + 1, by omega, by go_num, by rw [HN.out], HB.out, HD⟩
                case measure => simp [intOf]; omega
          · have e : k = t.size := by omega
            have E : Hid (NumO t (1 * (v : Int)) true) := YES2.out v (by rw [← HV.out, e, ← HUL.out, List.take_length]) (all_take fun j hj => hd.out j hj (by rw [← HUL.out] at e; omega))
            have vb : v < 1000000000000000000 := by
              have h1 := valD_lt k (by rw [HUL.out]; omega) hd.out
              rw [HV.out] at h1
              exact Nat.lt_of_lt_of_le h1 (pow18b (by omega))
            have w1 : IntKind.i64.wrap (1 * (v : Int)) = 1 * (v : Int) := by simp [IntKind.wrap_i64]; omega
            have w5 : IntKind.i64.wrap (v : Int) = (v : Int) := by simp [IntKind.wrap_i64]; omega
            have g2 : ¬ (k : Int) < (t.size : Int) := by omega
            clear hd
            go_wp2
            go_ret2
            exact ⟨⟨1 * (v : Int), true, by rw [Int.one_mul]; rfl, E.out.1, E.out.2⟩, HB.out⟩
    · have m3 : ((((t[0]'hpos).toNat : Nat) : Int) == 48) = false := beq_eq_false_iff_ne.2 (by omega)
      have YES2 : Hid (∀ v : Nat, valD t.data.toList = v → (∀ b ∈ t.data.toList, 48 ≤ b.toNat ∧ b.toNat ≤ 57) → NumO t (1 * (v : Int)) true) := YES.out fun e => by
        rw [head_at hpos] at e
        exact absurd (congrArg UInt8.toNat (Option.some.inj e)) h48
      clear YES
      go_enter Tryz.func131, Tryz.ntmps131
      go_wp2
      go_loopw [5, 6] (fun n i wr => ∃ k : Nat, k ≤ t.size ∧ i = .int .i64 (k : Int) ∧ n = .int .i64 ((valD (t.data.toList.take k) : Nat) : Int) ∧ Below w.heap.size w wr ∧ Hid (∀ j (hj : j < t.data.toList.length), j < k → 48 ≤ (t.data.toList[j]'hj).toNat ∧ (t.data.toList[j]'hj).toNat ≤ 57)) (fun _ i _ => t.size - (intOf i).toNat)
      case atStart => exact ⟨0, Nat.zero_le _, rfl, rfl, Below.refl _ _, fun j hj h => absurd h (by omega)⟩
      case round =>
        obtain ⟨k, hk, rfl, rfl, hb, hd⟩ := hrel
        have HB : Hid (Below w.heap.size w wr) := hb
        obtain ⟨v, hv⟩ : ∃ v, valD (t.data.toList.take k) = v := ⟨_, rfl⟩
        have HV : Hid (valD (t.data.toList.take k) = v) := hv
        rw [hv]
        clear hb hv
        by_cases hlt : k < t.size
        · have hkl : k < t.data.toList.length := by rw [HUL.out]; exact hlt
          have vb : v < 100000000000000000 := by
            have h1 := valD_lt k (by omega) hd.out
            rw [HV.out] at h1
            exact Nat.lt_of_lt_of_le h1 (pow18 (by omega))
          have bl := (t[k]'hlt).toNat_lt
          have w1 : IntKind.i64.wrap ((v : Int) * 10) = (v : Int) * 10 := by simp [IntKind.wrap_i64]; omega
          have w2 : IntKind.i64.wrap ((v : Int) * 10 + ((t[k]'hlt).toNat : Int)) = (v : Int) * 10 + ((t[k]'hlt).toNat : Int) := by simp [IntKind.wrap_i64]; omega
          have w3 : IntKind.i64.wrap ((v : Int) * 10 + ((t[k]'hlt).toNat : Int) - 48) = (v : Int) * 10 + ((t[k]'hlt).toNat : Int) - 48 := by simp [IntKind.wrap_i64]; omega
          have w4 : IntKind.i64.wrap ((k : Int) + 1) = (k : Int) + 1 := by simp [IntKind.wrap_i64]; omega
          have g2 : (k : Int) < (t.size : Int) := by omega
          have g1 : (0 : Int) ≤ (k : Int) := by omega
          by_cases d1 : ((t[k]'hlt).toNat : Int) < 48
          · have E : Hid (NumO t 0 false) := NOO.out (okD_no hkl (.inl (by rw [at_list hlt]; omega)))
            clear hd
            go_wp2
            go_ret2
            exact ⟨⟨0, false, rfl, E.out.1, E.out.2⟩, HB.out⟩
          · by_cases d2 : (57 : Int) < ((t[k]'hlt).toNat : Int)
            · have E : Hid (NumO t 0 false) := NOO.out (okD_no hkl (.inr (by rw [at_list hlt]; omega)))
              clear hd
              go_wp2
              go_ret2
              exact ⟨⟨0, false, rfl, E.out.1, E.out.2⟩, HB.out⟩
            · have HN : Hid ((v : Int) * 10 + ((t[k]'hlt).toNat : Int) - 48 = ((valD (t.data.toList.take (k + 1)) : Nat) : Int)) := by
                unfold Hid; rw [valD_take hkl, HV.out, at_list hlt]; omega
              have HD : Hid (∀ j (hj : j < t.data.toList.length), j < k + 1 → 48 ≤ (t.data.toList[j]'hj).toNat ∧ (t.data.toList[j]'hj).toNat ≤ 57) := fun j hj h => by
                by_cases e : j = k
                · subst e; rw [at_list hlt]; omega
                · exact hd.out j hj (by omega)
              clear hd
              go_wp2
              go_roundw
              case rel => exact ⟨k + 1, by omega, by go_num, by rw [HN.out], HB.out, HD⟩
              case measure => simp [intOf]; omega
        · have e : k = t.size := by omega
          have E : Hid (NumO t (1 * (v : Int)) true) := YES2.out v (by rw [← HV.out, e, ← HUL.out, List.take_length]) (all_take fun j hj => hd.out j hj (by rw [← HUL.out] at e; omega))
          have vb : v < 1000000000000000000 := by
            have h1 := valD_lt k (by rw [HUL.out]; omega) hd.out
            rw [HV.out] at h1
            exact Nat.lt_of_lt_of_le h1 (pow18b (by omega))
          have w1 : IntKind.i64.wrap (1 * (v : Int)) = 1 * (v : Int) := by simp [IntKind.wrap_i64]; omega
          have w5 : IntKind.i64.wrap (v : Int) = (v : Int) := by simp [IntKind.wrap_i64]; omega
          have g2 : ¬ (k : Int) < (t.size : Int) := by omega
          clear hd
          go_wp2
          go_ret2
          exact ⟨⟨1 * (v : Int), true, by rw [Int.one_mul]; rfl, E.out.1, E.out.2⟩, HB.out⟩
set_option maxRecDepth 100000 in
set_option maxHeartbeats 8000000 in
theorem s_l00A (t : ByteArray) (w : World) (hs : t.size ≤ 70000) (hpos : 0 < t.size) (hm : t[0].toNat = 45) :
    Calls Tryz.prog 131 #[.string t] w fun e w' => NumA t e ∧ Below w.heap.size w w' := by
  obtain ⟨u, hu⟩ : ∃ u, t.extract 1 t.size = u := ⟨_, rfl⟩
  have us : u.size = t.size - 1 := by rw [← hu, ByteArray.size_extract]; omega
  have HUL : Hid (u.data.toList.length = u.size) := by unfold Hid; rw [Array.length_toList]; rfl
  have hlist : t.data.toList = 45 :: u.data.toList := by
    have e1 : u.data.toList = t.data.toList.drop 1 := by
      rw [← hu, ByteArray.data_extract, Array.toList_extract]
      have hl : t.data.toList.length = t.size := by rw [Array.length_toList]; rfl
      show (t.data.toList.drop 1).take (t.size - 1) = _
      exact List.take_of_length_le (by rw [List.length_drop, hl]; omega)
    have h1 := head_at hpos
    cases hc : t.data.toList with
    | nil => rw [hc] at h1; cases h1
    | cons b r =>
      rw [hc] at h1 e1
      have hb : b = t[0] := Option.some.inj h1
      rw [e1, hb, show t[0] = (45 : UInt8) from UInt8.toNat_inj.1 hm]
      rfl
  have g0 : (0 : Int) < (t.size : Int) := by omega
  have g9 : (1 : Int) ≤ (t.size : Int) := by omega
  have m1 : ((((t[0]'hpos).toNat : Nat) : Int) == 45) = true := by rw [hm]; rfl
  have NL : Hid (numL t.data.toList = if okD u.data.toList && decide (u.data.toList.length ≤ 18) && !(u.data.toList.head? == some 48) then some (-(valD u.data.toList : Int)) else none) := by unfold Hid; rw [hlist, numL_neg]
  have NOO : Hid (okD u.data.toList = false → NumO t 0 false) := fun h => NumO.no (by rw [NL.out, h]; rfl)
  have ub : u.size ≤ 70000 := by omega
  clear hlist us
  by_cases hu0 : u.size = 0
  · have m0 : ((u.size : Int) == 0) = true := by rw [hu0]; rfl
    have E : Hid (NumO t 0 false) := NOO.out (by rw [List.eq_nil_of_length_eq_zero (HUL.out.trans hu0)]; rfl)
    clear hu0
    go_enter Tryz.func131, Tryz.ntmps131
    go_wp2
    go_ret2
    exact ⟨⟨0, false, rfl, E.out.1, E.out.2⟩, Below.refl _ _⟩
  · have upos : 0 < u.size := by omega
    have u0 : (0 : Int) < (u.size : Int) := by omega
    have m0 : ((u.size : Int) == 0) = false := beq_eq_false_iff_ne.2 (by omega)
    by_cases h18 : (18 : Int) < (u.size : Int)
    · have E : Hid (NumO t 0 false) := NumO.no (by rw [NL.out, HUL.out, decide_eq_false (by omega), Bool.and_false]; rfl)
      have m2 : decide ((18 : Int) < (u.size : Int)) = true := decide_eq_true h18
      go_enter Tryz.func131, Tryz.ntmps131
      go_wp2
      go_ret2
      exact ⟨⟨0, false, rfl, E.out.1, E.out.2⟩, Below.refl _ _⟩
    · have m2 : decide ((18 : Int) < (u.size : Int)) = false := decide_eq_false h18
      by_cases h48 : u[0].toNat = 48
      · have m3 : ((((u[0]'upos).toNat : Nat) : Int) == 48) = true := by rw [h48]; rfl
        have hh : u.data.toList.head? = some 48 := by rw [head_at upos]; exact congrArg some (UInt8.toNat_inj.1 h48)
        have E : Hid (NumO t 0 false) := NumO.no (by rw [NL.out, hh]; simp)
        clear hh
        go_enter Tryz.func131, Tryz.ntmps131
        go_wp2
        all_goals
          go_ret2
          exact ⟨⟨0, false, rfl, E.out.1, E.out.2⟩, Below.refl _ _⟩
      · have m3 : ((((u[0]'upos).toNat : Nat) : Int) == 48) = false := beq_eq_false_iff_ne.2 (by omega)
        have hh : ¬ u.data.toList.head? = some 48 := by
          rw [head_at upos]
          intro e
          exact h48 (congrArg UInt8.toNat (Option.some.inj e))
        have YES2 : Hid (∀ v : Nat, valD u.data.toList = v → (∀ b ∈ u.data.toList, 48 ≤ b.toNat ∧ b.toNat ≤ 57) → NumO t (-1 * (v : Int)) true) := fun v hv ha => by
          refine NumO.yes ?_
          have hb : (u.data.toList.head? == some 48) = false := by simpa using hh
          rw [NL.out, okD_mk (fun e => by have := HUL.out; rw [e] at this; simp at this; omega) ha (fun e => absurd e hh), HUL.out, decide_eq_true (by omega), hb, hv]
          simp
        clear hh
        go_enter Tryz.func131, Tryz.ntmps131
        go_wp2
        go_loopw [5, 6] (fun n i wr => ∃ k : Nat, k ≤ u.size ∧ i = .int .i64 (k : Int) ∧ n = .int .i64 ((valD (u.data.toList.take k) : Nat) : Int) ∧ Below w.heap.size w wr ∧ Hid (∀ j (hj : j < u.data.toList.length), j < k → 48 ≤ (u.data.toList[j]'hj).toNat ∧ (u.data.toList[j]'hj).toNat ≤ 57)) (fun _ i _ => u.size - (intOf i).toNat)
        case atStart => exact ⟨0, Nat.zero_le _, rfl, rfl, Below.refl _ _, fun j hj h => absurd h (by omega)⟩
        case round =>
          obtain ⟨k, hk, rfl, rfl, hb, hd⟩ := hrel
          have HB : Hid (Below w.heap.size w wr) := hb
          obtain ⟨v, hv⟩ : ∃ v, valD (u.data.toList.take k) = v := ⟨_, rfl⟩
          have HV : Hid (valD (u.data.toList.take k) = v) := hv
          rw [hv]
          clear hb hv
          by_cases hlt : k < u.size
          · have hkl : k < u.data.toList.length := by rw [HUL.out]; exact hlt
            have vb : v < 100000000000000000 := by
              have h1 := valD_lt k (by omega) hd.out
              rw [HV.out] at h1
              exact Nat.lt_of_lt_of_le h1 (pow18 (by omega))
            have bl := (u[k]'hlt).toNat_lt
            have w1 : IntKind.i64.wrap ((v : Int) * 10) = (v : Int) * 10 := by simp [IntKind.wrap_i64]; omega
            have w2 : IntKind.i64.wrap ((v : Int) * 10 + ((u[k]'hlt).toNat : Int)) = (v : Int) * 10 + ((u[k]'hlt).toNat : Int) := by simp [IntKind.wrap_i64]; omega
            have w3 : IntKind.i64.wrap ((v : Int) * 10 + ((u[k]'hlt).toNat : Int) - 48) = (v : Int) * 10 + ((u[k]'hlt).toNat : Int) - 48 := by simp [IntKind.wrap_i64]; omega
            have w4 : IntKind.i64.wrap ((k : Int) + 1) = (k : Int) + 1 := by simp [IntKind.wrap_i64]; omega
            have g2 : (k : Int) < (u.size : Int) := by omega
            have g1 : (0 : Int) ≤ (k : Int) := by omega
            by_cases d1 : ((u[k]'hlt).toNat : Int) < 48
            · have E : Hid (NumO t 0 false) := NOO.out (okD_no hkl (.inl (by rw [at_list hlt]; omega)))
              clear hd
              go_wp2
              go_ret2
              exact ⟨⟨0, false, rfl, E.out.1, E.out.2⟩, HB.out⟩
            · by_cases d2 : (57 : Int) < ((u[k]'hlt).toNat : Int)
              · have E : Hid (NumO t 0 false) := NOO.out (okD_no hkl (.inr (by rw [at_list hlt]; omega)))
                clear hd
                go_wp2
                go_ret2
                exact ⟨⟨0, false, rfl, E.out.1, E.out.2⟩, HB.out⟩
              · have HN : Hid ((v : Int) * 10 + ((u[k]'hlt).toNat : Int) - 48 = ((valD (u.data.toList.take (k + 1)) : Nat) : Int)) := by
                  unfold Hid; rw [valD_take hkl, HV.out, at_list hlt]; omega
                have HD : Hid (∀ j (hj : j < u.data.toList.length), j < k + 1 → 48 ≤ (u.data.toList[j]'hj).toNat ∧ (u.data.toList[j]'hj).toNat ≤ 57) := fun j hj h => by
                  by_cases e : j = k
                  · subst e; rw [at_list hlt]; omega
                  · exact hd.out j hj (by omega)
                clear hd
                go_wp2
                go_roundw
                case rel => exact ⟨k + 1, by omega, by go_num, by rw [HN.out], HB.out, HD⟩
                case measure => simp [intOf]; omega
          · have e : k = u.size := by omega
            have E : Hid (NumO t (-1 * (v : Int)) true) := YES2.out v (by rw [← HV.out, e, ← HUL.out, List.take_length]) (all_take fun j hj => hd.out j hj (by rw [← HUL.out] at e; omega))
            have vb : v < 1000000000000000000 := by
              have h1 := valD_lt k (by rw [HUL.out]; omega) hd.out
              rw [HV.out] at h1
              exact Nat.lt_of_lt_of_le h1 (pow18b (by omega))
            have w1 : IntKind.i64.wrap (-1 * (v : Int)) = -1 * (v : Int) := by simp [IntKind.wrap_i64]; omega
            have w5 : IntKind.i64.wrap (v : Int) = (v : Int) := by simp [IntKind.wrap_i64]; omega
            have g2 : ¬ (k : Int) < (u.size : Int) := by omega
            clear hd
            go_wp2
            go_ret2
            exact ⟨⟨-1 * (v : Int), true, by rw [show (-1 : Int) * (v : Int) = -(v : Int) by omega]; rfl, E.out.1, E.out.2⟩, HB.out⟩
theorem s_l00 (t : ByteArray) (w : World) (hs : t.size ≤ 70000) :
    Calls Tryz.prog 131 #[.string t] w fun e w' => NumA t e ∧ Below w.heap.size w w' := by
  by_cases h0 : t.size = 0
  · exact s_l00Z t w h0
  · by_cases hm : (t[0]'(by omega)).toNat = 45
    · exact s_l00A t w hs (by omega) hm
    · exact s_l00B t w hs (by omega) hm

end Go.Proofs.YtbpfpjmjmkpjoaaGreatDoor
namespace Go.Proofs.YtbpfpjmjmkpjoaaGreatDoor
open Go Go.RowKit
attribute [local go_sem ↓] Go.wp_at_zero Go.wp_at_succ

set_option linter.unusedVariables false
set_option linter.unusedSimpArgs false
set_option maxRecDepth 100000 in
set_option maxHeartbeats 8000000 in
theorem s_ln (t : ByteArray) (w : World) (hs : t.size ≤ 70000) :
    Calls Tryz.prog 176 #[.string t] w fun e w' => NumV t e ∧ Below w.heap.size w w' := by
  obtain ⟨V0, hV0⟩ : ∃ Q, w.alloc (.cells #[.int .i64 0, .int .i64 0, .string ⟨#[]⟩] 31) = Q := ⟨_, rfl⟩
  have b0 : Below w.heap.size w V0 := by rw [← hV0]; exact (Below.refl _ _).alloc (Nat.le_refl _) _
  have X0 : Hid (Box V0 w.heap.size 31 #[.int .i64 0, .int .i64 0, .string ⟨#[]⟩]) := by unfold Hid; rw [← hV0]; exact Box.new _ _ _
  have C := s_l00 t V0 hs
  have B0 : Hid (Below w.heap.size w V0) := b0
  clear b0
  go_enter Tryz.func176, Tryz.ntmps176
  go_wp2_with fail
  refine C.mono ?_
  rintro e w1 ⟨⟨z, b, rfl, hb, hz⟩, hb1⟩
  have X1 : Hid (Box w1 w.heap.size 31 #[.int .i64 0, .int .i64 0, .string ⟨#[]⟩]) := X0.out.belowS hb1
  have B1 : Hid (Below w.heap.size w w1) := B0.out.trans (hb1.mono B0.out.size)
  have HR : Hid ((b && inB z (-1000000000) 1000000000) = (numB t).isSome ∧ ∀ m, numB t = some m → z = m) := ⟨hb, hz⟩
  clear C hb1 hb hz hV0 X0 B0
  go_wp2_with fail
  obtain ⟨V1, hV1⟩ : ∃ Q, w1.alloc (.cells #[.int .i64 1, .int .i64 z, .string ⟨#[]⟩] 31) = Q := ⟨_, rfl⟩
  have b2 : Below w1.heap.size w1 V1 := by rw [← hV1]; exact (Below.refl _ _).alloc (Nat.le_refl _) _
  have X2 : Hid (Box V1 w.heap.size 31 #[.int .i64 0, .int .i64 0, .string ⟨#[]⟩]) := X1.out.belowS b2
  have Y2 : Hid (Box V1 w1.heap.size 31 #[.int .i64 1, .int .i64 z, .string ⟨#[]⟩]) := by unfold Hid; rw [← hV1]; exact Box.new _ _ _
  have B2 : Hid (Below w.heap.size w V1) := B1.out.trans (b2.mono B1.out.size)
  have PK : Hid (∀ W, Calls Tryz.prog 144 #[.agg #[.int .i64 1, .int .i64 z, .string ⟨#[]⟩]] W fun e w' => e = .returned (.bool (inB z (-1000000000) 1000000000)) ∧ Below W.heap.size W w') := fun W => by
    have := c_specOK 1 z ⟨#[]⟩ W (by decide)
    rwa [val1, emptyL, show (List.isEmpty ([] : List UInt8)) = true from rfl, Bool.and_true] at this
  have l1 := X1.out.lt
  have l2 := Y2.out.lt
  have l3 := X2.out.lt
  obtain ⟨p0, p1, p2⟩ := box3 X2.out
  obtain ⟨q0, q1, q2⟩ := box3 Y2.out
  have t0 := X2.out.thaw 0
  have t1 := X2.out.thaw 1
  have t2 := X2.out.thaw 2
  obtain ⟨y, hy⟩ : ∃ y, inB z (-1000000000) 1000000000 = y := ⟨_, rfl⟩
  rw [hy] at PK HR
  rw [hV1]
  clear b2 hy X1 hV1
  cases b with
  | false =>
    go_region_with fail
    all_goals
      go_wp2
      refine retV2 (v := .bool false) rfl rfl rfl rfl (put3_box X2.out _ _ _) ⟨⟨z, by rw [← HR.out.1]; rfl, HR.out.2⟩, put3_below B2.out.drew (Nat.le_refl _) _ _ _⟩
  | true =>
    go_region_held3 (fun x => x.cell? ⟨w1.heap.size, 0, none⟩ = some (.int .i64 1) ∧ x.cell? ⟨w1.heap.size, 1, none⟩ = some (.int .i64 z) ∧ x.cell? ⟨w1.heap.size, 2, none⟩ = some (.string ⟨#[]⟩)) (first | go_keep)
      (first | (go_at_call 144; refine (PK.out _).mono ?_; rintro e w4 ⟨rfl, hb4⟩
                have X4 : Hid (Box w4 w.heap.size 31 #[.int .i64 0, .int .i64 0, .string ⟨#[]⟩]) := (hb4.block w.heap.size l3).trans X2.out
                have B4 : Hid (Below w.heap.size w w4) := (below_drewN B2.out _).trans (hb4.mono B2.out.size)
                have z0 := far6 hb4 q0
                have z1 := far6 hb4 q1
                have z2 := far6 hb4 q2
                obtain ⟨s0, s1, s2⟩ := box3 X4.out
                have o0 := X4.out.thaw 0
                have o1 := X4.out.thaw 1
                have o2 := X4.out.thaw 2
                have sl : w.heap.size ≠ w1.heap.size := by omega
                clear hb4))
    all_goals
      go_wp2
      refine retV2 (v := .bool y) rfl rfl rfl rfl (put3_box X4.out _ _ _) ⟨⟨z, by rw [← HR.out.1]; rfl, HR.out.2⟩, put3_below B4.out (Nat.le_refl _) _ _ _⟩
set_option maxRecDepth 100000 in
set_option maxHeartbeats 8000000 in
theorem s_lv (t : ByteArray) (w : World) (ht : Tok t) :
    Calls Tryz.prog 143 #[.string t] w fun e w' => ValV t e ∧ Below w.heap.size w w' := by
  obtain ⟨V0, hV0⟩ : ∃ Q, w.alloc (.cells #[.int .i64 0, .int .i64 0, .string ⟨#[]⟩] 31) = Q := ⟨_, rfl⟩
  have b0 : Below w.heap.size w V0 := by rw [← hV0]; exact (Below.refl _ _).alloc (Nat.le_refl _) _
  have X0 : Hid (Box V0 w.heap.size 31 #[.int .i64 0, .int .i64 0, .string ⟨#[]⟩]) := by unfold Hid; rw [← hV0]; exact Box.new _ _ _
  have B0 : Hid (Below w.heap.size w V0) := b0
  have HTK : Hid (Tok t) := ht
  by_cases hn : t = wNull
  · subst hn
    have E : Hid (valT wNull = some ⟨0, 0, ⟨#[]⟩⟩) := rfl
    clear hV0 b0
    unfold wNull
    go_enter Tryz.func143, Tryz.ntmps143
    go_wp2
    refine retV2 (v := .bool true) rfl rfl rfl rfl (Box.new _ _ _) ⟨⟨0, 0, ⟨#[]⟩, by rw [show (valT ⟨#[110, 117, 108, 108]⟩) = some ⟨0, 0, ⟨#[]⟩⟩ from E.out]; rfl, fun v hv => by rw [show (valT ⟨#[110, 117, 108, 108]⟩) = some ⟨0, 0, ⟨#[]⟩⟩ from E.out] at hv; exact (Option.some.inj hv).symm⟩, (Below.refl _ _).alloc (Nat.le_refl _) _⟩
  · have qn : (t.toList == [110, 117, 108, 108]) = false := by
      rw [toList_data]
      simp only [beq_eq_false_iff_ne, ne_eq]
      intro e
      exact hn (ba_eq0 (Array.toList_inj.1 e))
    by_cases hq : by8 t 0 = 39
    · obtain ⟨s1, s2⟩ := ht.quote hq
      obtain ⟨s, hs⟩ : ∃ s, inQ t = s := ⟨_, rfl⟩
      have hx : t.extract 1 (t.size - 1) = s := hs
      have ss : s.size ≤ maxLen := by
        rw [← hs]; unfold inQ; rw [ByteArray.size_extract]; have := ht.size; unfold maxLen; omega
      obtain ⟨y, hy⟩ : ∃ y, wordB s = y := ⟨_, rfl⟩
      have PK : Hid (∀ W, Calls Tryz.prog 144 #[.agg #[.int .i64 2, .int .i64 0, .string s]] W fun e w' => e = .returned (.bool y) ∧ Below W.heap.size W w') := fun W => by
        have := c_specOK 2 0 s W ss
        rwa [val2, hy, show ((0 : Int) == 0) = true from rfl, Bool.true_and] at this
      have E : Hid (valT t = if y then some ⟨2, 0, s⟩ else none) := by
        unfold Hid valT; rw [if_neg hn, if_pos hq, hs, hy]
      have hp0 : 0 < t.size := by omega
      have m1 : ((((t[0]'hp0).toNat : Nat) : Int) == 39) = true := by rw [← by8_eq t 0 hp0, hq]; rfl
      have m2 : (2 : Int) ≤ (t.size : Int) := by omega
      have tz := ht.size
      have m3 : IntKind.i64.wrap ((t.size : Int) - 1) = (t.size : Int) - 1 := by simp [IntKind.wrap_i64]; omega
      have m4 : (1 : Int) ≤ (t.size : Int) - 1 := by omega
      have m5 : (t.size : Int) - 1 ≤ (t.size : Int) := by omega
      clear hs hy hn hq ht b0 s1
      go_enter Tryz.func143, Tryz.ntmps143
      go_wp2_with fail
      clear hV0
      obtain ⟨V1, hV1⟩ : ∃ Q, V0.alloc (.cells #[.int .i64 2, .int .i64 0, .string s] 31) = Q := ⟨_, rfl⟩
      have b2 : Below V0.heap.size V0 V1 := by rw [← hV1]; exact (Below.refl _ _).alloc (Nat.le_refl _) _
      have X2 : Hid (Box V1 w.heap.size 31 #[.int .i64 0, .int .i64 0, .string ⟨#[]⟩]) := X0.out.belowS b2
      have Y2 : Hid (Box V1 V0.heap.size 31 #[.int .i64 2, .int .i64 0, .string s]) := by unfold Hid; rw [← hV1]; exact Box.new _ _ _
      have B2 : Hid (Below w.heap.size w V1) := B0.out.trans (b2.mono B0.out.size)
      have l1 := X0.out.lt
      have l2 := Y2.out.lt
      have l3 := X2.out.lt
      obtain ⟨p0, p1, p2⟩ := box3 X2.out
      obtain ⟨q0, q1, q2⟩ := box3 Y2.out
      have t0 := X2.out.thaw 0
      have t1 := X2.out.thaw 1
      have t2 := X2.out.thaw 2
      rw [hV1]
      clear b2 hV1 X0 B0
      go_region_held3 (fun x => x.cell? ⟨V0.heap.size, 0, none⟩ = some (.int .i64 2) ∧ x.cell? ⟨V0.heap.size, 1, none⟩ = some (.int .i64 0) ∧ x.cell? ⟨V0.heap.size, 2, none⟩ = some (.string s)) (first | go_keep)
        (first | (go_at_call 144; refine (PK.out _).mono ?_; rintro e w4 ⟨rfl, hb4⟩
                  have X4 : Hid (Box w4 w.heap.size 31 #[.int .i64 0, .int .i64 0, .string ⟨#[]⟩]) := (hb4.block w.heap.size l3).trans X2.out
                  have B4 : Hid (Below w.heap.size w w4) := (below_drewN B2.out _).trans (hb4.mono B2.out.size)
                  have z0 := far6 hb4 q0
                  have z1 := far6 hb4 q1
                  have z2 := far6 hb4 q2
                  obtain ⟨s0, s1, s2⟩ := box3 X4.out
                  have o0 := X4.out.thaw 0
                  have o1 := X4.out.thaw 1
                  have o2 := X4.out.thaw 2
                  have sl : w.heap.size ≠ V0.heap.size := by omega
                  clear hb4))
      all_goals
        go_wp2
        refine retV2 (v := .bool y) rfl rfl rfl rfl (put3_box X4.out _ _ _) ⟨⟨2, 0, s, by rw [E.out]; cases y <;> rfl, fun v hv => by rw [E.out] at hv; cases y <;> first | exact (Option.some.inj hv).symm | cases hv⟩, put3_below B4.out (Nat.le_refl _) _ _ _⟩
    · have C2 := s_ln t V0 (by have := ht.size; omega)
      have E : Hid (valT t = match numB t with | some n => some ⟨1, n, ⟨#[]⟩⟩ | none => none) := by
        unfold Hid valT; rw [if_neg hn, if_neg hq]; rfl
      by_cases hz : 2 ≤ t.size
      · have hp0 : 0 < t.size := by omega
        have m1 : ((((t[0]'hp0).toNat : Nat) : Int) == 39) = false := by rw [← by8_eq t 0 hp0]; exact beq_eq_false_iff_ne.2 hq
        have m2 : (2 : Int) ≤ (t.size : Int) := by omega
        clear hn hq ht b0 hz
        go_enter Tryz.func143, Tryz.ntmps143
        go_wp2_with fail
        clear hV0
        refine C2.mono ?_
        rintro e w2 ⟨⟨z, rfl, hz⟩, hb2⟩
        have X2 : Hid (Box w2 w.heap.size 31 #[.int .i64 0, .int .i64 0, .string ⟨#[]⟩]) := X0.out.belowS hb2
        have B2 : Hid (Below w.heap.size w w2) := B0.out.trans (hb2.mono B0.out.size)
        have HZ : Hid (∀ m, numB t = some m → z = m) := hz
        obtain ⟨p0, p1, p2⟩ := box3 X2.out
        have t0 := X2.out.thaw 0
        have t1 := X2.out.thaw 1
        have t2 := X2.out.thaw 2
        obtain ⟨y, hy⟩ : ∃ y, (numB t).isSome = y := ⟨_, rfl⟩
        have HY : Hid ((numB t).isSome = y) := hy
        rw [hy]
        clear C2 hb2 hz X0 B0 hy
        go_wp2
        refine retV2 (v := .bool y) rfl rfl rfl rfl (put3_box X2.out _ _ _) ⟨⟨1, z, ⟨#[]⟩, ?_, ?_⟩, put3_below B2.out (Nat.le_refl _) _ _ _⟩
        · rw [E.out, ← HY.out]; cases numB t <;> rfl
        · intro v hv
          rw [E.out] at hv
          cases hm : numB t with
          | none => rw [hm] at hv; cases hv
          | some m => rw [hm] at hv; rw [HZ.out m hm]; exact (Option.some.inj hv).symm
      · have m2 : ¬ (2 : Int) ≤ (t.size : Int) := by omega
        clear hn hq ht b0 hz
        go_enter Tryz.func143, Tryz.ntmps143
        go_wp2_with fail
        clear hV0
        refine C2.mono ?_
        rintro e w2 ⟨⟨z, rfl, hz⟩, hb2⟩
        have X2 : Hid (Box w2 w.heap.size 31 #[.int .i64 0, .int .i64 0, .string ⟨#[]⟩]) := X0.out.belowS hb2
        have B2 : Hid (Below w.heap.size w w2) := B0.out.trans (hb2.mono B0.out.size)
        have HZ : Hid (∀ m, numB t = some m → z = m) := hz
        obtain ⟨p0, p1, p2⟩ := box3 X2.out
        have t0 := X2.out.thaw 0
        have t1 := X2.out.thaw 1
        have t2 := X2.out.thaw 2
        obtain ⟨y, hy⟩ : ∃ y, (numB t).isSome = y := ⟨_, rfl⟩
        have HY : Hid ((numB t).isSome = y) := hy
        rw [hy]
        clear C2 hb2 hz X0 B0 hy
        go_wp2
        refine retV2 (v := .bool y) rfl rfl rfl rfl (put3_box X2.out _ _ _) ⟨⟨1, z, ⟨#[]⟩, ?_, ?_⟩, put3_below B2.out (Nat.le_refl _) _ _ _⟩
        · rw [E.out, ← HY.out]; cases numB t <;> rfl
        · intro v hv
          rw [E.out] at hv
          cases hm : numB t with
          | none => rw [hm] at hv; cases hv
          | some m => rw [hm] at hv; rw [HZ.out m hm]; exact (Option.some.inj hv).symm

end Go.Proofs.YtbpfpjmjmkpjoaaGreatDoor
