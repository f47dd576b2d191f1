/-
  Numbers by their texts: the program's reader.
-/
import Derived.Test.YtbpfpjmjmkpjoaaGreatDoorQl
import Derived.Test.YtbpfpjmjmkpjoaaGreatDoorZmj
import Derived.Test.YtbpfpjmjmkpjoaaGreatDoorVal
import Derived.Lib.AtoiErrMem
import Derived.Test.YtbpfpjmjmkpjoaaGreatDoorVu
namespace Go.Proofs.YtbpfpjmjmkpjoaaGreatDoor
open Go Go.RowKit
attribute [local go_sem ↓] Go.wp_at_zero Go.wp_at_succ

set_option linter.unusedVariables false
set_option linter.unusedSimpArgs false
/-- What Atoi tells: a number and no error, or an error. -/
def AtoA (t : ByteArray) (e : Ending) : Prop :=
  ∃ (z : Int) (x : Value), e = .returned (.tuple #[.int .i64 z, x]) ∧ -9223372036854775808 ≤ z ∧ z ≤ 9223372036854775807 ∧
    ((x = .nilIface ∧ Lib.atoiAll t.data.toList = .ok z) ∨ ((∃ T v, x = .iface T v) ∧ ∀ v, Lib.atoiAll t.data.toList ≠ .ok v))
theorem sat_in (l : List UInt8) : -9223372036854775808 ≤ Lib.atoiSat l ∧ Lib.atoiSat l ≤ 9223372036854775807 := by
  unfold Lib.atoiSat
  cases l with
  | nil => decide
  | cons b r => split <;> omega
theorem c_atoi (t : ByteArray) (w : World) (hs : t.size ≤ 65536) (hE : TabE w) :
    Calls Tryz.prog 164 #[.string t] w fun e w' => AtoA t e ∧ Below w.heap.size w w' := by
  obtain ⟨⟨e1, h1, h2⟩, e2, h3, h4⟩ := hE
  cases hc : Lib.atoiAll t.data.toList with
  | ok v =>
    have C := Any.strconv_Atoi_ok laysAtoi t (by omega) v hc w
    have hb := Lib.atoiAll_bounds hc
    refine Calls.mono C ?_
    rintro e w' ⟨rfl, hw⟩
    refine ⟨⟨v, _, rfl, by omega, by omega, .inl ⟨rfl, hc⟩⟩, ?_⟩
    rcases hw with rfl | ⟨t', rfl⟩
    · exact Below.refl _ _
    · exact Lib.bytesWorld_below w _ _
  | «syntax» =>
    have C := Any.strconv_Atoi_syntax laysAtoi t (by omega) hc e1 w h1 h2
    refine Calls.mono C ?_
    rintro e w' ⟨N, rfl, _, _, hb⟩
    exact ⟨⟨0, _, rfl, by omega, by omega, .inr ⟨⟨_, _, rfl⟩, fun v h => by rw [hc] at h; cases h⟩⟩, hb⟩
  | range =>
    have C := Any.strconv_Atoi_range laysAtoi t (by omega) hc e2 w h3 h4
    refine Calls.mono C ?_
    rintro e w' ⟨N, rfl, _, _, hb⟩
    exact ⟨⟨_, _, rfl, (sat_in _).1, (sat_in _).2, .inr ⟨⟨_, _, rfl⟩, fun v h => by rw [hc] at h; cases h⟩⟩, hb⟩
/-- What is told of a number's text: a number, and whether it is one's own text. -/
def NumA (t : ByteArray) (e : Ending) : Prop :=
  ∃ (z : Int) (b : Bool), e = .returned (.tuple #[.int .i64 z, .bool b]) ∧ (b && inB z (-1000000000) 1000000000) = (numB t).isSome ∧ ∀ m, numB t = some m → z = m

theorem c_itoaA (n : Int) (h0 : -9223372036854775808 ≤ n) (h1 : n ≤ 9223372036854775807) (w : World) (htab : TabP w) :
    Calls Tryz.prog 56 #[.int .i64 n] w fun e w' => e = .returned (.string ⟨(Lib.itoa n).toArray⟩) ∧ Below w.heap.size w w' := by
  refine (Any.strconv_Itoa laysItoa n h0 h1 w htab).mono ?_
  rintro e w' ⟨rfl, k, os, rfl⟩
  exact ⟨rfl, grow_below _ _⟩
theorem trim_len {v : Int} (h0 : -1000000000 ≤ v) (h1 : v ≤ 1000000000) : (Lib.trimPrefix (Lib.itoa v) [45]).length ≤ 18 := by
  have hd : ∀ u : Nat, u ≤ 1000000000 → (Lib.decDigits u).length ≤ 10 := fun u h => nDig_le h
  have hl : ∀ l : List UInt8, l.length ≤ 10 → (Lib.trimPrefix l [45]).length ≤ 18 := fun l h => by
    unfold Lib.trimPrefix; split
    · rw [List.length_drop]; omega
    · omega
  unfold Lib.itoa
  split
  · have h2 : Lib.trimPrefix (45 :: Lib.decDigits (-v).toNat) [45] = Lib.decDigits (-v).toNat := by simp [Lib.trimPrefix, Lib.hasPrefix]
    first
    | (rw [h2]; have := hd (-v).toNat (by omega); omega)
    | (simp [Lib.trimPrefix, Lib.hasPrefix]; have := hd v.natAbs (by omega); omega)
    | (simp [Lib.trimPrefix, Lib.hasPrefix]; have := hd (-v).toNat (by omega); omega)
  · exact hl _ (hd _ (by omega))
theorem num_none {t : ByteArray} {v : Int} (hc : Lib.atoiAll t.data.toList = .ok v) (h : ¬ (Lib.itoa v = t.data.toList ∧ -1000000000 ≤ v ∧ v ≤ 1000000000)) : numB t = none := ((num_atoi t.data.toList).1 v hc).2 h
set_option maxRecDepth 100000 in
set_option maxHeartbeats 8000000 in
theorem c_rnt (t : ByteArray) (w : World) (hs : t.size ≤ 65536) (hE : TabE w) (hP : TabP w) :
    Calls Tryz.prog 135 #[.string t] w fun e w' => NumA t e ∧ Below w.heap.size w w' := by
  have C := c_atoi t w hs hE
  have HP : Hid (TabP w) := hP
  clear hE hP
  go_enter Tryz.func135, Tryz.ntmps135
  go_wp2_with fail
  refine C.mono ?_
  rintro e w1 ⟨⟨z, x, rfl, z0, z1, hx⟩, hb1⟩
  have HB1 : Hid (Below w.heap.size w w1) := hb1
  clear C hb1
  rcases hx with ⟨rfl, hc⟩ | ⟨⟨T9, v9, rfl⟩, hc⟩
  · have C2 := c_itoaA z z0 z1 w1 (HP.out.below HB1.out)
    have HC : Hid (Lib.atoiAll t.data.toList = .ok z) := hc
    clear hc
    by_cases hq : Lib.itoa z = t.data.toList
    · have ht : (⟨(Lib.itoa z).toArray⟩ : ByteArray) = t := by rw [hq]
      rw [ht] at C2
      have q : (t.toList == t.toList) = true := by simp
      obtain ⟨u, hu⟩ : ∃ u : ByteArray, (⟨(Lib.trimPrefix t.data.toList [45]).toArray⟩ : ByteArray) = u := ⟨_, rfl⟩
      have C3 : Hid (∀ W, Calls Tryz.prog 165 #[.string t, .string ⟨#[45]⟩] W fun e w' => e = .returned (.string u) ∧ w' = W) := fun W => by
        have := Any.strings_TrimPrefix laysTrimP t ⟨#[45]⟩ W
        rw [← hu]; exact this
      have us : u.size = (Lib.trimPrefix t.data.toList [45]).length := by rw [← hu]; show (Lib.trimPrefix t.data.toList [45]).toArray.size = _; simp
      have ub : u.size ≤ 70000 := by
        rw [us]; unfold Lib.trimPrefix
        have : t.data.toList.length ≤ 65536 := by rw [Array.length_toList]; exact hs
        split
        · rw [List.length_drop]; omega
        · omega
      have F : Hid (∀ b : Bool, decide ((u.size : Int) ≤ 18) = b → (b && inB z (-1000000000) 1000000000) = (numB t).isSome ∧ ∀ m, numB t = some m → z = m) := by
        intro b hb
        by_cases hin : -1000000000 ≤ z ∧ z ≤ 1000000000
        · have hn : numB t = some z := (num_iff _ z).2 ⟨hq, hin.1, hin.2⟩
          have h18 : u.size ≤ 18 := by rw [us, ← hq]; exact trim_len hin.1 hin.2
          rw [hn, ← hb, decide_eq_true (by omega)]
          exact ⟨by unfold inB; rw [decide_eq_true hin]; rfl, fun m hm => Option.some.inj hm⟩
        · have hn : numB t = none := num_none HC.out fun h => hin h.2
          rw [hn]
          exact ⟨by unfold inB; rw [decide_eq_false hin, Bool.and_false]; rfl, fun m hm => by cases hm⟩
      clear hu us hq ht
      go_wp2_with fail
      refine C2.mono ?_
      rintro e w2 ⟨rfl, hb2⟩
      have HB2 : Hid (Below w.heap.size w w2) := HB1.out.trans (hb2.mono HB1.out.size)
      have C4 := C3.out w2
      clear C2 hb2 C3
      go_wp2_with fail
      refine C4.mono ?_
      rintro e w3 ⟨rfl, rfl⟩
      go_wp2
      go_ret2
      exact ⟨⟨z, decide ((u.size : Int) ≤ 18), rfl, (F.out _ rfl).1, (F.out _ rfl).2⟩, HB2.out⟩
    · obtain ⟨u, hu⟩ : ∃ u : ByteArray, (⟨(Lib.itoa z).toArray⟩ : ByteArray) = u := ⟨_, rfl⟩
      rw [hu] at C2
      have q : (u.toList == t.toList) = false := by
        rw [toList_data, toList_data, ← hu]
        simpa using hq
      have E : Hid (numB t = none) := num_none HC.out fun h => hq h.1
      clear hu hq
      go_wp2_with fail
      refine C2.mono ?_
      rintro e w2 ⟨rfl, hb2⟩
      have HB2 : Hid (Below w.heap.size w w2) := HB1.out.trans (hb2.mono HB1.out.size)
      clear C2 hb2
      go_wp2
      go_ret2
      exact ⟨⟨_, _, rfl, by rw [E.out]; rfl, fun m hm => by rw [E.out] at hm; cases hm⟩, HB2.out⟩
  · have E : Hid (numB t = none) := (num_atoi t.data.toList).2 hc
    go_wp2
    go_ret2
    exact ⟨⟨_, _, rfl, by rw [E.out]; rfl, fun m hm => by rw [E.out] at hm; cases hm⟩, HB1.out⟩

end Go.Proofs.YtbpfpjmjmkpjoaaGreatDoor
