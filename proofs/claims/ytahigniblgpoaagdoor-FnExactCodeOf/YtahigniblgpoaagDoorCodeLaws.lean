/-
  The walks of the laws of CodeWord and CodeOf, and the loops of CodeOf.
-/
import Derived.Test.YtahigniblgpoaagDoorCodeWalks
namespace Go.Proofs.YtahigniblgpoaagDoor
open Go Go.RowKit

set_option maxHeartbeats 400000 in
theorem c3 (c : Int) (w : World) (ht : TabS w) :
    Calls Tryd.prog 3 #[.int .i64 c] w fun e w' => e = .returned (.bool true) ∧ Below w.heap.size w w' := by
  go_enter Tryd.func3, Tryd.ntmps3
  go_wp2_with fail
  refine (c6 _ _).mono ?_
  rintro e w1 ⟨rfl, hb⟩
  have ht1 := ht.below hb
  go_wp2_with fail
  refine (c7 _ _ ht1).mono ?_
  rintro e w2 ⟨rfl, rfl⟩
  go_wp2
  go_ret
  exact ⟨rfl, hb⟩

/-- The code of a word: its place among the words from place k on, or -1. -/
def lookB : List ByteArray → Nat → ByteArray → Int
  | [], _, _ => -1
  | x :: r, k, s => if x.toList == s.toList then (k : Int) else lookB r (k + 1) s
def codeI (s : ByteArray) : Int := lookB words 0 s
theorem drop_word {k : Nat} (h : k < 20) : words.drop k = wordAt k :: words.drop (k + 1) := by
  have h' : k < words.length := h
  unfold wordAt
  rw [List.drop_eq_getElem_cons h', List.getD_eq_getElem?_getD, List.getElem?_eq_getElem h']
  rfl
theorem look_yes {k : Nat} {s : ByteArray} (h : k < 20) (he : ((wordAt k).toList == s.toList) = true) : lookB (words.drop k) k s = k := by
  rw [drop_word h]; unfold lookB; rw [if_pos he]
theorem look_no {k : Nat} {s : ByteArray} (h : k < 20) (he : ((wordAt k).toList == s.toList) = false) : lookB (words.drop k) k s = lookB (words.drop (k + 1)) (k + 1) s := by
  rw [drop_word h, lookB, if_neg (by rw [he]; decide)]
theorem look_end {k : Nat} {s : ByteArray} (h : 20 ≤ k) : lookB (words.drop k) k s = -1 := by
  rw [List.drop_eq_nil_of_le (show words.length ≤ k from h)]; rfl

set_option maxHeartbeats 400000 in
theorem c8 (s : ByteArray) (w : World) :
    Calls Tryd.prog 8 #[.string s] w fun e w' => e = .returned (.int .i64 (codeI s)) ∧ Below w.heap.size w w' := by
  go_enter Tryd.func8, Tryd.ntmps8
  go_wp2
  go_loopw [3] (fun i wr => ∃ k : Nat, k ≤ 20 ∧ i = .int .i64 k ∧ Hid (lookB (words.drop k) k s = codeI s) ∧ Below w.heap.size w wr) (fun i _ => 20 - (intOf i).toNat)
  case atStart => exact ⟨0, by omega, rfl, rfl, Below.refl _ _⟩
  case round =>
    obtain ⟨k, hk, rfl, HL, hb⟩ := hrel
    by_cases hlt : k < 20
    · go_wp2_with fail
      refine (c6 _ _).mono ?_
      rintro e w1 ⟨rfl, hb1⟩
      have hb2 : Below w.heap.size w w1 := hb.trans (hb1.mono hb.size)
      rw [wordOf_nat hlt]
      cases he : ((wordAt k).toList == s.toList)
      · have HN : Hid (_ = _) := look_no hlt he
        go_wp2
        go_roundw
        case rel => exact ⟨k + 1, by omega, by go_num, HN.out.symm.trans HL.out, hb2⟩
        case measure => simp [intOf]; omega
      · have HN : Hid (_ = _) := look_yes hlt he
        go_wp2
        go_ret
        exact ⟨ret_int (HN.out.symm.trans HL.out), hb2⟩
    · go_wp2
      go_ret
      exact ⟨ret_int ((look_end (by omega)).symm.trans HL.out), hb⟩

theorem idx (k : Nat) (hk : k < 20) (w : World) : (Instr.index 32 (.agg tbl) (.int .i64 k)).run Tryd.prog w = .ok (.string (wordAt k)) w := by
  rcases k with _ | _ | _ | _ | _ | _ | _ | _ | _ | _ | _ | _ | _ | _ | _ | _ | _ | _ | _ | _ | k
  all_goals first | omega | kernel_rfl

set_option maxHeartbeats 400000 in
theorem c9 (s : ByteArray) (w : World) (ht : TabS w) :
    Calls Tryd.prog 9 #[.string s] w fun e w' => e = .returned (.int .i64 (codeI s)) ∧ w' = w := by
  obtain ⟨t, fr, hg⟩ := ht
  go_enter Tryd.func9, Tryd.ntmps9
  go_wp2_with (refine wpList_load_row rfl 32 _ rfl 0 rfl t tbl fr _ hg Tryd.underlying32 rfl (by kernel_rfl) ?_)
  go_loop [6] (fun i => ∃ k : Nat, k ≤ 20 ∧ i = .int .i64 k ∧ Hid (lookB (words.drop k) k s = codeI s)) (fun i => 20 - (intOf i).toNat)
  case atStart => exact ⟨0, by omega, rfl, rfl⟩
  case round =>
    obtain ⟨k, hk, rfl, HL⟩ := hrel
    by_cases hlt : k < 20
    · have hi := idx k hlt
      cases he : ((wordAt k).toList == s.toList)
      · have HN : Hid (_ = _) := look_no hlt he
        go_wp2
        go_round
        case rel => exact ⟨k + 1, by omega, by go_num, HN.out.symm.trans HL.out⟩
        case measure => simp [intOf]; omega
      · have HN : Hid (_ = _) := look_yes hlt he
        go_wp2
        go_ret
        exact ⟨ret_int (HN.out.symm.trans HL.out), rfl⟩
    · go_wp2
      go_ret
      exact ⟨ret_int ((look_end (by omega)).symm.trans HL.out), rfl⟩

set_option maxHeartbeats 400000 in
theorem c4 (s : ByteArray) (w : World) (hs : s.size ≤ maxLen) (ht : TabS w) :
    Calls Tryd.prog 4 #[.string s] w fun e w' => e = .returned (.bool true) ∧ Below w.heap.size w w' := by
  unfold maxLen at hs
  by_cases h : 1048576 < s.size
  · go_enter Tryd.func4, Tryd.ntmps4
    go_wp2
    go_ret
    exact ⟨rfl, Below.refl _ _⟩
  · go_enter Tryd.func4, Tryd.ntmps4
    go_wp2_with fail
    refine (c8 _ _).mono ?_
    rintro e w1 ⟨rfl, hb⟩
    have ht1 := ht.below hb
    go_wp2_with fail
    refine (c9 _ _ ht1).mono ?_
    rintro e w2 ⟨rfl, rfl⟩
    go_wp2
    go_ret
    exact ⟨rfl, hb⟩
end Go.Proofs.YtahigniblgpoaagDoor
