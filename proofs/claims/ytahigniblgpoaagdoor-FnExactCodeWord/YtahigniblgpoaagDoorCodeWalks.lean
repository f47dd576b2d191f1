/-
  The walks of CodeWord and CodeOf: the program's, over its table, and the specification's, over its list, answer alike.
-/
import Derived.Test.YtahigniblgpoaagDoorRows
import Derived.WalkKit
import Derived.WalkSpells
import Derived.WalkLawsBesides
import Derived.Laws.Rows
namespace Go.Proofs.YtahigniblgpoaagDoor
open Go Go.RowKit

def words : List ByteArray := [⟨#[111, 107]⟩, ⟨#[98, 97, 100]⟩, ⟨#[108, 111, 110, 103]⟩, ⟨#[102, 111, 114, 109]⟩, ⟨#[114, 97, 110, 103, 101]⟩, ⟨#[110, 111, 110, 101]⟩, ⟨#[109, 97, 110, 121]⟩, ⟨#[102, 117, 108, 108]⟩, ⟨#[115, 117, 109]⟩, ⟨#[116, 119, 105, 99, 101]⟩, ⟨#[116, 121, 112, 101]⟩, ⟨#[122, 101, 114, 111]⟩, ⟨#[111, 118, 101, 114]⟩, ⟨#[119, 97, 105, 116]⟩, ⟨#[100, 101, 97, 100, 108, 111, 99, 107]⟩, ⟨#[100, 111, 119, 110]⟩, ⟨#[100, 101, 112, 116, 104]⟩, ⟨#[107, 101, 121]⟩, ⟨#[99, 111, 108, 117, 109, 110]⟩, ⟨#[116, 120]⟩]
def wordAt (k : Nat) : ByteArray := words.getD k ⟨#[]⟩
def wordOf (c : Int) : ByteArray := if 0 ≤ c ∧ c < 20 then wordAt c.toNat else ⟨#[]⟩
def tbl : Array Value := (words.map Value.string).toArray
/-- The program's table, as the world holds it. -/
def TabS (w : World) : Prop := ∃ t fr, w.heap[0]? = some (.cells tbl t fr)

theorem ret_str {a b : ByteArray} (h : a = b) : Ending.returned (.string a) = .returned (.string b) := by rw [h]
theorem ret_int {a b : Int} (h : a = b) : Ending.returned (.int .i64 a) = .returned (.int .i64 b) := by rw [h]
theorem wordOf_out {c : Int} (h : c < 0 ∨ 20 ≤ c) : wordOf c = ⟨#[]⟩ := by unfold wordOf; rw [if_neg (by omega)]
theorem wordOf_nat {k : Nat} (h : k < 20) : wordOf (k : Int) = wordAt k := by unfold wordOf; rw [if_pos (by omega)]; simp

theorem TabS.cell {w : World} (h : TabS w) (k : Nat) (hk : k < 20) : w.cell? ⟨0, k, none⟩ = some (.string (wordAt k)) := by
  obtain ⟨t, fr, h⟩ := h
  have e : tbl[k]? = some (.string (wordAt k)) := by
    unfold tbl wordAt
    have : k < words.length := hk
    simp [List.getD_eq_getElem?_getD, List.getElem?_eq_getElem this]
  simp [World.cell?, h, e]
theorem TabS.below {w w' : World} (h : TabS w) (hb : Below w.heap.size w w') : TabS w' := by
  obtain ⟨t, fr, h⟩ := h
  have h0 : 0 < w.heap.size := by
    rcases Nat.lt_or_ge 0 w.heap.size with h1 | h1
    · exact h1
    · rw [Array.getElem?_eq_none h1] at h; cases h
  exact ⟨t, fr, by rw [hb.block 0 h0]; exact h⟩

set_option maxHeartbeats 400000 in
theorem c7_out (c : Int) (w : World) (h : c < 0 ∨ 20 ≤ c) :
    Calls Tryd.prog 7 #[.int .i64 c] w fun e w' => e = .returned (.string (wordOf c)) ∧ w' = w := by
  have hw := wordOf_out h
  rcases h with h | h
  · go_enter Tryd.func7, Tryd.ntmps7
    go_wp2
    go_ret
    exact ⟨ret_str hw.symm, rfl⟩
  · have h' : ¬ c < 0 := by omega
    go_enter Tryd.func7, Tryd.ntmps7
    go_wp2
    go_ret
    exact ⟨rfl, rfl⟩

set_option maxHeartbeats 400000 in
theorem c7_in (k : Nat) (hk : k < 20) (w : World) (ht : TabS w) :
    Calls Tryd.prog 7 #[.int .i64 k] w fun e w' => e = .returned (.string (wordOf k)) ∧ w' = w := by
  rw [wordOf_nat hk]
  have hc := ht.cell k hk
  go_enter Tryd.func7, Tryd.ntmps7
  go_wp2
  go_ret
  exact ⟨rfl, rfl⟩

theorem c7 (c : Int) (w : World) (ht : TabS w) :
    Calls Tryd.prog 7 #[.int .i64 c] w fun e w' => e = .returned (.string (wordOf c)) ∧ w' = w := by
  by_cases h : c < 0 ∨ 20 ≤ c
  · exact c7_out c w h
  · obtain ⟨k, rfl⟩ := Int.eq_ofNat_of_zero_le (show 0 ≤ c by omega)
    exact c7_in k (by omega) w ht

set_option maxHeartbeats 400000 in
theorem c6_out (c : Int) (w : World) (h : c < 0 ∨ 20 ≤ c) :
    Calls Tryd.prog 6 #[.int .i64 c] w fun e w' => e = .returned (.string (wordOf c)) ∧ Below w.heap.size w w' := by
  have hw := wordOf_out h
  rcases h with h | h
  · go_enter Tryd.func6, Tryd.ntmps6
    go_wp2
    go_ret
    exact ⟨ret_str hw.symm, (Below.refl _ _).alloc (Nat.le_refl _) _⟩
  · have h' : ¬ c < 0 := by omega
    go_enter Tryd.func6, Tryd.ntmps6
    go_wp2
    go_ret
    exact ⟨rfl, (Below.refl _ _).alloc (Nat.le_refl _) _⟩

set_option maxHeartbeats 4000000 in
theorem c6_in (k : Nat) (hk : k < 20) (w : World) :
    Calls Tryd.prog 6 #[.int .i64 k] w fun e w' => e = .returned (.string (wordAt k)) ∧ Below w.heap.size w w' := by
  rcases k with _ | _ | _ | _ | _ | _ | _ | _ | _ | _ | _ | _ | _ | _ | _ | _ | _ | _ | _ | _ | k
  all_goals try omega
  all_goals
    go_enter Tryd.func6, Tryd.ntmps6
    go_wp2
    go_ret
    exact ⟨rfl, (Below.refl _ _).alloc (Nat.le_refl _) _⟩

theorem c6 (c : Int) (w : World) :
    Calls Tryd.prog 6 #[.int .i64 c] w fun e w' => e = .returned (.string (wordOf c)) ∧ Below w.heap.size w w' := by
  by_cases h : c < 0 ∨ 20 ≤ c
  · exact c6_out c w h
  · obtain ⟨k, rfl⟩ := Int.eq_ofNat_of_zero_le (show 0 ≤ c by omega)
    rw [wordOf_nat (by omega)]
    exact c6_in k (by omega) w

end Go.Proofs.YtahigniblgpoaagDoor
