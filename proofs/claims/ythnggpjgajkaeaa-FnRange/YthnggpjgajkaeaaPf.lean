/-
  What grows over a level.
-/
import Derived.Test.YthnggpjgajkaeaaPe
namespace Go.Proofs.Ythnggpjgajkaeaa
open Go Go.RowKit
attribute [local go_sem ↓] Go.wp_at_zero Go.wp_at_succ

theorem part_two {most n : Nat} (hm : 3 ≤ most) (hn : 2 ≤ n) : 2 ≤ part most n ∧ (n - part most n = 0 ∨ 2 ≤ n - part most n) := by
  unfold part; split <;> omega
theorem parts_two {most : Nat} (hm : 3 ≤ most) : ∀ (f n d : Nat), 2 ≤ n → d ∈ parts most f n → 2 ≤ d
  | 0, n, d, _, h => by simp [parts] at h
  | f + 1, 0, d, _, h => by simp [parts] at h
  | f + 1, n + 1, d, hn, h => by
    obtain ⟨p1, p2⟩ := part_two (n := n + 1) hm hn
    rw [parts, List.mem_cons] at h
    rcases h with rfl | h
    · exact p1
    · rcases p2 with e | e
      · rw [e, parts_zero] at h; simp at h
      · exact parts_two hm f _ d e h
theorem parts_half {most : Nat} (hm : 3 ≤ most) : ∀ (f n : Nat), 2 ≤ n → n ≤ f → 2 * (parts most f n).length ≤ n
  | 0, n, hn, hf => by omega
  | f + 1, 0, hn, _ => by omega
  | f + 1, n + 1, hn, hf => by
    obtain ⟨p1, p2⟩ := part_two (n := n + 1) hm hn
    obtain ⟨q1, q2, q3⟩ := part_pos (left := n + 1) hm (by omega)
    rw [parts, List.length_cons]
    rcases p2 with e | e
    · rw [e, parts_zero, List.length_nil]; omega
    · have := parts_half hm f (n + 1 - part most (n + 1)) e (by omega); omega
theorem parts_some {most : Nat} {f n : Nat} (hn : 0 < n) (hf : n ≤ f) : 0 < (parts most f n).length := by
  obtain ⟨f', e, _⟩ := parts_step (most := most) hn hf
  rw [e, List.length_cons]; omega
/-- What grows over a level: the places, and what stands there. -/
inductive Grown : List Nat → List ByteArray → List Nat → List (List ByteArray × List Nat) → Prop
  | one {ps : List Nat} {M : List ByteArray} (h : ps.length = 1) : Grown ps M [] []
  | more {ps up qs : List Nat} {M : List ByteArray} {L : List (List ByteArray × List Nat)} (h : 1 < ps.length) (hl : up.length = (parts 5 ps.length ps.length).length) (g : Grown up (upM (parts 5 ps.length ps.length) M) qs L) : Grown ps M (up ++ qs) (upL (parts 5 ps.length ps.length) M ps ++ L)
theorem Lst.over {w : World} {z d p : Nat} {ks : List ByteArray} {us : List Nat} {s : ByteArray} {q : Nat} (h : FlB w z p ks us) (h0 : us[0]? = some q) (hl : us.length ≤ 5) (hq : Lst w z d q s) : Lst w z (d + 1) p s := by
  cases us with
  | nil => simp at h0
  | cons q' us =>
    have e : q' = q := by simpa using h0
    subst e
    exact ⟨ks, q', us, h, by simpa using hl, hq⟩

end Go.Proofs.Ythnggpjgajkaeaa
