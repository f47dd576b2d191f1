/-
  Walks over slices of bytes and of strings: copies, comparisons, sizes, marks.
-/
import Derived.Test.YtbpfpjmjmkpjoaaGreatDoorBa
import Derived.WalkKit
import Derived.WalkSpells
import Derived.WalkLawsBesides
import Derived.Deep.QuietTactic
import Derived.BigQuiet
namespace Go.Proofs.YtbpfpjmjmkpjoaaGreatDoor
open Go Go.RowKit

/-- The slice at a, of n elements of one cell each, reads as xs. -/
def RdV (w : World) (a : Option Addr) (n : Nat) (xs : List Value) : Prop :=
  xs.length = n ∧ (0 < n → ∃ b off, a = some ⟨b, off, none⟩ ∧ b < w.heap.size ∧ ∀ i, i < n → w.cell? ⟨b, off + i, none⟩ = xs[i]?)
theorem RdV.below {w w' : World} {a : Option Addr} {n : Nat} {xs : List Value} (h : RdV w a n xs) (hb : Below w.heap.size w w') : RdV w' a n xs := by
  obtain ⟨h1, h3⟩ := h
  refine ⟨h1, fun hn => ?_⟩
  obtain ⟨b, off, e, hlt, hc⟩ := h3 hn
  exact ⟨b, off, e, Nat.lt_of_lt_of_le hlt hb.size, fun i hi => (hb.cell (p := ⟨b, off + i, none⟩) hlt).trans (hc i hi)⟩
theorem RdV.grown {w w' : World} {row : Option Nat} {a : Option Addr} {n : Nat} {xs : List Value} (h : RdV w a n xs) (hg : w.grownBy w' row) (hne : ∀ x, a = some x → some x.block ≠ row) : RdV w' a n xs := by
  obtain ⟨h1, h3⟩ := h
  refine ⟨h1, fun hn => ?_⟩
  obtain ⟨b, off, e, hlt, hc⟩ := h3 hn
  exact ⟨b, off, e, Nat.lt_of_lt_of_le hlt hg.size, fun i hi => (World.cell?_of_block (hg.block b hlt (hne _ e))).trans (hc i hi)⟩
/-- A row of the call's own reads so. -/
theorem RdV.own {w : World} {base e n : Nat} {a : Option Addr} {m cap : Nat} {xs : List Value} (h : w.ownsRow base e 1 (.slice a m cap) n xs) : RdV w a m xs := by
  have hl : xs.length = n := by have := h.1; simpa using this
  rcases h.2 with ⟨hv, h0⟩ | ⟨g, cap', cur, hv, hb, hg, hnc, hcm, hcs, htake⟩
  · simp only [Value.slice.injEq] at hv
    obtain ⟨rfl, rfl, rfl⟩ := hv
    exact ⟨by omega, fun h => absurd h (by omega)⟩
  · simp only [Value.slice.injEq] at hv
    obtain ⟨rfl, rfl, rfl⟩ := hv
    refine ⟨hl, fun _ => ⟨g, 0, rfl, ?_, fun i hi => ?_⟩⟩
    · rcases Nat.lt_or_ge g w.heap.size with h1 | h1
      · exact h1
      · rw [Array.getElem?_eq_none h1] at hg; cases hg
    · rw [Nat.zero_add]; exact h.cellAt i (by omega)
/-- The forms that a row of the call's own takes. -/
theorem own_form {w : World} {base e size n : Nat} {v : Value} {xs : List Value} (h : w.ownsRow base e size v n xs) :
    (v = .slice none 0 0 ∧ n = 0) ∨ ∃ g cap, v = .slice (some ⟨g, 0, none⟩) n cap ∧ base ≤ g ∧ g < w.heap.size := by
  rcases h.2 with h0 | ⟨g, cap, cur, hv, hb, hg, _⟩
  · exact .inl h0
  · refine .inr ⟨g, cap, hv, hb, ?_⟩
    rcases Nat.lt_or_ge g w.heap.size with h1 | h1
    · exact h1
    · rw [Array.getElem?_eq_none h1] at hg; cases hg
theorem below_drewN {B : Nat} {a w : World} (h : Below B a w) (q : Nat) : Below B a (w.drewN q) := ⟨h.os, h.tape, h.output, h.size, h.block⟩
def partV (z : Value) (xs : List Value) (n k : Nat) : List Value := xs.take k ++ List.replicate (n - k) z
theorem partV_zero (z : Value) (hz : z.cells = #[z]) (xs : List Value) (n : Nat) : (madeCells z.cells (n * 1)).toList = partV z xs n 0 := by
  rw [Nat.mul_one, hz, toList_madeCells_one]; simp [partV]
theorem partV_step (z : Value) (xs : List Value) (n k : Nat) (v : Value) (hz : xs.length = n) (hk : k < n) (hv : xs[k]? = some v) : (partV z xs n k).set k v = partV z xs n (k + 1) := by
  unfold partV
  have hl : (xs.take k).length = k := by simp; omega
  rw [List.set_append, if_neg (by omega), hl, Nat.sub_self]
  obtain ⟨m, hm⟩ : ∃ m, n - k = m + 1 := ⟨n - k - 1, by omega⟩
  have hm' : n - (k + 1) = m := by omega
  rw [hm, hm', List.replicate_succ, List.set_cons_zero, List.take_add_one, hv, List.append_assoc]
  rfl
theorem partV_full (z : Value) (xs : List Value) (n : Nat) (hz : xs.length = n) : partV z xs n n = xs := by
  unfold partV; rw [List.take_of_length_le (by omega), Nat.sub_self]; simp
theorem map_get {α : Type} (f : α → Value) (l : List α) (d : α) (k : Nat) (h : k < l.length) : (l.map f)[k]? = some (f (l.getD k d)) := by
  rw [List.getElem?_map, List.getElem?_eq_getElem h, List.getD_eq_getElem?_getD, List.getElem?_eq_getElem h]; rfl

/-! ### B -/
theorem infoB : (Tryz.prog.info? 5).map (fun i => (i.zero, i.size, i.bytes)) = some (some (Value.int .u8 0), 1, 1) := by kernel_rfl
def sameToB (zs zs' : List (Int)) (k : Nat) : Prop := ∀ j, j < k → zs.getD j (0) = zs'.getD j (0)
theorem same_allB {zs zs' : List (Int)} (hl : zs.length = zs'.length) (h : sameToB zs zs' zs.length) : zs = zs' := by
  apply List.ext_getElem hl
  intro i h1 h2
  have := h i h1
  rwa [List.getD_eq_getElem?_getD, List.getElem?_eq_getElem h1, List.getD_eq_getElem?_getD, List.getElem?_eq_getElem h2] at this

theorem toList_inj {a b : ByteArray} (h : a.toList = b.toList) : a = b := by
  rw [ByteArray.toList_eq, ByteArray.toList_eq] at h
  cases a; cases b; simp at h; rw [h]

/-! ### S -/
theorem infoS : (Tryz.prog.info? 9).map (fun i => (i.zero, i.size, i.bytes)) = some (some (Value.string ⟨#[]⟩), 1, 16) := by kernel_rfl
def sameToS (zs zs' : List (ByteArray)) (k : Nat) : Prop := ∀ j, j < k → zs.getD j (⟨#[]⟩) = zs'.getD j (⟨#[]⟩)
theorem same_allS {zs zs' : List (ByteArray)} (hl : zs.length = zs'.length) (h : sameToS zs zs' zs.length) : zs = zs' := by
  apply List.ext_getElem hl
  intro i h1 h2
  have := h i h1
  rwa [List.getD_eq_getElem?_getD, List.getElem?_eq_getElem h1, List.getD_eq_getElem?_getD, List.getElem?_eq_getElem h2] at this

end Go.Proofs.YtbpfpjmjmkpjoaaGreatDoor
