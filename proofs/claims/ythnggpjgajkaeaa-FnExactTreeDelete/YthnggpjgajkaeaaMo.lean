/-
  How a tree that came in is read.
-/
import Derived.Test.YthnggpjgajkaeaaTn
import Derived.Test.YthnggpjgajkaeaaRows
import Derived.ProofKit
import Derived.OpenShut
import Derived.SliceStrings
import Derived.ChangeSlices
import Derived.Lib.SmallJoins
import Derived.Deep.Slices
import Derived.Deep.Strs
namespace Go.Proofs.Ythnggpjgajkaeaa
open Go Go.RowKit Go.ChangeShapes Go.WideShapes Go.Deep Go.WideElems

theorem cells3i : Try.prog.cellsOf 3 = 1 := by kernel_rfl
theorem cells4i : Try.prog.cellsOf 4 = 1 := by kernel_rfl
theorem cells23i : Try.prog.cellsOf 23 = 1 := by kernel_rfl
theorem cells70i : Try.prog.cellsOf 70 = 1 := by kernel_rfl
theorem cells44i : Try.prog.cellsOf 44 = 1 := by kernel_rfl
theorem cells9i : Try.prog.cellsOf 9 = 1 := by kernel_rfl
theorem cells104i : Try.prog.cellsOf 104 = 3 := by kernel_rfl
theorem rdV_of_row {α : Type} {w : World} {x : Addr} {len : Nat} {zs : List α} (f : α → Value) (d : α) (hl : len ≤ zs.length) (hcell : ∀ i, i < zs.length → w.cell? (x.add i) = some (f (zs.getD i d))) : RdV w (some x) len ((zs.take len).map f) := by
  refine ⟨by simp; omega, fun h => ?_⟩
  obtain ⟨b, off, spot⟩ := x
  have hc := hcell 0 (by omega)
  have hspot : spot = none := by simpa [Addr.add] using World.cell?_spot hc
  subst hspot
  refine ⟨b, off, rfl, World.block_lt_of_cell? w ⟨b, off, none⟩ (by have := hc; rwa [addr_add] at this), fun i hi => ?_⟩
  have := hcell i (by omega)
  rw [addr_add] at this
  rw [this, map_get f (zs.take len) d i (by simp; omega), List.getD_eq_getElem?_getD, List.getD_eq_getElem?_getD, List.getElem?_take_of_lt hi]
theorem open_texts {H : Type} {enc : TypeId × Value → H} {w : World} {base : Nat} {spare : Nat → Bool} {held : Bool} {fuel : Nat} {v : Value} {x : DataW H × List MemPlace} (h : DataW.trod enc Try.prog w base spare held fuel 23 [v] = some x) :
    ∃ a n c, ∃ ss : List ByteArray, v = .slice a n c ∧ RdV w a n (ss.map Value.string) ∧ n ≤ maxLen ∧ ∀ s ∈ ss, s.size ≤ maxLen := by
  rcases open_strings Try.underlying23 Try.underlying9 (by kernel_rfl) h with ⟨hcs, _⟩ | ⟨x, l, c, ss, hcs, _, hl, hm, hz, _, hcell, hwz⟩
  · simp at hcs
    exact ⟨none, 0, 0, [], hcs, ⟨rfl, fun h => absurd h (by omega)⟩, by unfold maxLen; omega, fun _ h => by cases h⟩
  · simp at hcs
    exact ⟨some x, l, c, _, hcs, rdV_of_row Value.string _ (by rw [hz]; split <;> omega) hcell, by omega, fun s h => hwz s (List.mem_of_mem_take h)⟩
theorem open_numbers {H : Type} {enc : TypeId × Value → H} {w : World} {base : Nat} {spare : Nat → Bool} {held : Bool} {fuel : Nat} {v : Value} {x : DataW H × List MemPlace} (h : DataW.trod enc Try.prog w base spare held fuel 70 [v] = some x) :
    ∃ a n c, ∃ zs : List Int, v = .slice a n c ∧ RdV w a n (zs.map (Value.int .i64)) ∧ n ≤ maxLen := by
  rcases open_ints Try.underlying70 Try.underlying3 (by kernel_rfl) h with ⟨hcs, _⟩ | ⟨x, l, c, zs, hcs, _, hl, hm, hz, _, hcell, hwz⟩
  · simp at hcs
    exact ⟨none, 0, 0, [], hcs, ⟨rfl, fun h => absurd h (by omega)⟩, by unfold maxLen; omega⟩
  · simp at hcs
    exact ⟨some x, l, c, _, hcs, rdV_of_row (Value.int .i64) _ (by rw [hz]; split <;> omega) hcell, by omega⟩
def BigN (v : TNode) : Prop := v.kn ≤ maxLen ∧ (∀ s ∈ v.ks, s.size ≤ maxLen) ∧ v.im ≤ maxLen
set_option maxRecDepth 100000 in
theorem open_tnodes {H : Type} {enc : TypeId × Value → H} {w : World} {base : Nat} {spare : Nat → Bool} {held : Bool} {fuel : Nat} {cs : List Value} {x : DataW H × List MemPlace}
    (h : DataW.trod enc Try.prog w base spare held fuel 44 cs = some x) :
    cs = [.slice none 0 0] ∨ ∃ (a : Addr) (len cap : Nat) (vs : List TNode), cs = [.slice (some a) len cap] ∧ len ≤ maxLen ∧ RdN w (some a) len vs ∧ ∀ i, i < len → BigN (vs.getD i zeroN) := by
  rcases Go.Deep.open_slice Try.underlying44 h with ⟨h0, _⟩ | ⟨a, len, cap, m, n, D, Pl, hcs, hb, hl, hm, he, hx, hc⟩
  · exact .inl h0
  · right
    have hlm : len ≤ m := by rw [he]; split <;> omega
    have hone' : ∀ i, i < len → ∃ v : TNode, (∀ j, j < 3 → w.cell? (a.add (i * 3 + j)) = (cN v)[j]?) ∧ InN w v ∧ BigN v := by
      intro i hi
      obtain ⟨cs', h1, h2⟩ := hc i (by omega)
      rw [cells104i] at h1
      obtain ⟨_, hl3, hg⟩ := World.cells?_some h1
      obtain ⟨xs, n', _, _, _, hlen, hff⟩ := DataW.trod_struct Try.underlying104 h2
      match cs', hl3 with
      | [c0, c1, c2], _ =>
        have g : ∀ i, i < 3 → ∃ y, xs[i]? = some y := fun i hi => ⟨_, List.getElem?_eq_getElem (by rw [hlen]; exact hi)⟩
        obtain ⟨y0, hy0⟩ := g 0 (by omega)
        obtain ⟨k0, e0, _⟩ := DataW.trod_bool Try.underlying4 ((hff 0 _ rfl).trans hy0)
        obtain ⟨y1, hy1⟩ := g 1 (by omega)
        have h23 := (hff 1 _ rfl).trans hy1
        obtain ⟨y2, hy2⟩ := g 2 (by omega)
        have h70 := (hff 2 _ rfl).trans hy2
        simp [cells23i] at h23
        simp [cells70i] at h70
        obtain ⟨a1, n1, q1, ss, e1, r1, m1, s1⟩ := open_texts (v := c1) h23
        obtain ⟨a2, n2, q2, zs, e2, r2, m2⟩ := open_numbers (v := c2) h70
        simp [cells4i] at e0
        subst e0 e1 e2
        refine ⟨⟨k0, a1, n1, q1, ss, a2, n2, q2, zs⟩, fun j hj => ?_, ⟨r1, r2⟩, m1, s1, m2⟩
        have q := hg j (by omega)
        rw [Go.Deep.add_add] at q
        rw [q]
        rfl
    haveI : Inhabited TNode := ⟨zeroN⟩
    obtain ⟨f, hf⟩ := Go.Deep.choose_lt (α := TNode) hone'
    have hd : ∀ i, i < len → ((List.range len).map f).getD i zeroN = f i := fun i hi => by rw [List.getD_eq_getElem?_getD, List.getElem?_map, List.getElem?_range hi]; rfl
    refine ⟨a, len, cap, (List.range len).map f, hcs, by omega, ⟨by simp, fun hpos => ?_, fun i hi => by rw [hd i hi]; exact (hf i hi).2.1⟩, fun i hi => by rw [hd i hi]; exact (hf i hi).2.2⟩
    obtain ⟨b, off, spot⟩ := a
    have hc0 := (hf 0 hpos).1 0 (by omega)
    have hspot : spot = none := by simpa [Addr.add] using World.cell?_spot (hc0.trans (show (cN (f 0))[0]? = some (.bool (f 0).lf) from rfl))
    subst hspot
    refine ⟨b, off, rfl, World.block_lt_of_cell? w ⟨b, off, none⟩ (by have := hc0.trans (show (cN (f 0))[0]? = some (.bool (f 0).lf) from rfl); rwa [addr_add, show off + (0 * 3 + 0) = off by omega] at this), fun i hi => ?_⟩
    rw [hd i hi]
    have hg := fun j hj => (hf i hi).1 j hj
    have g0 := hg 0 (by omega)
    have g1 := hg 1 (by omega)
    have g2 := hg 2 (by omega)
    rw [addr_add, ← Nat.add_assoc] at g0 g1 g2
    exact ⟨g0, g1, g2⟩
set_option maxRecDepth 100000 in
theorem open_tree {H : Type} {enc : TypeId × Value → H} {w : World} {held : Bool} {r : Reach} {b0 : Nat} {v : Value} {d : DataW H} {p : List MemPlace} (hv : Value.okWide Try.prog w r b0 46 v) (h : DataW.Trod enc Try.prog w 0 (fun _ => true) held 46 v d p) :
    ∃ (ro : Int) (a : Option Addr) (n c : Nat) (vs : List TNode), v = .agg #[.int .i64 ro, .slice a n c] ∧ n ≤ maxLen ∧ RdN w a n vs ∧ ∀ i, i < n → BigN (vs.getD i zeroN) := by
  obtain ⟨cs, rfl, hsz⟩ := okWide_struct Try.underlying46 hv
  have hsz1 : cs.size = 2 := hsz.trans (by kernel_rfl)
  obtain ⟨l⟩ := cs
  match l, hsz1 with
  | [c0, c1], _ =>
    obtain ⟨fuel, hf⟩ := h
    obtain ⟨xs, n, _, _, _, hlen, hff⟩ := DataW.trod_struct Try.underlying46 hf
    have g : ∀ i, i < 2 → ∃ y, xs[i]? = some y := fun i hi => ⟨_, List.getElem?_eq_getElem (by rw [hlen]; exact hi)⟩
    obtain ⟨y0, hy0⟩ := g 0 (by omega)
    obtain ⟨y1, hy1⟩ := g 1 (by omega)
    obtain ⟨k0, e0, _, _⟩ := DataW.trod_int Try.underlying3 ((hff 0 _ rfl).trans hy0)
    have t1 := (hff 1 _ rfl).trans hy1
    simp [Value.cells, cells3i] at e0
    subst e0
    rcases open_tnodes t1 with h1 | ⟨a, len, cap, vs, hcs, hm, hr, hz⟩
    · simp [Value.cells, cells44i] at h1
      subst h1
      exact ⟨k0, none, 0, 0, [], rfl, by unfold maxLen; omega, ⟨rfl, fun h => absurd h (by omega), fun i hi => absurd hi (by omega)⟩, fun i hi => absurd hi (by omega)⟩
    · simp [Value.cells, cells44i] at hcs
      subst hcs
      exact ⟨k0, some a, len, cap, vs, rfl, hm, hr, hz⟩
end Go.Proofs.Ythnggpjgajkaeaa
