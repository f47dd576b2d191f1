/-
  How a log that came in is read.
-/
import Derived.Test.YtimdoaehlciecaaYla
import Derived.ProofKit
import Derived.OpenShut
import Derived.SliceStrings
import Derived.ChangeSlices
import Derived.Lib.SmallJoins
import Derived.Deep.Slices
import Derived.Deep.Strs
namespace Go.Proofs.Ytimdoaehlciecaa
open Go Go.RowKit Go.ChangeShapes Go.WideShapes Go.Deep Go.WideElems

theorem cells3i : Try.prog.cellsOf 3 = 1 := by kernel_rfl
theorem cells9i : Try.prog.cellsOf 9 = 1 := by kernel_rfl
theorem cellsLR : Try.prog.cellsOf 40 = 10 := by kernel_rfl
set_option maxRecDepth 100000 in
theorem recs_of {H : Type} {enc : TypeId × Value → H} {w : World} {held : Bool} {fuel : Nat} {cs : List Value} {x : DataW H × List MemPlace} (h : DataW.trod enc Try.prog w 0 (fun _ => true) held fuel 22 cs = some x) :
    ∃ a n c, ∃ vs : List DR, cs = [.slice a n c] ∧ RdQ w a n vs ∧ n ≤ maxLen ∧ ∀ v ∈ vs, v.b.size ≤ maxLen ∧ v.a.size ≤ maxLen := by
  rcases Go.Deep.open_slice Try.underlying22 h with ⟨h0, _⟩ | ⟨a, len, cap, m, n, D, Pl, hcs, hb, hl, hm, he, hx, hc⟩
  · exact ⟨none, 0, 0, [], h0, ⟨rfl, fun h => absurd h (by omega)⟩, by unfold maxLen; omega, fun _ h => by cases h⟩
  · have hlm : len ≤ m := by rw [he]; split <;> omega
    have hone' : ∀ i, i < len → ∃ v : DR, (∀ j, j < 10 → w.cell? (a.add (i * 10 + j)) = (cQ v)[j]?) ∧ v.b.size ≤ maxLen ∧ v.a.size ≤ maxLen := by
      intro i hi
      obtain ⟨cs', h1, h2⟩ := hc i (by omega)
      rw [cellsLR] at h1
      obtain ⟨_, hl3, hg⟩ := World.cells?_some h1
      obtain ⟨xs, n', _, _, _, hlen, hff⟩ := DataW.trod_struct Try.underlying40 h2
      have g : ∀ i, i < 10 → ∃ y, xs[i]? = some y := fun i hi => ⟨_, List.getElem?_eq_getElem (by rw [hlen]; exact hi)⟩
      match cs', hl3 with
      | [c0, c1, c2, c3, c4, c5, c6, c7, c8, c9], _ =>
        obtain ⟨y0, hy0⟩ := g 0 (by omega)
        obtain ⟨y1, hy1⟩ := g 1 (by omega)
        obtain ⟨y2, hy2⟩ := g 2 (by omega)
        obtain ⟨y3, hy3⟩ := g 3 (by omega)
        obtain ⟨y4, hy4⟩ := g 4 (by omega)
        obtain ⟨y5, hy5⟩ := g 5 (by omega)
        obtain ⟨y6, hy6⟩ := g 6 (by omega)
        obtain ⟨y7, hy7⟩ := g 7 (by omega)
        obtain ⟨y8, hy8⟩ := g 8 (by omega)
        obtain ⟨y9, hy9⟩ := g 9 (by omega)
        obtain ⟨k0, e0, _, _⟩ := DataW.trod_int Try.underlying3 ((hff 0 _ rfl).trans hy0)
        obtain ⟨k1, e1, _, _⟩ := DataW.trod_int Try.underlying3 ((hff 1 _ rfl).trans hy1)
        obtain ⟨k2, e2, _, _⟩ := DataW.trod_int Try.underlying3 ((hff 2 _ rfl).trans hy2)
        obtain ⟨k3, e3, _, _⟩ := DataW.trod_int Try.underlying3 ((hff 3 _ rfl).trans hy3)
        obtain ⟨k4, e4, _, _⟩ := DataW.trod_int Try.underlying3 ((hff 4 _ rfl).trans hy4)
        obtain ⟨k5, e5, _, _⟩ := DataW.trod_int Try.underlying3 ((hff 5 _ rfl).trans hy5)
        obtain ⟨k6, e6, _, _⟩ := DataW.trod_int Try.underlying3 ((hff 6 _ rfl).trans hy6)
        obtain ⟨k7, e7, _, _⟩ := DataW.trod_int Try.underlying3 ((hff 7 _ rfl).trans hy7)
        obtain ⟨k8, e8, _, m8⟩ := DataW.trod_string Try.underlying9 ((hff 8 _ rfl).trans hy8)
        obtain ⟨k9, e9, _, m9⟩ := DataW.trod_string Try.underlying9 ((hff 9 _ rfl).trans hy9)
        simp [cells3i, cells9i] at e0 e1 e2 e3 e4 e5 e6 e7 e8 e9
        subst e0 e1 e2 e3 e4 e5 e6 e7 e8 e9
        have q0 := hg 0 (by omega)
        have q1 := hg 1 (by omega)
        have q2 := hg 2 (by omega)
        have q3 := hg 3 (by omega)
        have q4 := hg 4 (by omega)
        have q5 := hg 5 (by omega)
        have q6 := hg 6 (by omega)
        have q7 := hg 7 (by omega)
        have q8 := hg 8 (by omega)
        have q9 := hg 9 (by omega)
        rw [Go.Deep.add_add] at q0 q1 q2 q3 q4 q5 q6 q7 q8 q9
        refine ⟨⟨k0, k1, k2, k3, k4, k5, k6, k7, k8, k9⟩, fun j hj => ?_, m8, m9⟩
        match j, hj with
        | 0, _ => exact q0
        | 1, _ => exact q1
        | 2, _ => exact q2
        | 3, _ => exact q3
        | 4, _ => exact q4
        | 5, _ => exact q5
        | 6, _ => exact q6
        | 7, _ => exact q7
        | 8, _ => exact q8
        | 9, _ => exact q9
    haveI : Inhabited DR := ⟨zeroR⟩
    obtain ⟨f, hf⟩ := Go.Deep.choose_lt (α := DR) hone'
    refine ⟨some a, len, cap, (List.range len).map f, hcs, ⟨by simp, fun hpos => ?_⟩, by omega, ?_⟩
    · obtain ⟨b, off, spot⟩ := a
      have hc0 := (hf 0 hpos).1 0 (by omega)
      have hspot : spot = none := by simpa [Addr.add] using World.cell?_spot hc0
      subst hspot
      refine ⟨b, off, rfl, World.block_lt_of_cell? w ⟨b, off, none⟩ (by have := hc0; rwa [addr_add, show off + (0 * 10 + 0) = off by omega] at this), fun i hi j hj => ?_⟩
      have hg := (hf i hi).1 j hj
      rw [addr_add, show off + (i * 10 + j) = off + i * 10 + j by omega] at hg
      have hd : ((List.range len).map f).getD i zeroR = f i := by rw [List.getD_eq_getElem?_getD, List.getElem?_map, List.getElem?_range hi]; rfl
      rw [hd]
      exact hg
    · intro v hv
      obtain ⟨i, hi, rfl⟩ := List.mem_map.1 hv
      exact (hf i (List.mem_range.1 hi)).2
theorem open_recs {H : Type} {enc : TypeId × Value → H} {w : World} {held : Bool} {r : Reach} {b0 : Nat} {v : Value} {d : DataW H} {p : List MemPlace} (hv : Value.okWide Try.prog w r b0 22 v) (h : DataW.Trod enc Try.prog w 0 (fun _ => true) held 22 v d p) :
    ∃ (a : Option Addr) (n c : Nat) (vs : List DR), v = .slice a n c ∧ RdQ w a n vs ∧ n ≤ maxLen ∧ ∀ v ∈ vs, v.b.size ≤ maxLen ∧ v.a.size ≤ maxLen := by
  obtain ⟨a0, n0, c0, rfl⟩ := okWide_slice Try.underlying22 hv
  obtain ⟨fuel, hf⟩ := h
  obtain ⟨a, n, c, vs, e, r1, r2, r3⟩ := recs_of hf
  simp [Value.cells] at e
  obtain ⟨rfl, rfl, rfl⟩ := e
  exact ⟨_, _, _, vs, rfl, r1, r2, r3⟩

end Go.Proofs.Ytimdoaehlciecaa
