/-
  How changes that came in are read.
-/
import Derived.Test.YtiobobocjokgiaaHc
import Derived.ProofKit
import Derived.OpenShut
import Derived.SliceStrings
import Derived.ChangeSlices
import Derived.ChangeArms
import Derived.Lib.SmallJoins
import Derived.Deep.Slices
import Derived.Deep.Strs
namespace Go.Proofs.Ytiobobocjokgiaa
open Go Go.RowKit Go.ChangeShapes Go.WideShapes Go.Deep Go.WideElems

theorem cells3i : Try.prog.cellsOf 3 = 1 := by kernel_rfl
theorem cells9i : Try.prog.cellsOf 9 = 1 := by kernel_rfl
theorem cells4i : Try.prog.cellsOf 4 = 1 := by kernel_rfl
theorem cellsVi : Try.prog.cellsOf 45 = 3 := by kernel_rfl
theorem cellsRi2 : Try.prog.cellsOf 47 = 7 := by kernel_rfl
theorem cellsCi2 : Try.prog.cellsOf 49 = 10 := by kernel_rfl
theorem cellsCSi : Try.prog.cellsOf 22 = 1 := by kernel_rfl
set_option maxRecDepth 100000 in
theorem open_chsT {H : Type} {enc : TypeId × Value → H} {w : World} {base : Nat} {spare : Nat → Bool} {held : Bool} {fuel : Nat} {cs : List Value} {x : DataW H × List MemPlace}
    (h : DataW.trod enc Try.prog w base spare held fuel 22 cs = some x) :
    cs = [.slice none 0 0] ∨ ∃ (a : Addr) (len cap : Nat) (vs : List CW), cs = [.slice (some a) len cap] ∧ len ≤ maxLen ∧ RdC w (some a) len vs ∧ ∀ v ∈ vs, v.t.size ≤ maxLen ∧ v.z.size ≤ maxLen := by
  rcases Go.Deep.open_slice Try.underlying22 h with ⟨h0, _⟩ | ⟨a, len, cap, m, n, D, Pl, hcs, hb, hl, hm, he, hx, hc⟩
  · exact .inl h0
  · right
    have hlm : len ≤ m := by rw [he]; split <;> omega
    have hone' : ∀ i, i < len → ∃ v : CW, (∀ j, j < 10 → w.cell? (a.add (i * 10 + j)) = (cC v)[j]?) ∧ v.t.size ≤ maxLen ∧ v.z.size ≤ maxLen := by
      intro i hi
      obtain ⟨cs', h1, h2⟩ := hc i (by omega)
      rw [cellsCi2] at h1
      obtain ⟨_, hl7, hg⟩ := World.cells?_some h1
      obtain ⟨xs, n', _, _, _, hlen, hff⟩ := DataW.trod_struct Try.underlying49 h2
      match cs', hl7 with
      | [c0, c1, c2, c3, c4, c5, c6, c7, c8, c9], _ =>
        have g : ∀ i, i < 4 → ∃ y, xs[i]? = some y := fun i hi => ⟨_, List.getElem?_eq_getElem (by rw [hlen]; exact hi)⟩
        obtain ⟨y0, hy0⟩ := g 0 (by omega)
        obtain ⟨k0, e0, _, _⟩ := DataW.trod_int Try.underlying3 ((hff 0 _ rfl).trans hy0)
        obtain ⟨y1, hy1⟩ := g 1 (by omega)
        obtain ⟨k1, e1, _, _⟩ := DataW.trod_int Try.underlying3 ((hff 1 _ rfl).trans hy1)
        obtain ⟨y2, hy2⟩ := g 2 (by omega)
        obtain ⟨xr, nr, _, _, _, hlenr, hfr⟩ := DataW.trod_struct Try.underlying47 ((hff 2 _ rfl).trans hy2)
        obtain ⟨y3, hy3⟩ := g 3 (by omega)
        obtain ⟨k9, e9, _⟩ := DataW.trod_bool Try.underlying4 ((hff 3 _ rfl).trans hy3)
        have gr : ∀ i, i < 3 → ∃ y, xr[i]? = some y := fun i hi => ⟨_, List.getElem?_eq_getElem (by rw [hlenr]; exact hi)⟩
        obtain ⟨z0, hz0⟩ := gr 0 (by omega)
        obtain ⟨k2, e2, _, _⟩ := DataW.trod_int Try.underlying3 ((hfr 0 _ rfl).trans hz0)
        obtain ⟨z1, hz1⟩ := gr 1 (by omega)
        obtain ⟨xa, na, _, _, _, hlena, hfa⟩ := DataW.trod_struct Try.underlying45 ((hfr 1 _ rfl).trans hz1)
        obtain ⟨z2, hz2⟩ := gr 2 (by omega)
        obtain ⟨xb, nb, _, _, _, hlenb, hfb⟩ := DataW.trod_struct Try.underlying45 ((hfr 2 _ rfl).trans hz2)
        have ga : ∀ i, i < 3 → ∃ y, xa[i]? = some y := fun i hi => ⟨_, List.getElem?_eq_getElem (by rw [hlena]; exact hi)⟩
        have gb : ∀ i, i < 3 → ∃ y, xb[i]? = some y := fun i hi => ⟨_, List.getElem?_eq_getElem (by rw [hlenb]; exact hi)⟩
        obtain ⟨a0, ha0⟩ := ga 0 (by omega)
        obtain ⟨k3, e3, _, _⟩ := DataW.trod_int Try.underlying3 ((hfa 0 _ rfl).trans ha0)
        obtain ⟨a1, ha1⟩ := ga 1 (by omega)
        obtain ⟨k4, e4, _, _⟩ := DataW.trod_int Try.underlying3 ((hfa 1 _ rfl).trans ha1)
        obtain ⟨a2, ha2⟩ := ga 2 (by omega)
        obtain ⟨k5, e5, _, m5⟩ := DataW.trod_string Try.underlying9 ((hfa 2 _ rfl).trans ha2)
        obtain ⟨d0, hd0⟩ := gb 0 (by omega)
        obtain ⟨k6, e6, _, _⟩ := DataW.trod_int Try.underlying3 ((hfb 0 _ rfl).trans hd0)
        obtain ⟨d1, hd1⟩ := gb 1 (by omega)
        obtain ⟨k7, e7, _, _⟩ := DataW.trod_int Try.underlying3 ((hfb 1 _ rfl).trans hd1)
        obtain ⟨d2, hd2⟩ := gb 2 (by omega)
        obtain ⟨k8, e8, _, m8⟩ := DataW.trod_string Try.underlying9 ((hfb 2 _ rfl).trans hd2)
        simp [cells3i, cells9i, cells4i, cellsVi, cellsRi2] at e0 e1 e2 e3 e4 e5 e6 e7 e8 e9
        subst e0 e1 e2 e3 e4 e5 e6 e7 e8 e9
        refine ⟨⟨k0, k1, k2, k3, k4, k5, k6, k7, k8, k9⟩, fun j hj => ?_, m5, m8⟩
        have q := hg j (by omega)
        rw [Go.Deep.add_add] at q
        rw [q]
        rfl
    haveI : Inhabited CW := ⟨zeroC⟩
    obtain ⟨f, hf⟩ := Go.Deep.choose_lt (α := CW) hone'
    refine ⟨a, len, cap, (List.range len).map f, hcs, by omega, ⟨by simp, fun hpos => ?_⟩, ?_⟩
    · obtain ⟨b, off, spot⟩ := a
      have hc0 := (hf 0 hpos).1 0 (by omega)
      have hspot : spot = none := by simpa [Addr.add] using World.cell?_spot (hc0.trans (show (cC (f 0))[0]? = some (.int .i64 (f 0).se) from rfl))
      subst hspot
      refine ⟨b, off, rfl, World.block_lt_of_cell? w ⟨b, off, none⟩ (by have := hc0.trans (show (cC (f 0))[0]? = some (.int .i64 (f 0).se) from rfl); rwa [addr_add, show off + (0 * 10 + 0) = off by omega] at this), fun i hi j hj => ?_⟩
      have hg := (hf i hi).1 j hj
      rw [addr_add] at hg
      have hd : ((List.range len).map f).getD i zeroC = f i := by rw [List.getD_eq_getElem?_getD, List.getElem?_map, List.getElem?_range hi]; rfl
      rw [hd, Nat.add_assoc]
      exact hg
    · intro v hv
      obtain ⟨i, hi, rfl⟩ := List.mem_map.1 hv
      exact (hf i (List.mem_range.1 hi)).2
set_option maxRecDepth 100000 in
theorem open_chs {H : Type} {enc : TypeId × Value → H} {w : World} {held : Bool} {r : Reach} {b0 : Nat} {v : Value} {d : DataW H} {p : List MemPlace} (hv : Value.okWide Try.prog w r b0 22 v) (h : DataW.Trod enc Try.prog w 0 (fun _ => true) held 22 v d p) :
    ∃ (a : Option Addr) (n c : Nat) (vs : List CW), v = .slice a n c ∧ n ≤ maxLen ∧ RdC w a n vs ∧ ∀ v ∈ vs, v.t.size ≤ maxLen ∧ v.z.size ≤ maxLen := by
  obtain ⟨a0, n0, c0, rfl⟩ := okWide_slice Try.underlying22 hv
  obtain ⟨fuel, hf⟩ := h
  rcases open_chsT hf with hcs | ⟨x, l, c, vs, hcs, hm, hr, hz⟩
  · simp [Value.cells] at hcs
    obtain ⟨rfl, rfl, rfl⟩ := hcs
    exact ⟨none, 0, 0, [], rfl, by unfold maxLen; omega, ⟨rfl, fun h => absurd h (by omega)⟩, fun _ h => by cases h⟩
  · simp [Value.cells] at hcs
    obtain ⟨rfl, rfl, rfl⟩ := hcs
    exact ⟨some x, n0, c0, vs, rfl, hm, hr, hz⟩
end Go.Proofs.Ytiobobocjokgiaa
