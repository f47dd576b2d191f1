/-
  How an expression that came in is read.
-/
import Derived.Test.YtknjglgellhchaaDoorXa
import Derived.Test.YtknjglgellhchaaDoorRows
import Derived.ProofKit
import Derived.OpenShut
import Derived.SliceStrings
import Derived.ChangeSlices
import Derived.Lib.SmallJoins
import Derived.Deep.Slices
import Derived.Deep.Strs
namespace Go.Proofs.YtknjglgellhchaaDoor
open Go Go.RowKit Go.ChangeShapes Go.WideShapes Go.Deep Go.WideElems

theorem cells3i : Tryd.prog.cellsOf 3 = 1 := by kernel_rfl
theorem cells9i : Tryd.prog.cellsOf 9 = 1 := by kernel_rfl
theorem cellsVi : Tryd.prog.cellsOf 41 = 3 := by kernel_rfl
theorem cellsNi : Tryd.prog.cellsOf 97 = 7 := by kernel_rfl
theorem cellsSi : Tryd.prog.cellsOf 22 = 1 := by kernel_rfl
set_option maxRecDepth 100000 in
theorem open_nodes {H : Type} {enc : TypeId × Value → H} {w : World} {base : Nat} {spare : Nat → Bool} {held : Bool} {fuel : Nat} {cs : List Value} {x : DataW H × List MemPlace}
    (h : DataW.trod enc Tryd.prog w base spare held fuel 22 cs = some x) :
    cs = [.slice none 0 0] ∨ ∃ (a : Addr) (len cap : Nat) (vs : List EN), cs = [.slice (some a) len cap] ∧ len ≤ maxLen ∧ RdE w (some a) len vs ∧ ∀ v ∈ vs, v.t.size ≤ maxLen := by
  rcases Go.Deep.open_slice Tryd.underlying22 h with ⟨h0, _⟩ | ⟨a, len, cap, m, n, D, Pl, hcs, hb, hl, hm, he, hx, hc⟩
  · exact .inl h0
  · right
    have hlm : len ≤ m := by rw [he]; split <;> omega
    have hone' : ∀ i, i < len → ∃ v : EN, (∀ j, j < 7 → w.cell? (a.add (i * 7 + j)) = (cE v)[j]?) ∧ v.t.size ≤ maxLen := by
      intro i hi
      obtain ⟨cs', h1, h2⟩ := hc i (by omega)
      rw [cellsNi] at h1
      obtain ⟨_, hl7, hg⟩ := World.cells?_some h1
      obtain ⟨xs, n', _, _, _, hlen, hff⟩ := DataW.trod_struct Tryd.underlying97 h2
      match cs', hl7 with
      | [c0, c1, c2, c3, c4, c5, c6], _ =>
        have g : ∀ i, i < 5 → ∃ y, xs[i]? = some y := fun i hi => ⟨_, List.getElem?_eq_getElem (by rw [hlen]; exact hi)⟩
        obtain ⟨y0, hy0⟩ := g 0 (by omega)
        obtain ⟨k0, e0, _, _⟩ := DataW.trod_int Tryd.underlying3 ((hff 0 _ rfl).trans hy0)
        obtain ⟨y1, hy1⟩ := g 1 (by omega)
        obtain ⟨k1, e1, _, _⟩ := DataW.trod_int Tryd.underlying3 ((hff 1 _ rfl).trans hy1)
        obtain ⟨y2, hy2⟩ := g 2 (by omega)
        obtain ⟨k2, e2, _, _⟩ := DataW.trod_int Tryd.underlying3 ((hff 2 _ rfl).trans hy2)
        obtain ⟨y3, hy3⟩ := g 3 (by omega)
        obtain ⟨k3, e3, _, _⟩ := DataW.trod_int Tryd.underlying3 ((hff 3 _ rfl).trans hy3)
        obtain ⟨y4, hy4⟩ := g 4 (by omega)
        obtain ⟨xa, na, _, _, _, hlena, hfa⟩ := DataW.trod_struct Tryd.underlying41 ((hff 4 _ rfl).trans hy4)
        have ga : ∀ i, i < 3 → ∃ y, xa[i]? = some y := fun i hi => ⟨_, List.getElem?_eq_getElem (by rw [hlena]; exact hi)⟩
        obtain ⟨b0, hb0⟩ := ga 0 (by omega)
        obtain ⟨k4, e4, _, _⟩ := DataW.trod_int Tryd.underlying3 ((hfa 0 _ rfl).trans hb0)
        obtain ⟨b1, hb1⟩ := ga 1 (by omega)
        obtain ⟨k5, e5, _, _⟩ := DataW.trod_int Tryd.underlying3 ((hfa 1 _ rfl).trans hb1)
        obtain ⟨b2, hb2⟩ := ga 2 (by omega)
        obtain ⟨k6, e6, _, m6⟩ := DataW.trod_string Tryd.underlying9 ((hfa 2 _ rfl).trans hb2)
        simp [cells3i, cells9i, cellsVi] at e0 e1 e2 e3 e4 e5 e6
        subst e0 e1 e2 e3 e4 e5 e6
        refine ⟨⟨k0, k1, k2, k3, k4, k5, k6⟩, fun j hj => ?_, m6⟩
        have q := hg j (by omega)
        rw [Go.Deep.add_add] at q
        rw [q]
        rfl
    haveI : Inhabited EN := ⟨zeroE⟩
    obtain ⟨f, hf⟩ := Go.Deep.choose_lt (α := EN) hone'
    refine ⟨a, len, cap, (List.range len).map f, hcs, by omega, ⟨by simp, fun hpos => ?_⟩, ?_⟩
    · obtain ⟨b, off, spot⟩ := a
      have hc0 := (hf 0 hpos).1 0 (by omega)
      have hspot : spot = none := by simpa [Addr.add] using World.cell?_spot (hc0.trans (show (cE (f 0))[0]? = some (.int .i64 (f 0).o) from rfl))
      subst hspot
      refine ⟨b, off, rfl, World.block_lt_of_cell? w ⟨b, off, none⟩ (by have := hc0.trans (show (cE (f 0))[0]? = some (.int .i64 (f 0).o) from rfl); rwa [addr_add, show off + (0 * 7 + 0) = off by omega] at this), fun i hi j hj => ?_⟩
      have hg := (hf i hi).1 j hj
      rw [addr_add] at hg
      have hd : ((List.range len).map f).getD i zeroE = f i := by rw [List.getD_eq_getElem?_getD, List.getElem?_map, List.getElem?_range hi]; rfl
      rw [hd, Nat.add_assoc]
      exact hg
    · intro v hv
      obtain ⟨i, hi, rfl⟩ := List.mem_map.1 hv
      exact (hf i (List.mem_range.1 hi)).2
set_option maxRecDepth 100000 in
theorem open_expr {H : Type} {enc : TypeId × Value → H} {w : World} {held : Bool} {r : Reach} {b0 : Nat} {v : Value} {d : DataW H} {p : List MemPlace} (hv : Value.okWide Tryd.prog w r b0 24 v) (h : DataW.Trod enc Tryd.prog w 0 (fun _ => true) held 24 v d p) :
    ∃ (a : Option Addr) (n c : Nat) (L : List EN), v = .agg #[.slice a n c] ∧ n ≤ maxLen ∧ RdE w a n L ∧ ∀ u ∈ L, u.t.size ≤ maxLen := by
  obtain ⟨cs, rfl, hsz⟩ := okWide_struct Tryd.underlying24 hv
  have hsz1 : cs.size = 1 := hsz.trans (by kernel_rfl)
  obtain ⟨l⟩ := cs
  match l, hsz1 with
  | [c0], _ =>
    obtain ⟨fuel, hf⟩ := h
    obtain ⟨xs, n, _, _, _, hlen, hff⟩ := DataW.trod_struct Tryd.underlying24 hf
    obtain ⟨y0, hy0⟩ : ∃ y, xs[0]? = some y := ⟨_, List.getElem?_eq_getElem (by rw [hlen]; decide)⟩
    have t0 := (hff 0 _ rfl).trans hy0
    rcases open_nodes t0 with h1 | ⟨a, len, cap, vs, hcs, hm, hr, hz⟩
    · simp [Value.cells, cellsSi] at h1
      subst h1
      exact ⟨none, 0, 0, [], rfl, by unfold maxLen; omega, ⟨rfl, fun h => absurd h (by omega)⟩, fun _ h => by cases h⟩
    · simp [Value.cells, cellsSi] at hcs
      subst hcs
      exact ⟨some a, len, cap, vs, rfl, hm, hr, hz⟩
end Go.Proofs.YtknjglgellhchaaDoor
