/-
  How rows and answers that came in are read.
-/
import Derived.Test.YtknjglgellhchaaDoorXo
import Derived.Test.YtknjglgellhchaaDoorRa
import Derived.ProofKit
import Derived.OpenShut
import Derived.SliceStrings
import Derived.ChangeSlices
import Derived.Lib.SmallJoins
import Derived.Deep.Slices
import Derived.Deep.Strs
namespace Go.Proofs.YtknjglgellhchaaDoor
open Go Go.RowKit Go.ChangeShapes Go.WideShapes Go.Deep Go.WideElems

theorem cellsRi2 : Tryd.prog.cellsOf 43 = 7 := by kernel_rfl
theorem cellsRSi : Tryd.prog.cellsOf 56 = 1 := by kernel_rfl
set_option maxRecDepth 100000 in
theorem open_rowsT {H : Type} {enc : TypeId × Value → H} {w : World} {base : Nat} {spare : Nat → Bool} {held : Bool} {fuel : Nat} {cs : List Value} {x : DataW H × List MemPlace}
    (h : DataW.trod enc Tryd.prog w base spare held fuel 56 cs = some x) :
    cs = [.slice none 0 0] ∨ ∃ (a : Addr) (len cap : Nat) (vs : List RW), cs = [.slice (some a) len cap] ∧ len ≤ maxLen ∧ RdR w (some a) len vs ∧ ∀ v ∈ vs, v.t.size ≤ maxLen ∧ v.z.size ≤ maxLen := by
  rcases Go.Deep.open_slice Tryd.underlying56 h with ⟨h0, _⟩ | ⟨a, len, cap, m, n, D, Pl, hcs, hb, hl, hm, he, hx, hc⟩
  · exact .inl h0
  · right
    have hlm : len ≤ m := by rw [he]; split <;> omega
    have hone' : ∀ i, i < len → ∃ v : RW, (∀ j, j < 7 → w.cell? (a.add (i * 7 + j)) = (cR v)[j]?) ∧ v.t.size ≤ maxLen ∧ v.z.size ≤ maxLen := by
      intro i hi
      obtain ⟨cs', h1, h2⟩ := hc i (by omega)
      rw [cellsRi2] at h1
      obtain ⟨_, hl7, hg⟩ := World.cells?_some h1
      obtain ⟨xs, n', _, _, _, hlen, hff⟩ := DataW.trod_struct Tryd.underlying43 h2
      match cs', hl7 with
      | [c0, c1, c2, c3, c4, c5, c6], _ =>
        have g : ∀ i, i < 3 → ∃ y, xs[i]? = some y := fun i hi => ⟨_, List.getElem?_eq_getElem (by rw [hlen]; exact hi)⟩
        obtain ⟨y0, hy0⟩ := g 0 (by omega)
        obtain ⟨k0, e0, _, _⟩ := DataW.trod_int Tryd.underlying3 ((hff 0 _ rfl).trans hy0)
        obtain ⟨y1, hy1⟩ := g 1 (by omega)
        obtain ⟨xa, na, _, _, _, hlena, hfa⟩ := DataW.trod_struct Tryd.underlying41 ((hff 1 _ rfl).trans hy1)
        obtain ⟨y2, hy2⟩ := g 2 (by omega)
        obtain ⟨xb, nb, _, _, _, hlenb, hfb⟩ := DataW.trod_struct Tryd.underlying41 ((hff 2 _ rfl).trans hy2)
        have ga : ∀ i, i < 3 → ∃ y, xa[i]? = some y := fun i hi => ⟨_, List.getElem?_eq_getElem (by rw [hlena]; exact hi)⟩
        have gb : ∀ i, i < 3 → ∃ y, xb[i]? = some y := fun i hi => ⟨_, List.getElem?_eq_getElem (by rw [hlenb]; exact hi)⟩
        obtain ⟨a0, ha0⟩ := ga 0 (by omega)
        obtain ⟨k1, e1, _, _⟩ := DataW.trod_int Tryd.underlying3 ((hfa 0 _ rfl).trans ha0)
        obtain ⟨a1, ha1⟩ := ga 1 (by omega)
        obtain ⟨k2, e2, _, _⟩ := DataW.trod_int Tryd.underlying3 ((hfa 1 _ rfl).trans ha1)
        obtain ⟨a2, ha2⟩ := ga 2 (by omega)
        obtain ⟨k3, e3, _, m3⟩ := DataW.trod_string Tryd.underlying9 ((hfa 2 _ rfl).trans ha2)
        obtain ⟨d0, hd0⟩ := gb 0 (by omega)
        obtain ⟨k4, e4, _, _⟩ := DataW.trod_int Tryd.underlying3 ((hfb 0 _ rfl).trans hd0)
        obtain ⟨d1, hd1⟩ := gb 1 (by omega)
        obtain ⟨k5, e5, _, _⟩ := DataW.trod_int Tryd.underlying3 ((hfb 1 _ rfl).trans hd1)
        obtain ⟨d2, hd2⟩ := gb 2 (by omega)
        obtain ⟨k6, e6, _, m6⟩ := DataW.trod_string Tryd.underlying9 ((hfb 2 _ rfl).trans hd2)
        simp [cells3i, cells9i, cellsVi] at e0 e1 e2 e3 e4 e5 e6
        subst e0 e1 e2 e3 e4 e5 e6
        refine ⟨⟨k0, k1, k2, k3, k4, k5, k6⟩, fun j hj => ?_, m3, m6⟩
        have q := hg j (by omega)
        rw [Go.Deep.add_add] at q
        rw [q]
        rfl
    haveI : Inhabited RW := ⟨zeroR⟩
    obtain ⟨f, hf⟩ := Go.Deep.choose_lt (α := RW) hone'
    refine ⟨a, len, cap, (List.range len).map f, hcs, by omega, ⟨by simp, fun hpos => ?_⟩, ?_⟩
    · obtain ⟨b, off, spot⟩ := a
      have hc0 := (hf 0 hpos).1 0 (by omega)
      have hspot : spot = none := by simpa [Addr.add] using World.cell?_spot (hc0.trans (show (cR (f 0))[0]? = some (.int .i64 (f 0).i) from rfl))
      subst hspot
      refine ⟨b, off, rfl, World.block_lt_of_cell? w ⟨b, off, none⟩ (by have := hc0.trans (show (cR (f 0))[0]? = some (.int .i64 (f 0).i) from rfl); rwa [addr_add, show off + (0 * 7 + 0) = off by omega] at this), fun i hi j hj => ?_⟩
      have hg := (hf i hi).1 j hj
      rw [addr_add] at hg
      have hd : ((List.range len).map f).getD i zeroR = f i := by rw [List.getD_eq_getElem?_getD, List.getElem?_map, List.getElem?_range hi]; rfl
      rw [hd, Nat.add_assoc]
      exact hg
    · intro v hv
      obtain ⟨i, hi, rfl⟩ := List.mem_map.1 hv
      exact (hf i (List.mem_range.1 hi)).2
set_option maxRecDepth 100000 in
theorem open_rows {H : Type} {enc : TypeId × Value → H} {w : World} {held : Bool} {r : Reach} {b0 : Nat} {v : Value} {d : DataW H} {p : List MemPlace} (hv : Value.okWide Tryd.prog w r b0 56 v) (h : DataW.Trod enc Tryd.prog w 0 (fun _ => true) held 56 v d p) :
    ∃ (a : Option Addr) (n c : Nat) (vs : List RW), v = .slice a n c ∧ n ≤ maxLen ∧ RdR w a n vs ∧ ∀ v ∈ vs, v.t.size ≤ maxLen ∧ v.z.size ≤ maxLen := by
  obtain ⟨a0, n0, c0, rfl⟩ := okWide_slice Tryd.underlying56 hv
  obtain ⟨fuel, hf⟩ := h
  rcases open_rowsT hf with hcs | ⟨x, l, c, vs, hcs, hm, hr, hz⟩
  · simp [Value.cells] at hcs
    obtain ⟨rfl, rfl, rfl⟩ := hcs
    exact ⟨none, 0, 0, [], rfl, by unfold maxLen; omega, ⟨rfl, fun h => absurd h (by omega)⟩, fun _ h => by cases h⟩
  · simp [Value.cells] at hcs
    obtain ⟨rfl, rfl, rfl⟩ := hcs
    exact ⟨some x, n0, c0, vs, rfl, hm, hr, hz⟩
set_option maxRecDepth 100000 in
theorem open_ans {H : Type} {enc : TypeId × Value → H} {w : World} {held : Bool} {r : Reach} {b0 : Nat} {v : Value} {d : DataW H} {p : List MemPlace} (hv : Value.okWide Tryd.prog w r b0 58 v) (h : DataW.Trod enc Tryd.prog w 0 (fun _ => true) held 58 v d p) :
    ∃ (a : Option Addr) (n c : Nat) (cn : Int) (vs : List RW), v = .agg #[.slice a n c, .int .i64 cn] ∧ n ≤ maxLen ∧ RdR w a n vs ∧ ∀ v ∈ vs, v.t.size ≤ maxLen ∧ v.z.size ≤ maxLen := by
  obtain ⟨cs, rfl, hsz⟩ := okWide_struct Tryd.underlying58 hv
  have hsz1 : cs.size = 2 := hsz.trans (by kernel_rfl)
  obtain ⟨l⟩ := cs
  match l, hsz1 with
  | [c0, c1], _ =>
    obtain ⟨fuel, hf⟩ := h
    obtain ⟨xs, n, _, _, _, hlen, hff⟩ := DataW.trod_struct Tryd.underlying58 hf
    obtain ⟨y0, hy0⟩ : ∃ y, xs[0]? = some y := ⟨_, List.getElem?_eq_getElem (by rw [hlen]; decide)⟩
    obtain ⟨y1, hy1⟩ : ∃ y, xs[1]? = some y := ⟨_, List.getElem?_eq_getElem (by rw [hlen]; decide)⟩
    have t0 := (hff 0 _ rfl).trans hy0
    obtain ⟨k1, e1, _, _⟩ := DataW.trod_int Tryd.underlying3 ((hff 1 _ rfl).trans hy1)
    simp [Value.cells, cells3i] at e1
    subst e1
    rcases open_rowsT t0 with h1 | ⟨a, len, cap, vs, hcs, hm, hr, hz⟩
    · simp [Value.cells, cellsRSi] at h1
      subst h1
      exact ⟨none, 0, 0, k1, [], rfl, by unfold maxLen; omega, ⟨rfl, fun h => absurd h (by omega)⟩, fun _ h => by cases h⟩
    · simp [Value.cells, cellsRSi] at hcs
      subst hcs
      exact ⟨some a, len, cap, k1, vs, rfl, hm, hr, hz⟩
end Go.Proofs.YtknjglgellhchaaDoor
