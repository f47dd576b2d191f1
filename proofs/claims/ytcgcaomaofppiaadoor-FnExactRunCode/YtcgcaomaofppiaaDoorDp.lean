/-
  How a row that came in is read.
-/
import Derived.Test.YtcgcaomaofppiaaDoorCj
import Derived.Test.YtcgcaomaofppiaaDoorXr
import Derived.ProofKit
import Derived.OpenShut
import Derived.SliceStrings
import Derived.ChangeSlices
import Derived.Lib.SmallJoins
import Derived.Deep.Slices
import Derived.Deep.Strs
namespace Go.Proofs.YtcgcaomaofppiaaDoor
open Go Go.RowKit Go.ChangeShapes Go.WideShapes Go.Deep Go.WideElems

theorem array7 {α : Type} {cs : Array α} (h : cs.size = 7) : ∃ c0 c1 c2 c3 c4 c5 c6, cs = #[c0, c1, c2, c3, c4, c5, c6] := by
  obtain ⟨l⟩ := cs
  match l, h with
  | [c0, c1, c2, c3, c4, c5, c6], _ => exact ⟨c0, c1, c2, c3, c4, c5, c6, rfl⟩
set_option maxRecDepth 100000 in
theorem open_row {H : Type} {enc : TypeId × Value → H} {w : World} {held : Bool} {r : Reach} {b0 : Nat} {v : Value} {d : DataW H} {p : List MemPlace} (hv : Value.okWide Tryd.prog w r b0 26 v) (h : DataW.Trod enc Tryd.prog w 0 (fun _ => true) held 26 v d p) :
    ∃ (i : Int) (u x : VV), v = .agg #[.int .i64 i, .int .i64 u.1, .int .i64 u.2.1, .string u.2.2, .int .i64 x.1, .int .i64 x.2.1, .string x.2.2] ∧ u.2.2.size ≤ maxLen ∧ x.2.2.size ≤ maxLen := by
  obtain ⟨cs, rfl, hsz⟩ := okWide_struct Tryd.underlying26 hv
  obtain ⟨c0, c1, c2, c3, c4, c5, c6, rfl⟩ := array7 (hsz.trans (by kernel_rfl))
  obtain ⟨fuel, hf⟩ := h
  obtain ⟨xs, n, _, _, _, hlen, hff⟩ := DataW.trod_struct Tryd.underlying26 hf
  have g : ∀ i, i < 3 → ∃ y, xs[i]? = some y := fun i hi => ⟨_, List.getElem?_eq_getElem (by rw [hlen]; exact hi)⟩
  obtain ⟨y0, hy0⟩ := g 0 (by omega)
  obtain ⟨k0, e0, _, _⟩ := DataW.trod_int Tryd.underlying3 ((hff 0 _ rfl).trans hy0)
  obtain ⟨y1, hy1⟩ := g 1 (by omega)
  obtain ⟨xa, na, _, _, _, hlena, hfa⟩ := DataW.trod_struct Tryd.underlying24 ((hff 1 _ rfl).trans hy1)
  obtain ⟨y2, hy2⟩ := g 2 (by omega)
  obtain ⟨xb, nb, _, _, _, hlenb, hfb⟩ := DataW.trod_struct Tryd.underlying24 ((hff 2 _ rfl).trans hy2)
  have ga : ∀ i, i < 3 → ∃ y, xa[i]? = some y := fun i hi => ⟨_, List.getElem?_eq_getElem (by rw [hlena]; exact hi)⟩
  have gb : ∀ i, i < 3 → ∃ y, xb[i]? = some y := fun i hi => ⟨_, List.getElem?_eq_getElem (by rw [hlenb]; exact hi)⟩
  obtain ⟨a0, ha0⟩ := ga 0 (by omega)
  obtain ⟨k1, e1, _, _⟩ := DataW.trod_int Tryd.underlying3 ((hfa 0 _ rfl).trans ha0)
  obtain ⟨a1, ha1⟩ := ga 1 (by omega)
  obtain ⟨k2, e2, _, _⟩ := DataW.trod_int Tryd.underlying3 ((hfa 1 _ rfl).trans ha1)
  obtain ⟨a2, ha2⟩ := ga 2 (by omega)
  obtain ⟨k3, e3, _, m3⟩ := DataW.trod_string Tryd.underlying9 ((hfa 2 _ rfl).trans ha2)
  obtain ⟨d0, hd0⟩ := gb 0 (by omega)
  obtain ⟨k4, e4, _, _⟩ := DataW.trod_int Tryd.underlying3 ((hfb 0 _ rfl).trans hd0)
  obtain ⟨d1, hd1⟩ := gb 1 (by omega)
  obtain ⟨k5, e5, _, _⟩ := DataW.trod_int Tryd.underlying3 ((hfb 1 _ rfl).trans hd1)
  obtain ⟨d2, hd2⟩ := gb 2 (by omega)
  obtain ⟨k6, e6, _, m6⟩ := DataW.trod_string Tryd.underlying9 ((hfb 2 _ rfl).trans hd2)
  simp [Value.cells, cells3i, cells9i, cellsVi] at e0 e1 e2 e3 e4 e5 e6
  subst e0 e1 e2 e3 e4 e5 e6
  exact ⟨k0, (k1, k2, k3), (k4, k5, k6), rfl, m3, m6⟩

end Go.Proofs.YtcgcaomaofppiaaDoor
