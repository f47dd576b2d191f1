/-
  How a record that came in is read.
-/
import Derived.Test.YtdbdhcjafdbmjaaDoorRm
import Derived.ProofKit
import Derived.OpenShut
import Derived.SliceStrings
import Derived.ChangeSlices
import Derived.Lib.SmallJoins
import Derived.Deep.Slices
import Derived.Deep.Strs
namespace Go.Proofs.YtdbdhcjafdbmjaaDoor
open Go Go.RowKit Go.ChangeShapes Go.WideShapes Go.Deep Go.WideElems

theorem array10 {α : Type} {cs : Array α} (h : cs.size = 10) : ∃ c0 c1 c2 c3 c4 c5 c6 c7 c8 c9, cs = #[c0, c1, c2, c3, c4, c5, c6, c7, c8, c9] := by
  obtain ⟨l⟩ := cs
  match l, h with
  | [c0, c1, c2, c3, c4, c5, c6, c7, c8, c9], _ => exact ⟨c0, c1, c2, c3, c4, c5, c6, c7, c8, c9, rfl⟩
theorem cells3i : Tryd.prog.cellsOf 3 = 1 := by kernel_rfl
theorem cells9i : Tryd.prog.cellsOf 9 = 1 := by kernel_rfl
set_option maxRecDepth 100000 in
theorem open_rec {H : Type} {enc : TypeId × Value → H} {w : World} {held : Bool} {r : Reach} {b0 : Nat} {v : Value} {d : DataW H} {p : List MemPlace} (hv : Value.okWide Tryd.prog w r b0 23 v) (h : DataW.Trod enc Tryd.prog w 0 (fun _ => true) held 23 v d p) :
    ∃ (e l t k q n g s : Int) (b a : ByteArray), v = .agg #[.int .i64 e, .int .i64 l, .int .i64 t, .int .i64 k, .int .i64 q, .int .i64 n, .int .i64 g, .int .i64 s, .string b, .string a] ∧ b.size ≤ maxLen ∧ a.size ≤ maxLen := by
  obtain ⟨cs, rfl, hsz⟩ := okWide_struct Tryd.underlying23 hv
  obtain ⟨c0, c1, c2, c3, c4, c5, c6, c7, c8, c9, rfl⟩ := array10 (hsz.trans (by kernel_rfl))
  obtain ⟨fuel, hf⟩ := h
  obtain ⟨xs, n, _, _, _, hlen, hff⟩ := DataW.trod_struct Tryd.underlying23 hf
  have g : ∀ i, i < 10 → ∃ y, xs[i]? = some y := fun i hi => ⟨_, List.getElem?_eq_getElem (by rw [hlen]; exact hi)⟩
  obtain ⟨y0, hy0⟩ := g 0 (by omega)
  obtain ⟨k0, e0, _, _⟩ := DataW.trod_int Tryd.underlying3 ((hff 0 _ rfl).trans hy0)
  obtain ⟨y1, hy1⟩ := g 1 (by omega)
  obtain ⟨k1, e1, _, _⟩ := DataW.trod_int Tryd.underlying3 ((hff 1 _ rfl).trans hy1)
  obtain ⟨y2, hy2⟩ := g 2 (by omega)
  obtain ⟨k2, e2, _, _⟩ := DataW.trod_int Tryd.underlying3 ((hff 2 _ rfl).trans hy2)
  obtain ⟨y3, hy3⟩ := g 3 (by omega)
  obtain ⟨k3, e3, _, _⟩ := DataW.trod_int Tryd.underlying3 ((hff 3 _ rfl).trans hy3)
  obtain ⟨y4, hy4⟩ := g 4 (by omega)
  obtain ⟨k4, e4, _, _⟩ := DataW.trod_int Tryd.underlying3 ((hff 4 _ rfl).trans hy4)
  obtain ⟨y5, hy5⟩ := g 5 (by omega)
  obtain ⟨k5, e5, _, _⟩ := DataW.trod_int Tryd.underlying3 ((hff 5 _ rfl).trans hy5)
  obtain ⟨y6, hy6⟩ := g 6 (by omega)
  obtain ⟨k6, e6, _, _⟩ := DataW.trod_int Tryd.underlying3 ((hff 6 _ rfl).trans hy6)
  obtain ⟨y7, hy7⟩ := g 7 (by omega)
  obtain ⟨k7, e7, _, _⟩ := DataW.trod_int Tryd.underlying3 ((hff 7 _ rfl).trans hy7)
  obtain ⟨y8, hy8⟩ := g 8 (by omega)
  obtain ⟨k8, e8, _, m8⟩ := DataW.trod_string Tryd.underlying9 ((hff 8 _ rfl).trans hy8)
  obtain ⟨y9, hy9⟩ := g 9 (by omega)
  obtain ⟨k9, e9, _, m9⟩ := DataW.trod_string Tryd.underlying9 ((hff 9 _ rfl).trans hy9)
  simp [Value.cells, cells3i, cells9i] at e0 e1 e2 e3 e4 e5 e6 e7 e8 e9
  subst e0 e1 e2 e3 e4 e5 e6 e7 e8 e9
  exact ⟨_, _, _, _, _, _, _, _, _, _, rfl, m8, m9⟩

end Go.Proofs.YtdbdhcjafdbmjaaDoor
