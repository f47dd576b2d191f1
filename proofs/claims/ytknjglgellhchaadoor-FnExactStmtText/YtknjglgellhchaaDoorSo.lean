/-
  How a statement that came in is read.
-/
import Derived.Test.YtknjglgellhchaaDoorXo
import Derived.Test.YtknjglgellhchaaDoorXr
import Derived.ProofKit
import Derived.OpenShut
import Derived.SliceStrings
import Derived.ChangeSlices
import Derived.Lib.SmallJoins
import Derived.Deep.Slices
import Derived.Deep.Strs
namespace Go.Proofs.YtknjglgellhchaaDoor
open Go Go.RowKit Go.ChangeShapes Go.WideShapes Go.Deep Go.WideElems

theorem cells4i : Tryd.prog.cellsOf 4 = 1 := by kernel_rfl
theorem cellsRi : Tryd.prog.cellsOf 43 = 7 := by kernel_rfl
theorem cellsXi : Tryd.prog.cellsOf 24 = 1 := by kernel_rfl
theorem array14 {α : Type} {cs : Array α} (h : cs.size = 14) : ∃ c0 c1 c2 c3 c4 c5 c6 c7 c8 c9 c10 c11 c12 c13, cs = #[c0, c1, c2, c3, c4, c5, c6, c7, c8, c9, c10, c11, c12, c13] := by
  obtain ⟨l⟩ := cs
  match l, h with
  | [c0, c1, c2, c3, c4, c5, c6, c7, c8, c9, c10, c11, c12, c13], _ => exact ⟨c0, c1, c2, c3, c4, c5, c6, c7, c8, c9, c10, c11, c12, c13, rfl⟩
set_option maxRecDepth 100000 in
theorem open_nodes1 {H : Type} {enc : TypeId × Value → H} {w : World} {base : Nat} {spare : Nat → Bool} {held : Bool} {fuel : Nat} {c0 : Value} {x : DataW H × List MemPlace}
    (h : DataW.trod enc Tryd.prog w base spare held fuel 24 [c0] = some x) :
    ∃ (a : Option Addr) (n c : Nat) (L : List EN), c0 = .slice a n c ∧ n ≤ maxLen ∧ RdE w a n L ∧ ∀ u ∈ L, u.t.size ≤ maxLen := by
  obtain ⟨xs, n, _, _, _, hlen, hff⟩ := DataW.trod_struct Tryd.underlying24 h
  obtain ⟨y0, hy0⟩ : ∃ y, xs[0]? = some y := ⟨_, List.getElem?_eq_getElem (by rw [hlen]; decide)⟩
  have t0 := (hff 0 _ rfl).trans hy0
  rcases open_nodes t0 with h1 | ⟨a, len, cap, vs, hcs, hm, hr, hz⟩
  · simp [cellsSi] at h1
    subst h1
    exact ⟨none, 0, 0, [], rfl, by unfold maxLen; omega, ⟨rfl, fun h => absurd h (by omega)⟩, fun _ h => by cases h⟩
  · simp [cellsSi] at hcs
    subst hcs
    exact ⟨some a, len, cap, vs, rfl, hm, hr, hz⟩
set_option maxRecDepth 100000 in
theorem open_stmt {H : Type} {enc : TypeId × Value → H} {w : World} {held : Bool} {r : Reach} {b0 : Nat} {v : Value} {d : DataW H} {p : List MemPlace} (hv : Value.okWide Tryd.prog w r b0 45 v) (h : DataW.Trod enc Tryd.prog w 0 (fun _ => true) held 45 v d p) :
    ∃ (k tb i : Int) (u v' : VV) (c : Int) (sa : Option Addr) (sn sc : Nat) (wa : Option Addr) (wn wc : Nat) (o : Int) (d : Bool) (LS LW : List EN), v = .agg #[.int .i64 k, .int .i64 tb, .int .i64 i, .int .i64 u.1, .int .i64 u.2.1, .string u.2.2, .int .i64 v'.1, .int .i64 v'.2.1, .string v'.2.2, .int .i64 c, .slice sa sn sc, .slice wa wn wc, .int .i64 o, .bool d] ∧ u.2.2.size ≤ maxLen ∧ v'.2.2.size ≤ maxLen ∧ sn ≤ maxLen ∧ RdE w sa sn LS ∧ (∀ x ∈ LS, x.t.size ≤ maxLen) ∧ wn ≤ maxLen ∧ RdE w wa wn LW ∧ (∀ x ∈ LW, x.t.size ≤ maxLen) := by
  obtain ⟨cs, rfl, hsz⟩ := okWide_struct Tryd.underlying45 hv
  obtain ⟨c0, c1, c2, c3, c4, c5, c6, c7, c8, c9, c10, c11, c12, c13, rfl⟩ := array14 (hsz.trans (by kernel_rfl))
  obtain ⟨fuel, hf⟩ := h
  obtain ⟨xs, n, _, _, _, hlen, hff⟩ := DataW.trod_struct Tryd.underlying45 hf
  have g : ∀ i, i < 8 → ∃ y, xs[i]? = some y := fun i hi => ⟨_, List.getElem?_eq_getElem (by rw [hlen]; exact hi)⟩
  obtain ⟨y0, hy0⟩ := g 0 (by omega)
  obtain ⟨k0, e0, _, _⟩ := DataW.trod_int Tryd.underlying3 ((hff 0 _ rfl).trans hy0)
  obtain ⟨y1, hy1⟩ := g 1 (by omega)
  obtain ⟨k1, e1, _, _⟩ := DataW.trod_int Tryd.underlying3 ((hff 1 _ rfl).trans hy1)
  obtain ⟨y2, hy2⟩ := g 2 (by omega)
  obtain ⟨xr, nr, _, _, _, hlenr, hfr⟩ := DataW.trod_struct Tryd.underlying43 ((hff 2 _ rfl).trans hy2)
  have gr : ∀ i, i < 3 → ∃ y, xr[i]? = some y := fun i hi => ⟨_, List.getElem?_eq_getElem (by rw [hlenr]; exact hi)⟩
  obtain ⟨r0, hr0⟩ := gr 0 (by omega)
  obtain ⟨m0, f0, _, _⟩ := DataW.trod_int Tryd.underlying3 ((hfr 0 _ rfl).trans hr0)
  obtain ⟨r1, hr1⟩ := gr 1 (by omega)
  obtain ⟨xa, na, _, _, _, hlena, hfa⟩ := DataW.trod_struct Tryd.underlying41 ((hfr 1 _ rfl).trans hr1)
  obtain ⟨r2, hr2⟩ := gr 2 (by omega)
  obtain ⟨xb, nb, _, _, _, hlenb, hfb⟩ := DataW.trod_struct Tryd.underlying41 ((hfr 2 _ rfl).trans hr2)
  have ga : ∀ i, i < 3 → ∃ y, xa[i]? = some y := fun i hi => ⟨_, List.getElem?_eq_getElem (by rw [hlena]; exact hi)⟩
  have gb : ∀ i, i < 3 → ∃ y, xb[i]? = some y := fun i hi => ⟨_, List.getElem?_eq_getElem (by rw [hlenb]; exact hi)⟩
  obtain ⟨a0, ha0⟩ := ga 0 (by omega)
  obtain ⟨m1, f1, _, _⟩ := DataW.trod_int Tryd.underlying3 ((hfa 0 _ rfl).trans ha0)
  obtain ⟨a1, ha1⟩ := ga 1 (by omega)
  obtain ⟨m2, f2, _, _⟩ := DataW.trod_int Tryd.underlying3 ((hfa 1 _ rfl).trans ha1)
  obtain ⟨a2, ha2⟩ := ga 2 (by omega)
  obtain ⟨m3, f3, _, z3⟩ := DataW.trod_string Tryd.underlying9 ((hfa 2 _ rfl).trans ha2)
  obtain ⟨d0, hd0⟩ := gb 0 (by omega)
  obtain ⟨m4, f4, _, _⟩ := DataW.trod_int Tryd.underlying3 ((hfb 0 _ rfl).trans hd0)
  obtain ⟨d1, hd1⟩ := gb 1 (by omega)
  obtain ⟨m5, f5, _, _⟩ := DataW.trod_int Tryd.underlying3 ((hfb 1 _ rfl).trans hd1)
  obtain ⟨d2, hd2⟩ := gb 2 (by omega)
  obtain ⟨m6, f6, _, z6⟩ := DataW.trod_string Tryd.underlying9 ((hfb 2 _ rfl).trans hd2)
  obtain ⟨y3, hy3⟩ := g 3 (by omega)
  obtain ⟨k3, e3, _, _⟩ := DataW.trod_int Tryd.underlying3 ((hff 3 _ rfl).trans hy3)
  obtain ⟨y4, hy4⟩ := g 4 (by omega)
  have t4 := (hff 4 _ rfl).trans hy4
  obtain ⟨y5, hy5⟩ := g 5 (by omega)
  have t5 := (hff 5 _ rfl).trans hy5
  obtain ⟨y6, hy6⟩ := g 6 (by omega)
  obtain ⟨k6, e6, _, _⟩ := DataW.trod_int Tryd.underlying3 ((hff 6 _ rfl).trans hy6)
  obtain ⟨y7, hy7⟩ := g 7 (by omega)
  obtain ⟨k7, e7, _⟩ := DataW.trod_bool Tryd.underlying4 ((hff 7 _ rfl).trans hy7)
  simp [Value.cells, cells3i, cells9i, cellsVi, cellsRi, cellsXi, cells4i] at e0 e1 e3 e6 e7 f0 f1 f2 f3 f4 f5 f6 t4 t5
  subst e0 e1 e3 e6 e7 f0 f1 f2 f3 f4 f5 f6
  obtain ⟨sa, sn, sc, LS, rfl, s1, s2, s3⟩ := open_nodes1 t4
  obtain ⟨wa, wn, wc, LW, rfl, w1, w2, w3⟩ := open_nodes1 t5
  exact ⟨k0, k1, m0, (m1, m2, m3), (m4, m5, m6), k3, sa, sn, sc, wa, wn, wc, k6, k7, LS, LW, rfl, z3, z6, s1, s2, s3, w1, w2, w3⟩

end Go.Proofs.YtknjglgellhchaaDoor
