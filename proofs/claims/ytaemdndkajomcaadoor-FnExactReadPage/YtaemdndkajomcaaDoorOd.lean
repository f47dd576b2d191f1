/-
  How a page that came in is read.
-/
import Derived.Test.YtaemdndkajomcaaDoorPg
import Derived.ProofKit
import Derived.OpenShut
import Derived.SliceStrings
import Derived.ChangeSlices
import Derived.Lib.SmallJoins
import Derived.Deep.Slices
import Derived.Deep.Strs
namespace Go.Proofs.YtaemdndkajomcaaDoor
open Go Go.RowKit Go.ChangeShapes Go.WideShapes Go.Deep Go.WideElems

theorem rdV_of_row {α : Type} {w : World} {x : Addr} {len cap : Nat} {zs : List α} (f : α → Value) (d : α) (hl : len ≤ cap) (hz : zs.length = cap) (hcell : ∀ i, i < zs.length → w.cell? (x.add i) = some (f (zs.getD i d))) : RdV w (some x) len ((zs.take len).map f) := by
  refine ⟨by simp; omega, fun h => ?_⟩
  obtain ⟨b, off, spot⟩ := x
  have hc := hcell 0 (by omega)
  have hspot : spot = none := by simpa [Addr.add] using World.cell?_spot hc
  subst hspot
  refine ⟨b, off, rfl, World.block_lt_of_cell? w ⟨b, off, none⟩ (by have := hc; rwa [addr_add] at this), fun i hi => ?_⟩
  have := hcell i (by omega)
  rw [addr_add] at this
  rw [this, map_get f (zs.take len) d i (by simp; omega), List.getD_eq_getElem?_getD, List.getD_eq_getElem?_getD, List.getElem?_take_of_lt hi]

theorem wf_u8 {n : Int} (h : (Lit.int .u8 n).wf = true) : 0 ≤ n ∧ n < 256 := by
  have := bounds_u8 h
  omega
theorem open_texts {H : Type} {enc : TypeId × Value → H} {w : World} {held : Bool} {fuel : Nat} {v : Value} {x : DataW H × List MemPlace} (h : DataW.trod enc Tryd.prog w 0 (fun _ => true) held fuel 39 [v] = some x) :
    ∃ a n c, ∃ ss : List ByteArray, v = .slice a n c ∧ RdV w a n (ss.map Value.string) ∧ n ≤ maxLen ∧ ∀ s ∈ ss, s.size ≤ maxLen := by
  rcases open_strings Tryd.underlying39 Tryd.underlying9 (by kernel_rfl) h with ⟨hcs, _⟩ | ⟨x, l, c, ss, hcs, _, hl, hm, hz, _, hcell, hwz⟩
  · simp at hcs
    exact ⟨none, 0, 0, [], hcs, ⟨rfl, fun h => absurd h (by omega)⟩, by unfold maxLen; omega, fun _ h => by cases h⟩
  · simp at hcs
    exact ⟨some x, l, c, _, hcs, rdV_of_row Value.string _ hl (by simpa using hz) hcell, by omega, fun s h => hwz s (List.mem_of_mem_take h)⟩
set_option maxRecDepth 100000 in
theorem open_page {H : Type} {enc : TypeId × Value → H} {w : World} {held : Bool} {r : Reach} {b0 : Nat} {v : Value} {d : DataW H} {p : List MemPlace} (hv : Value.okWide Tryd.prog w r b0 58 v) (h : DataW.Trod enc Tryd.prog w 0 (fun _ => true) held 58 v d p) :
    ∃ (h : HG) (D : DG), v = .agg #[.int .i64 h.l, .slice h.a h.n h.c] ∧ RdG w h D ∧ h.n ≤ maxLen ∧ ∀ s ∈ D.S, s.size ≤ maxLen := by
  obtain ⟨v0, v1, y0, y1, n, rfl, _, _, h0, h1⟩ := Go.Joins.open_agg2 Tryd.underlying58 (by kernel_rfl) (by kernel_rfl) hv h
  obtain ⟨k, e0, rfl, _⟩ := DataW.trod_int Tryd.underlying3 h0
  simp at e0
  subst e0
  obtain ⟨a, n, c, ss, rfl, r0, m0, s0⟩ := open_texts h1
  exact ⟨⟨k, a, n, c⟩, ⟨k, ss⟩, rfl, ⟨rfl, r0⟩, m0, s0⟩

end Go.Proofs.YtaemdndkajomcaaDoor
