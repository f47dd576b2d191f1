/-
  How slices of bytes and of strings that came in are read.
-/
import Derived.Test.YtiobobocjokgiaaBx
import Derived.ProofKit
import Derived.OpenShut
import Derived.SliceStrings
namespace Go.Proofs.Ytiobobocjokgiaa
open Go Go.RowKit

theorem rdV_of_row {α : Type} {w : World} {x : Addr} {len cap : Nat} {zs : List α} (f : α → Value) (d : α) (hl : len ≤ cap) (hz : zs.length = cap) (hcell : ∀ i, i < zs.length → w.cell? (x.add i) = some (f (zs.getD i d))) : RdV w (some x) len ((zs.take len).map f) := by
  refine ⟨by simp; omega, fun h => ?_⟩
  obtain ⟨b, off, spot⟩ := x
  have hc := hcell 0 (by omega)
  have hspot : spot = none := by simpa [Addr.add] using World.cell?_spot hc
  subst hspot
  refine ⟨b, off, rfl, World.block_lt_of_cell? w ⟨b, off, none⟩ (by have := hc; rwa [addr_add] at this), fun i hi => ?_⟩
  have := hcell i (by omega)
  rw [addr_add] at this
  rw [this, map_get f (zs.take len) d i (by simp; omega), List.getD_eq_getElem?_getD, List.getD_eq_getElem?_getD, List.getElem?_take_of_lt hi]
theorem wf_u8 {n : Int} (h : (Lit.int .u8 n).wf = true) : 0 ≤ n ∧ n < 256 := by
  have := bounds_u8 h
  omega
end Go.Proofs.Ytiobobocjokgiaa
