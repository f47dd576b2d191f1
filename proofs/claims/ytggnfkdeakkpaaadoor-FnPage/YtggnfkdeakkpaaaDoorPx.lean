/-
  Pages that are set: the walks of PageSet, the program's and the specification's.
-/
import Derived.Test.YtggnfkdeakkpaaaDoorPw
namespace Go.Proofs.YtggnfkdeakkpaaaDoor
open Go Go.RowKit
attribute [local go_sem ↓] Go.wp_at_zero Go.wp_at_succ


def setOK (sl : Int) (d : ByteArray) (l : Int) : Bool := inB sl 0 3 && !(longB d) && inB l 0 1000
def setC (D : DG) (sl : Int) (d : ByteArray) (l : Int) : Int := if 65536 < d.size then 2 else if okG D then (if setOK sl d l then 0 else 4) else 1
def setR (D : DG) (sl : Int) (d : ByteArray) (l : Int) : DG := if 65536 < d.size then ⟨0, []⟩ else if okG D then (if setOK sl d l then ⟨l, D.S.set sl.toNat d⟩ else ⟨0, []⟩) else ⟨0, []⟩
theorem set2 {D : DG} {sl : Int} {d : ByteArray} {l : Int} (h : 65536 < d.size) : setC D sl d l = 2 ∧ setR D sl d l = ⟨0, []⟩ := by unfold setC setR; rw [if_pos h, if_pos h]; exact ⟨rfl, rfl⟩
theorem set1 {D : DG} {sl : Int} {d : ByteArray} {l : Int} (h : ¬ 65536 < d.size) (h1 : okG D = false) : setC D sl d l = 1 ∧ setR D sl d l = ⟨0, []⟩ := by unfold setC setR; rw [if_neg h, if_neg h, h1]; exact ⟨rfl, rfl⟩
theorem set4 {D : DG} {sl : Int} {d : ByteArray} {l : Int} (h : ¬ 65536 < d.size) (h1 : okG D = true) (h2 : setOK sl d l = false) : setC D sl d l = 4 ∧ setR D sl d l = ⟨0, []⟩ := by unfold setC setR; rw [if_neg h, if_neg h, h1, h2]; exact ⟨rfl, rfl⟩
theorem set0 {D : DG} {sl : Int} {d : ByteArray} {l : Int} (h : ¬ 65536 < d.size) (h1 : okG D = true) (h2 : setOK sl d l = true) : setC D sl d l = 0 ∧ setR D sl d l = ⟨l, D.S.set sl.toNat d⟩ := by unfold setC setR; rw [if_neg h, if_neg h, h1, h2]; exact ⟨rfl, rfl⟩
theorem fit_zero : FitG ⟨0, []⟩ := ⟨by simp, fun s h => by cases h⟩
theorem fit_set {D : DG} (hf : FitG D) {d : ByteArray} (hd : d.size ≤ 1048576) (l : Int) (k : Nat) : FitG ⟨l, D.S.set k d⟩ := by
  refine ⟨by simpa using hf.1, fun s h => ?_⟩
  rcases List.mem_or_eq_of_mem_set h with h | rfl
  · exact hf.2 s h
  · exact hd
theorem set_fit {D : DG} {sl : Int} {d : ByteArray} {l : Int} (hf : FitG D) (hd : d.size ≤ 1048576) : FitG (setR D sl d l) := by
  unfold setR
  repeat' split
  all_goals first | exact fit_zero | exact fit_set hf hd _ _

/-- A page of the call's own, with a record put into it. -/
theorem OwnG.put {V : World} {B E : Nat} {l : Int} {g n c : Nat} {D : DG} (o : OwnG V B E ⟨l, some ⟨g, 0, none⟩, n, c⟩ D) (k : Nat) (d : ByteArray) : OwnG (V.setCell ⟨g, k, none⟩ (.string d)) B E ⟨l, some ⟨g, 0, none⟩, n, c⟩ ⟨D.L, D.S.set k d⟩ := by
  obtain ⟨h1, h2, h3, h4⟩ := o
  have := (h2.stored k (.string d)).1
  refine ⟨h1, ?_, by simpa using h3, h4⟩
  show World.ownsRow _ B 9 1 _ n ((D.S.set k d).map Value.string)
  rw [List.map_set]
  exact this
theorem OwnG.lsn {V : World} {B E : Nat} {l : Int} {a : Option Addr} {n c : Nat} {D : DG} (o : OwnG V B E ⟨l, a, n, c⟩ D) (l' : Int) : OwnG V B E ⟨l', a, n, c⟩ ⟨l', D.S⟩ := ⟨rfl, o.2.1, o.2.2.1, o.2.2.2⟩
theorem OwnG.setO {V : World} {B E : Nat} {h : HG} {D : DG} (o : OwnG V B E h D) {r i : Nat} (hr : r < B ∨ E ≤ r) (v : Value) : OwnG (V.setCell ⟨r, i, none⟩ v) B E h D :=
  o.same (by simp) fun g h1 h2 => Below.heap_setCell _ _ _ _ (by simp; omega)
theorem OwnG.some_of {V : World} {B E : Nat} {h : HG} {D : DG} (o : OwnG V B E h D) (hn : 0 < D.S.length) : ∃ g c, h = ⟨D.L, some ⟨g, 0, none⟩, D.S.length, c⟩ ∧ B ≤ g ∧ g < E := by
  have hl := o.rd.len
  obtain ⟨l, a, n, c⟩ := h
  obtain ⟨h1, h2, h3, h4⟩ := o
  simp only at *
  subst h1 hl
  rcases own_form h2 with ⟨hv, h0⟩ | ⟨g, cap, hv, _, _⟩
  · omega
  · cases hv
    exact ⟨g, _, rfl, h4 g rfl⟩

end Go.Proofs.YtggnfkdeakkpaaaDoor
