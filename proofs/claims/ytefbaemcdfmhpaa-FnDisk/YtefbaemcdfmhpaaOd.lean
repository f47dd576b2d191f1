/-
  How a disk that came in is read.
-/
import Derived.Test.YtefbaemcdfmhpaaDk
import Derived.ProofKit
import Derived.OpenShut
import Derived.SliceStrings
import Derived.ChangeSlices
import Derived.Lib.SmallJoins
import Derived.Deep.Slices
import Derived.Deep.Strs
namespace Go.Proofs.Ytefbaemcdfmhpaa
open Go Go.RowKit Go.ChangeShapes Go.WideShapes Go.Deep Go.WideElems

theorem addr_add (b off i : Nat) : (⟨b, off, none⟩ : Addr).add i = ⟨b, off + i, none⟩ := by unfold Addr.add; split <;> simp_all
theorem rdV_of_row {α : Type} {w : World} {x : Addr} {len cap : Nat} {zs : List α} (f : α → Value) (d : α) (hl : len ≤ cap) (hz : zs.length = cap) (hcell : ∀ i, i < zs.length → w.cell? (x.add i) = some (f (zs.getD i d))) : RdV w (some x) len ((zs.take len).map f) := by
  refine ⟨by simp; omega, fun h => ?_⟩
  obtain ⟨b, off, spot⟩ := x
  have hc := hcell 0 (by omega)
  have hspot : spot = none := by simpa [Addr.add] using World.cell?_spot hc
  subst hspot
  refine ⟨b, off, rfl, World.block_lt_of_cell? w ⟨b, off, none⟩ (by have := hc; rwa [addr_add] at this), fun i hi => ?_⟩
  have := hcell i (by omega)
  rw [addr_add] at this
  rw [this, map_get f (zs.take len) d i (by simp; omega), List.getD_eq_getElem?_getD, List.getD_eq_getElem?_getD, List.getElem?_take_of_lt hi]

theorem open_pendings {H : Type} {enc : TypeId × Value → H} {P : Program} {w : World} {base : Nat} {spare : Nat → Bool} {held : Bool} {t e : TypeId} {fuel : Nat} {cs : List Value} {x : DataW H × List MemPlace} {f0 f1 : Field}
    (ht : P.underlying t = some (.slice e)) (hs : P.underlying e = some (.struct #[f0, f1])) (hone : oneCellFields P #[f0, f1] = true) (hC : P.cellsOf e = 2)
    (u0 : P.underlying f0.type = some (.int .i64)) (u1 : P.underlying f1.type = some .string)
    (h : DataW.trod enc P w base spare held fuel t cs = some x) :
    cs = [.slice none 0 0] ∨ ∃ (a : Addr) (len cap : Nat) (vs : List PP), cs = [.slice (some a) len cap] ∧ len ≤ maxLen ∧ RdP w (some a) len vs ∧ ∀ v ∈ vs, v.2.size ≤ maxLen := by
  rcases Go.Deep.open_slice ht h with ⟨h0, _⟩ | ⟨a, len, cap, m, n, D, Pl, hcs, hb, hl, hm, he, hx, hc⟩
  · exact .inl h0
  · right
    have hlm : len ≤ m := by rw [he]; split <;> omega
    have hone' : ∀ i, i < len → ∃ v : PP, (w.cell? (a.add (i * 2)) = some (.int .i64 v.1) ∧ w.cell? (a.add (i * 2 + 1)) = some (.string v.2)) ∧ v.2.size ≤ maxLen := by
      intro i hi
      obtain ⟨cs', h1, h2⟩ := hc i (by omega)
      rw [hC] at h1
      obtain ⟨_, hl3, hg⟩ := World.cells?_some h1
      obtain ⟨xs, n', _, _, _, hlen, hf⟩ := DataW.trod_struct hs h2
      obtain ⟨o0, k0⟩ := hone_of hone 0 f0 rfl
      obtain ⟨o1, k1⟩ := hone_of hone 1 f1 rfl
      match xs, hlen, cs', hl3 with
      | [y0, y1], _, [c0, c1], _ =>
        have g0 := hf 0 f0 rfl
        have g1 := hf 1 f1 rfl
        have g0' : DataW.trod enc P w base spare held n' f0.type [c0] = some y0 := by simpa [o0, k0] using g0
        have g1' : DataW.trod enc P w base spare held n' f1.type [c1] = some y1 := by simpa [o1, k1] using g1
        obtain ⟨z0, e0, _, _⟩ := DataW.trod_int u0 g0'
        obtain ⟨s2, e2, _, ws⟩ := DataW.trod_string u1 g1'
        simp at e0 e2
        subst e0 e2
        have q0 := hg 0 (by omega)
        have q1 := hg 1 (by omega)
        rw [Go.Deep.add_add] at q0 q1
        exact ⟨(z0, s2), ⟨q0, q1⟩, ws⟩
    obtain ⟨f, hf⟩ := Go.Deep.choose_lt (α := PP) hone'
    refine ⟨a, len, cap, (List.range len).map f, hcs, by omega, ⟨by simp, fun hpos => ?_⟩, ?_⟩
    · obtain ⟨b, off, spot⟩ := a
      have hc0 := (hf 0 hpos).1.1
      have hspot : spot = none := by simpa [Addr.add] using World.cell?_spot hc0
      subst hspot
      refine ⟨b, off, rfl, World.block_lt_of_cell? w ⟨b, off, none⟩ (by have := hc0; rwa [addr_add, show off + 0 * 2 = off by omega] at this), fun i hi => ?_⟩
      have hg := (hf i hi).1
      rw [addr_add, addr_add] at hg
      have hd : ((List.range len).map f).getD i dP = f i := by rw [List.getD_eq_getElem?_getD, List.getElem?_map, List.getElem?_range hi]; rfl
      rw [hd]
      exact hg
    · intro v hv
      obtain ⟨i, hi, rfl⟩ := List.mem_map.1 hv
      exact (hf i (List.mem_range.1 hi)).2

theorem open_texts {H : Type} {enc : TypeId × Value → H} {w : World} {held : Bool} {fuel : Nat} {v : Value} {x : DataW H × List MemPlace} (h : DataW.trod enc Try.prog w 0 (fun _ => true) held fuel 23 [v] = some x) :
    ∃ a n c, ∃ ss : List ByteArray, v = .slice a n c ∧ RdV w a n (ss.map Value.string) ∧ n ≤ maxLen ∧ ∀ s ∈ ss, s.size ≤ maxLen := by
  rcases open_strings Try.underlying23 Try.underlying9 (by kernel_rfl) h with ⟨hcs, _⟩ | ⟨x, l, c, ss, hcs, _, hl, hm, hz, _, hcell, hwz⟩
  · simp at hcs
    exact ⟨none, 0, 0, [], hcs, ⟨rfl, fun h => absurd h (by omega)⟩, by unfold maxLen; omega, fun _ h => by cases h⟩
  · simp at hcs
    exact ⟨some x, l, c, _, hcs, rdV_of_row Value.string _ hl (by simpa using hz) hcell, by omega, fun s h => hwz s (List.mem_of_mem_take h)⟩
theorem open_numbers {H : Type} {enc : TypeId × Value → H} {w : World} {held : Bool} {fuel : Nat} {v : Value} {x : DataW H × List MemPlace} (h : DataW.trod enc Try.prog w 0 (fun _ => true) held fuel 25 [v] = some x) :
    ∃ a n c, ∃ zs : List Int, v = .slice a n c ∧ RdV w a n (zs.map (Value.int .i64)) ∧ n ≤ maxLen := by
  rcases open_ints Try.underlying25 Try.underlying3 (by kernel_rfl) h with ⟨hcs, _⟩ | ⟨x, l, c, zs, hcs, _, hl, hm, hz, _, hcell, hwz⟩
  · simp at hcs
    exact ⟨none, 0, 0, [], hcs, ⟨rfl, fun h => absurd h (by omega)⟩, by unfold maxLen; omega⟩
  · simp at hcs
    exact ⟨some x, l, c, _, hcs, rdV_of_row (Value.int .i64) _ hl (by simpa using hz) hcell, by omega⟩
theorem open_disk {H : Type} {enc : TypeId × Value → H} {w : World} {held : Bool} {r : Reach} {b0 : Nat} {v : Value} {d : DataW H} {p : List MemPlace} (hv : Value.okWide Try.prog w r b0 50 v) (h : DataW.Trod enc Try.prog w 0 (fun _ => true) held 50 v d p) :
    ∃ (h : HD) (D : DD), v = .agg #[.slice h.a0 h.n0 h.c0, .slice h.a1 h.n1 h.c1, .bool h.b, .slice h.a2 h.n2 h.c2] ∧ RdD w h D ∧ h.n0 ≤ maxLen ∧ h.n1 ≤ maxLen ∧ h.n2 ≤ maxLen ∧ (∀ s ∈ D.S, s.size ≤ maxLen) ∧ ∀ p ∈ D.C, p.2.size ≤ maxLen := by
  obtain ⟨v0, v1, v2, v3, y0, y1, y2, y3, n, rfl, _, _, h0, h1, h2, h3⟩ := Go.Joins.open_agg4 Try.underlying50 (by kernel_rfl) (by kernel_rfl) hv h
  obtain ⟨a0, n0, c0, ss, rfl, r0, m0, s0⟩ := open_texts h0
  obtain ⟨a2, n2, c2, zs, rfl, r2, m2⟩ := open_numbers h3
  obtain ⟨b, e2, _⟩ := DataW.trod_bool Try.underlying4 h2
  simp at e2
  subst e2
  obtain ⟨a1, n1, c1, vs, rfl, r1, m1, s1⟩ : ∃ a n c, ∃ vs : List PP, v1 = .slice a n c ∧ RdP w a n vs ∧ n ≤ maxLen ∧ ∀ p ∈ vs, p.2.size ≤ maxLen := by
    rcases open_pendings Try.underlying48 Try.underlying94 (by kernel_rfl) (by kernel_rfl) Try.underlying3 Try.underlying9 h1 with hcs | ⟨x, l, c, vs, hcs, hm, hr, hz⟩
    · simp at hcs
      exact ⟨none, 0, 0, [], hcs, ⟨rfl, fun h => absurd h (by omega)⟩, by unfold maxLen; omega, fun _ h => by cases h⟩
    · simp at hcs
      exact ⟨some x, l, c, vs, hcs, hr, hm, hz⟩
  exact ⟨⟨a0, n0, c0, a1, n1, c1, b, a2, n2, c2⟩, ⟨ss, vs, b, zs⟩, rfl, ⟨rfl, r0, r1, r2⟩, m0, m1, m2, s0, s1⟩
end Go.Proofs.Ytefbaemcdfmhpaa
