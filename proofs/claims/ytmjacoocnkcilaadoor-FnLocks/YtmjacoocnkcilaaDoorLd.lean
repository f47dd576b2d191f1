/-
  How locks that came in are read.
-/
import Derived.Test.YtmjacoocnkcilaaDoorLo
import Derived.ProofKit
import Derived.OpenShut
import Derived.SliceStrings
import Derived.ChangeSlices
import Derived.Lib.SmallJoins
import Derived.Deep.Slices
import Derived.Deep.Strs
namespace Go.Proofs.YtmjacoocnkcilaaDoor
open Go Go.RowKit Go.ChangeShapes Go.WideShapes Go.Deep Go.WideElems
attribute [local go_sem ↓] Go.wp_at_zero Go.wp_at_succ

theorem open_K {H : Type} {enc : TypeId × Value → H} {P : Program} {w : World} {base : Nat} {spare : Nat → Bool} {held : Bool} {t e : TypeId} {fuel : Nat} {cs : List Value} {x : DataW H × List MemPlace} {f0 f1 f2 f3 : Field}
    (ht : P.underlying t = some (.slice e)) (hs : P.underlying e = some (.struct #[f0, f1, f2, f3])) (hone : oneCellFields P #[f0, f1, f2, f3] = true) (hC : P.cellsOf e = 4)
    (u0 : P.underlying f0.type = some (.int .i64)) (u1 : P.underlying f1.type = some (.int .i64)) (u2 : P.underlying f2.type = some (.int .i64)) (u3 : P.underlying f3.type = some (.int .i64))
    (h : DataW.trod enc P w base spare held fuel t cs = some x) :
    cs = [.slice none 0 0] ∨ ∃ (a : Addr) (len cap : Nat) (vs : List LK), cs = [.slice (some a) len cap] ∧ len ≤ maxLen ∧ RdK w (some a) len vs := by
  rcases Go.Deep.open_slice ht h with ⟨h0, _⟩ | ⟨a, len, cap, m, n, D, Pl, hcs, hb, hl, hm, he, hx, hc⟩
  · exact .inl h0
  · right
    have hlm : len ≤ m := by rw [he]; split <;> omega
    have hone' : ∀ i, i < len → ∃ v : LK, w.cell? (a.add (i * 4)) = some (.int .i64 v.x) ∧ w.cell? (a.add (i * 4 + 1)) = some (.int .i64 v.b) ∧ w.cell? (a.add (i * 4 + 2)) = some (.int .i64 v.r) ∧ w.cell? (a.add (i * 4 + 3)) = some (.int .i64 v.m) := by
      intro i hi
      obtain ⟨cs', h1, h2⟩ := hc i (by omega)
      rw [hC] at h1
      obtain ⟨_, hl3, hg⟩ := World.cells?_some h1
      obtain ⟨xs, n', _, _, _, hlen, hf⟩ := DataW.trod_struct hs h2
      obtain ⟨o0, k0⟩ := hone_of hone 0 f0 rfl
      obtain ⟨o1, k1⟩ := hone_of hone 1 f1 rfl
      obtain ⟨o2, k2⟩ := hone_of hone 2 f2 rfl
      obtain ⟨o3, k3⟩ := hone_of hone 3 f3 rfl
      match xs, hlen, cs', hl3 with
      | [y0, y1, y2, y3], _, [c0, c1, c2, c3], _ =>
        have g0 := hf 0 f0 rfl
        have g0' : DataW.trod enc P w base spare held n' f0.type [c0] = some y0 := by simpa [o0, k0] using g0
        obtain ⟨z0, e0, _, _⟩ := DataW.trod_int u0 g0'
        simp at e0
        subst e0
        have q0 := hg 0 (by omega)
        rw [Go.Deep.add_add] at q0
        have g1 := hf 1 f1 rfl
        have g1' : DataW.trod enc P w base spare held n' f1.type [c1] = some y1 := by simpa [o1, k1] using g1
        obtain ⟨z1, e1, _, _⟩ := DataW.trod_int u1 g1'
        simp at e1
        subst e1
        have q1 := hg 1 (by omega)
        rw [Go.Deep.add_add] at q1
        have g2 := hf 2 f2 rfl
        have g2' : DataW.trod enc P w base spare held n' f2.type [c2] = some y2 := by simpa [o2, k2] using g2
        obtain ⟨z2, e2, _, _⟩ := DataW.trod_int u2 g2'
        simp at e2
        subst e2
        have q2 := hg 2 (by omega)
        rw [Go.Deep.add_add] at q2
        have g3 := hf 3 f3 rfl
        have g3' : DataW.trod enc P w base spare held n' f3.type [c3] = some y3 := by simpa [o3, k3] using g3
        obtain ⟨z3, e3, _, _⟩ := DataW.trod_int u3 g3'
        simp at e3
        subst e3
        have q3 := hg 3 (by omega)
        rw [Go.Deep.add_add] at q3
        exact ⟨⟨z0, z1, z2, z3⟩, q0, q1, q2, q3⟩
    haveI : Inhabited LK := ⟨dK⟩
    obtain ⟨f, hf⟩ := Go.Deep.choose_lt (α := LK) hone'
    refine ⟨a, len, cap, (List.range len).map f, hcs, by omega, ⟨by simp, fun hpos => ?_⟩⟩
    obtain ⟨b, off, spot⟩ := a
    have hc0 := (hf 0 hpos).1
    have hspot : spot = none := by simpa [Addr.add] using World.cell?_spot hc0
    subst hspot
    refine ⟨b, off, rfl, World.block_lt_of_cell? w ⟨b, off, none⟩ (by have := hc0; rwa [addr_add, show off + 0 * 4 = off by omega] at this), fun i hi => ?_⟩
    have hg := hf i hi
    rw [addr_add, addr_add, addr_add, addr_add] at hg
    have hd : ((List.range len).map f).getD i dK = f i := by rw [List.getD_eq_getElem?_getD, List.getElem?_map, List.getElem?_range hi]; rfl
    rw [hd]
    exact hg

theorem open_W {H : Type} {enc : TypeId × Value → H} {P : Program} {w : World} {base : Nat} {spare : Nat → Bool} {held : Bool} {t e : TypeId} {fuel : Nat} {cs : List Value} {x : DataW H × List MemPlace} {f0 f1 : Field}
    (ht : P.underlying t = some (.slice e)) (hs : P.underlying e = some (.struct #[f0, f1])) (hone : oneCellFields P #[f0, f1] = true) (hC : P.cellsOf e = 2)
    (u0 : P.underlying f0.type = some (.int .i64)) (u1 : P.underlying f1.type = some (.int .i64))
    (h : DataW.trod enc P w base spare held fuel t cs = some x) :
    cs = [.slice none 0 0] ∨ ∃ (a : Addr) (len cap : Nat) (vs : List WK), cs = [.slice (some a) len cap] ∧ len ≤ maxLen ∧ RdW w (some a) len vs := by
  rcases Go.Deep.open_slice ht h with ⟨h0, _⟩ | ⟨a, len, cap, m, n, D, Pl, hcs, hb, hl, hm, he, hx, hc⟩
  · exact .inl h0
  · right
    have hlm : len ≤ m := by rw [he]; split <;> omega
    have hone' : ∀ i, i < len → ∃ v : WK, w.cell? (a.add (i * 2)) = some (.int .i64 v.x) ∧ w.cell? (a.add (i * 2 + 1)) = some (.int .i64 v.f) := by
      intro i hi
      obtain ⟨cs', h1, h2⟩ := hc i (by omega)
      rw [hC] at h1
      obtain ⟨_, hl3, hg⟩ := World.cells?_some h1
      obtain ⟨xs, n', _, _, _, hlen, hf⟩ := DataW.trod_struct hs h2
      obtain ⟨o0, k0⟩ := hone_of hone 0 f0 rfl
      obtain ⟨o1, k1⟩ := hone_of hone 1 f1 rfl
      match xs, hlen, cs', hl3 with
      | [y0, y1], _, [c0, c1], _ =>
        have g0 := hf 0 f0 rfl
        have g0' : DataW.trod enc P w base spare held n' f0.type [c0] = some y0 := by simpa [o0, k0] using g0
        obtain ⟨z0, e0, _, _⟩ := DataW.trod_int u0 g0'
        simp at e0
        subst e0
        have q0 := hg 0 (by omega)
        rw [Go.Deep.add_add] at q0
        have g1 := hf 1 f1 rfl
        have g1' : DataW.trod enc P w base spare held n' f1.type [c1] = some y1 := by simpa [o1, k1] using g1
        obtain ⟨z1, e1, _, _⟩ := DataW.trod_int u1 g1'
        simp at e1
        subst e1
        have q1 := hg 1 (by omega)
        rw [Go.Deep.add_add] at q1
        exact ⟨⟨z0, z1⟩, q0, q1⟩
    haveI : Inhabited WK := ⟨dW⟩
    obtain ⟨f, hf⟩ := Go.Deep.choose_lt (α := WK) hone'
    refine ⟨a, len, cap, (List.range len).map f, hcs, by omega, ⟨by simp, fun hpos => ?_⟩⟩
    obtain ⟨b, off, spot⟩ := a
    have hc0 := (hf 0 hpos).1
    have hspot : spot = none := by simpa [Addr.add] using World.cell?_spot hc0
    subst hspot
    refine ⟨b, off, rfl, World.block_lt_of_cell? w ⟨b, off, none⟩ (by have := hc0; rwa [addr_add, show off + 0 * 2 = off by omega] at this), fun i hi => ?_⟩
    have hg := hf i hi
    rw [addr_add, addr_add] at hg
    have hd : ((List.range len).map f).getD i dW = f i := by rw [List.getD_eq_getElem?_getD, List.getElem?_map, List.getElem?_range hi]; rfl
    rw [hd]
    exact hg

set_option maxRecDepth 100000 in
theorem open_locks {H : Type} {enc : TypeId × Value → H} {w : World} {held : Bool} {r : Reach} {b0 : Nat} {v : Value} {d : DataW H} {p : List MemPlace} (hv : Value.okWide Tryd.prog w r b0 28 v) (h : DataW.Trod enc Tryd.prog w 0 (fun _ => true) held 28 v d p) :
    ∃ (h : HL) (vs : List LK) (ws : List WK), v = .agg #[.slice h.a0 vs.length h.c0, .slice h.a1 ws.length h.c1] ∧ RdL w h vs ws ∧ vs.length ≤ maxLen ∧ ws.length ≤ maxLen := by
  obtain ⟨v0, v1, y0, y1, n, rfl, _, _, h0, h1⟩ := Go.Joins.open_agg2 Tryd.underlying28 (by kernel_rfl) (by kernel_rfl) hv h
  obtain ⟨a0, n0, c0, vs, rfl, r0, m0⟩ : ∃ a n c, ∃ vs : List LK, v0 = .slice a n c ∧ RdK w a n vs ∧ n ≤ maxLen := by
    rcases open_K Tryd.underlying25 Tryd.underlying94 (by kernel_rfl) (by kernel_rfl) Tryd.underlying3 Tryd.underlying3 Tryd.underlying3 Tryd.underlying3 h0 with hcs | ⟨x, l, c, vs, hcs, hm, hr⟩
    · simp at hcs
      exact ⟨none, 0, 0, [], hcs, ⟨rfl, fun h => absurd h (by omega)⟩, by unfold maxLen; omega⟩
    · simp at hcs
      exact ⟨some x, l, c, vs, hcs, hr, hm⟩
  obtain ⟨a1, n1, c1, ws, rfl, r1, m1⟩ : ∃ a n c, ∃ ws : List WK, v1 = .slice a n c ∧ RdW w a n ws ∧ n ≤ maxLen := by
    rcases open_W Tryd.underlying26 Tryd.underlying96 (by kernel_rfl) (by kernel_rfl) Tryd.underlying3 Tryd.underlying3 h1 with hcs | ⟨x, l, c, ws, hcs, hm, hr⟩
    · simp at hcs
      exact ⟨none, 0, 0, [], hcs, ⟨rfl, fun h => absurd h (by omega)⟩, by unfold maxLen; omega⟩
    · simp at hcs
      exact ⟨some x, l, c, ws, hcs, hr, hm⟩
  have l0 := r0.1
  have l1 := r1.1
  subst l0 l1
  exact ⟨⟨a0, c0, a1, c1⟩, vs, ws, rfl, ⟨r0, r1⟩, m0, m1⟩

end Go.Proofs.YtmjacoocnkcilaaDoor
