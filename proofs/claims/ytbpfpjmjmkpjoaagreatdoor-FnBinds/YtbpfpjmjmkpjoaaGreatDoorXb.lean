/-
  Copies of nodes and of expressions.
-/
import Derived.Test.YtbpfpjmjmkpjoaaGreatDoorXa
import Derived.Deep.RegionHeld3
namespace Go.Proofs.YtbpfpjmjmkpjoaaGreatDoor
open Go Go.RowKit
attribute [local go_sem ↓] Go.wp_at_zero Go.wp_at_succ

theorem box7 {w : World} {g : Nat} {t : TypeId} {v0 v1 v2 v3 v4 v5 v6 : Value} (h : Box w g t #[v0, v1, v2, v3, v4, v5, v6]) : w.cell? ⟨g, 0, none⟩ = some v0 ∧ w.cell? ⟨g, 1, none⟩ = some v1 ∧ w.cell? ⟨g, 2, none⟩ = some v2 ∧ w.cell? ⟨g, 3, none⟩ = some v3 ∧ w.cell? ⟨g, 4, none⟩ = some v4 ∧ w.cell? ⟨g, 5, none⟩ = some v5 ∧ w.cell? ⟨g, 6, none⟩ = some v6 := ⟨h.cell 0, h.cell 1, h.cell 2, h.cell 3, h.cell 4, h.cell 5, h.cell 6⟩
theorem put7_box {w : World} {g : Nat} {t : TypeId} {x0 x1 x2 x3 x4 x5 x6 : Value} (h : Box w g t #[x0, x1, x2, x3, x4, x5, x6]) (v0 v1 v2 v3 v4 v5 v6 : Value) : Box ((((((((w).setCell ⟨g, 0, none⟩ (v0)).setCell ⟨g, 1, none⟩ (v1)).setCell ⟨g, 2, none⟩ (v2)).setCell ⟨g, 3, none⟩ (v3)).setCell ⟨g, 4, none⟩ (v4)).setCell ⟨g, 5, none⟩ (v5)).setCell ⟨g, 6, none⟩ (v6)) g t #[v0, v1, v2, v3, v4, v5, v6] := by
  have k := ((((((h.set 0 v0).set 1 v1).set 2 v2).set 3 v3).set 4 v4).set 5 v5).set 6 v6
  simpa using k
theorem put7_below {a w : World} {g B : Nat} (h : Below B a w) (hg : B ≤ g) (v0 v1 v2 v3 v4 v5 v6 : Value) : Below B a ((((((((w).setCell ⟨g, 0, none⟩ (v0)).setCell ⟨g, 1, none⟩ (v1)).setCell ⟨g, 2, none⟩ (v2)).setCell ⟨g, 3, none⟩ (v3)).setCell ⟨g, 4, none⟩ (v4)).setCell ⟨g, 5, none⟩ (v5)).setCell ⟨g, 6, none⟩ (v6)) := ((((((h.setCell hg _).setCell hg _).setCell hg _).setCell hg _).setCell hg _).setCell hg _).setCell hg _
theorem loadVar7 {w : World} {r : Nat} {v0 v1 v2 v3 v4 v5 v6 : Value} (hb : Box w r 86 #[v0, v1, v2, v3, v4, v5, v6]) : (loadVar 86 ⟨r, 0, none⟩).run Tryz.prog w = .ok (.agg #[v0, v1, v2, v3, v4, v5, v6]) w := by
  obtain ⟨x0, x1, x2, x3, x4, x5, x6⟩ := box7 hb
  simp [go_sem, x0, x1, x2, x3, x4, x5, x6]
theorem ret7 {fn : Func} {p : Tmp} (h : fn.results = #[.cell p 86]) {R : Ending → World → Prop} {a : Act} {w : World} {r : Nat} {v0 v1 v2 v3 v4 v5 v6 : Value} (hp : a.tmps.getD p undef = .pointer (some ⟨r, 0, none⟩)) (hd : a.defers = []) (hb : Box w r 86 #[v0, v1, v2, v3, v4, v5, v6]) (hR : R (.returned (.agg #[v0, v1, v2, v3, v4, v5, v6])) w) : bodyPost Tryz.prog fn R .ret a w := by
  refine bodyPost_ret ?_ hd hR
  have hp' : a.tmps[p]?.getD undef = .pointer (some ⟨r, 0, none⟩) := by simpa using hp
  simp only [results, h]
  simp [hp', asAddr, loadVar7 hb]
theorem made_zeroE (n : Nat) : (madeCells #[.int .i64 0, .int .i64 0, .int .i64 0, .int .i64 0, .int .i64 0, .int .i64 0, .string ⟨#[]⟩] (n * 7)).toList = cellsE (List.replicate n zeroE) := by
  apply List.ext_getElem?
  intro j
  by_cases hj : j < n * 7
  · have h1 : (madeCells #[.int .i64 0, .int .i64 0, .int .i64 0, .int .i64 0, .int .i64 0, .int .i64 0, .string ⟨#[]⟩] (n * 7)).toList[j]? = some ((#[.int .i64 0, .int .i64 0, .int .i64 0, .int .i64 0, .int .i64 0, .int .i64 0, .string ⟨#[]⟩] : Array Value)[j % 7]!) := by
      simp [madeCells, hj]
    rw [h1]
    have hi : j / 7 < (List.replicate n zeroE).length := by simp; omega
    have hd : (List.replicate n zeroE).getD (j / 7) zeroE = zeroE := by rw [List.getD_eq_getElem?_getD, List.getElem?_eq_getElem hi]; simp
    have c := cellsE_get (List.replicate n zeroE) (j / 7) hi (j % 7) (by omega)
    rw [hd, show j / 7 * 7 + j % 7 = j by omega] at c
    rw [c]
    have hm : j % 7 < 7 := by omega
    generalize j % 7 = m at hm
    match m, hm with
    | 0, _ => rfl
    | 1, _ => rfl
    | 2, _ => rfl
    | 3, _ => rfl
    | 4, _ => rfl
    | 5, _ => rfl
    | 6, _ => rfl
  · rw [List.getElem?_eq_none (by simp [size_madeCells]; omega), List.getElem?_eq_none (by rw [cellsE_len]; simp; omega)]
theorem infoE : (Tryz.prog.info? 86).map (fun i => (i.zero, i.size, i.bytes)) = some (some (.agg #[.int .i64 0, .int .i64 0, .int .i64 0, .int .i64 0, .int .i64 0, .int .i64 0, .string ⟨#[]⟩]), 7, 64) := by kernel_rfl
theorem own_putE {w : World} {base e g n cap : Nat} {vs : List EN} (h : w.ownsRow base e 7 (.slice (some ⟨g, 0, none⟩) n cap) n (cellsE vs)) (i : Nat) (v : EN) (hi : i < vs.length) :
    ((((((((w).setCell ⟨g, i * 7, none⟩ (.int .i64 v.o)).setCell ⟨g, i * 7 + 1, none⟩ (.int .i64 v.a)).setCell ⟨g, i * 7 + 2, none⟩ (.int .i64 v.b)).setCell ⟨g, i * 7 + 3, none⟩ (.int .i64 v.c)).setCell ⟨g, i * 7 + 4, none⟩ (.int .i64 v.k)).setCell ⟨g, i * 7 + 5, none⟩ (.int .i64 v.n)).setCell ⟨g, i * 7 + 6, none⟩ (.string v.t)).ownsRow base e 7 (.slice (some ⟨g, 0, none⟩) n cap) n (cellsE (vs.set i v)) := by
  have h0 := (h.stored (i * 7) (.int .i64 v.o)).1
  have h1 := (h0.stored (i * 7 + 1) (.int .i64 v.a)).1
  have h2 := (h1.stored (i * 7 + 2) (.int .i64 v.b)).1
  have h3 := (h2.stored (i * 7 + 3) (.int .i64 v.c)).1
  have h4 := (h3.stored (i * 7 + 4) (.int .i64 v.k)).1
  have h5 := (h4.stored (i * 7 + 5) (.int .i64 v.n)).1
  have h6 := (h5.stored (i * 7 + 6) (.string v.t)).1
  have := cellsE_set vs i v hi
  unfold setE at this
  rw [this] at h6
  exact h6
end Go.Proofs.YtbpfpjmjmkpjoaaGreatDoor
