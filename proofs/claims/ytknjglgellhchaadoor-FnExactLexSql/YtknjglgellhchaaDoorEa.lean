/-
  What expressions mean: the leaves of EvalExpr.
-/
import Derived.Test.YtknjglgellhchaaDoorXr
import Derived.Test.YtknjglgellhchaaDoorXc
namespace Go.Proofs.YtknjglgellhchaaDoor
open Go Go.RowKit
set_option linter.unusedVariables false
set_option linter.unusedSimpArgs false

/-- A value and a code. -/
structure EV where
  k : Int
  n : Int
  t : ByteArray
  c : Int
def errE (c : Int) : EV := ⟨0, 0, ⟨#[]⟩, c⟩
def numE (n : Int) : EV := ⟨1, n, ⟨#[]⟩, 0⟩
def colE (c : Int) (i : Int) (u v : VV) : EV := if c = 0 then ⟨1, i, ⟨#[]⟩, 0⟩ else if c = 1 then ⟨u.1, u.2.1, u.2.2, 0⟩ else ⟨v.1, v.2.1, v.2.2, 0⟩
theorem box3 {w : World} {g : Nat} {t : TypeId} {v0 v1 v2 : Value} (h : Box w g t #[v0, v1, v2]) : w.cell? ⟨g, 0, none⟩ = some v0 ∧ w.cell? ⟨g, 1, none⟩ = some v1 ∧ w.cell? ⟨g, 2, none⟩ = some v2 := ⟨h.cell 0, h.cell 1, h.cell 2⟩
theorem loadVar3 {w : World} {r : Nat} {v0 v1 v2 : Value} (hb : Box w r 48 #[v0, v1, v2]) : (loadVar 48 ⟨r, 0, none⟩).run Tryd.prog w = .ok (.agg #[v0, v1, v2]) w := by
  obtain ⟨x0, x1, x2⟩ := box3 hb
  simp [go_sem, x0, x1, x2]
theorem ret3v {fn : Func} {p : Tmp} (h : fn.results = #[.cell p 48]) {R : Ending → World → Prop} {a : Act} {w : World} {r : Nat} {v0 v1 v2 : Value} (hp : a.tmps.getD p undef = .pointer (some ⟨r, 0, none⟩)) (hd : a.defers = []) (hb : Box w r 48 #[v0, v1, v2]) (hR : R (.returned (.agg #[v0, v1, v2])) w) : bodyPost Tryd.prog fn R .ret a w := by
  refine bodyPost_ret ?_ hd hR
  have hp' : a.tmps[p]?.getD undef = .pointer (some ⟨r, 0, none⟩) := by simpa using hp
  simp only [results, h]
  simp [hp', asAddr, loadVar3 hb]
theorem ixA0 (c0 c1 c2 c3 c4 c5 c6 c7 c8 : Value) (wx : World) : (Instr.index 150 (.agg #[c0, c1, c2, c3, c4, c5, c6, c7, c8]) (.int .i64 0)).run Tryd.prog wx = .ok (.agg #[c0, c1, c2]) wx := by kernel_rfl
theorem ixA1 (c0 c1 c2 c3 c4 c5 c6 c7 c8 : Value) (wx : World) : (Instr.index 150 (.agg #[c0, c1, c2, c3, c4, c5, c6, c7, c8]) (.int .i64 1)).run Tryd.prog wx = .ok (.agg #[c3, c4, c5]) wx := by kernel_rfl
theorem ixA2 (c0 c1 c2 c3 c4 c5 c6 c7 c8 : Value) (wx : World) : (Instr.index 150 (.agg #[c0, c1, c2, c3, c4, c5, c6, c7, c8]) (.int .i64 2)).run Tryd.prog wx = .ok (.agg #[c6, c7, c8]) wx := by kernel_rfl
set_option maxRecDepth 100000 in
set_option maxHeartbeats 4000000 in
theorem c_colV (c : Int) (i : Int) (u v : VV) (w : World) (h : inB c 0 2 = true) : Calls Tryd.prog 89 #[.int .i64 c, .agg #[.int .i64 i, .int .i64 u.1, .int .i64 u.2.1, .string u.2.2, .int .i64 v.1, .int .i64 v.2.1, .string v.2.2]] w fun e w' => e = .returned (.agg #[.int .i64 (colE c i u v).k, .int .i64 (colE c i u v).n, .string (colE c i u v).t]) ∧ Below w.heap.size w w' := by
  have hc : c = 0 ∨ c = 1 ∨ c = 2 := by unfold inB at h; simp at h; omega
  have hix0 : ∀ wx : World, (Instr.index 150 (.agg #[.int .i64 1, .int .i64 i, .string ⟨#[]⟩, .int .i64 u.1, .int .i64 u.2.1, .string u.2.2, .int .i64 v.1, .int .i64 v.2.1, .string v.2.2]) (.int .i64 0)).run Tryd.prog wx = .ok (.agg #[.int .i64 1, .int .i64 i, .string ⟨#[]⟩]) wx := fun wx => ixA0 _ _ _ _ _ _ _ _ _ wx
  have hix1 : ∀ wx : World, (Instr.index 150 (.agg #[.int .i64 1, .int .i64 i, .string ⟨#[]⟩, .int .i64 u.1, .int .i64 u.2.1, .string u.2.2, .int .i64 v.1, .int .i64 v.2.1, .string v.2.2]) (.int .i64 1)).run Tryd.prog wx = .ok (.agg #[.int .i64 u.1, .int .i64 u.2.1, .string u.2.2]) wx := fun wx => ixA1 _ _ _ _ _ _ _ _ _ wx
  have hix2 : ∀ wx : World, (Instr.index 150 (.agg #[.int .i64 1, .int .i64 i, .string ⟨#[]⟩, .int .i64 u.1, .int .i64 u.2.1, .string u.2.2, .int .i64 v.1, .int .i64 v.2.1, .string v.2.2]) (.int .i64 2)).run Tryd.prog wx = .ok (.agg #[.int .i64 v.1, .int .i64 v.2.1, .string v.2.2]) wx := fun wx => ixA2 _ _ _ _ _ _ _ _ _ wx
  rcases hc with rfl | rfl | rfl
  all_goals
    clear h
    go_enter Tryd.func89, Tryd.ntmps89
    go_wp2
    refine ret3v Tryd.results89 rfl rfl (Box.new2 _ _ _ _) ⟨rfl, ((Below.refl _ _).alloc (Nat.le_refl _) _).alloc (by simp) _⟩
theorem nil_of_list {t : ByteArray} (h : t.toList = []) : t = ⟨#[]⟩ := by
  rw [ByteArray.toList_eq] at h
  cases t with
  | mk d => cases d with | mk l => simp at h; subst h; rfl
theorem val_nothing {n : Int} {t : ByteArray} (h : valB 0 n t = true) : n = 0 ∧ t = ⟨#[]⟩ := by
  rw [val0] at h
  simp only [Bool.and_eq_true, beq_iff_eq] at h
  exact ⟨h.1, nil_of_list (List.isEmpty_iff.1 h.2)⟩
end Go.Proofs.YtknjglgellhchaaDoor
