/-
  StmtText: the program, by the ways through it.
-/
import Derived.Test.YtknjglgellhchaaDoorVa
import Derived.Test.YtknjglgellhchaaDoorUb
import Derived.Test.YtknjglgellhchaaDoorBx
import Derived.Deep.RegionHeld3
namespace Go.Proofs.YtknjglgellhchaaDoor
open Go Go.RowKit
attribute [local go_sem ↓] Go.wp_at_zero Go.wp_at_succ

set_option linter.unusedVariables false
set_option linter.unusedSimpArgs false
theorem wh_ok {k tb : Int} {rz rk : Bool} {c : Int} {sn : Nat} {okS : Bool} {wn : Nat} {okW : Bool} {o : Int} {d : Bool} (h : stB k tb rz rk c sn okS wn okW o d = true) (hw : (wn == 0) = false) : okW = true := by
  cases okW
  · exfalso
    unfold stB at h
    rw [hw] at h
    simp at h
  · rfl
theorem rw_sizes {i : Int} {u v : VV} (h : rowB i u v = true) (h1 : u.2.2.size ≤ maxLen) (h2 : v.2.2.size ≤ maxLen) : (rwS i u v 0).size ≤ 30 ∧ (rwS i u v 1).size ≤ 30 ∧ (rwS i u v 2).size ≤ 30 := by
  have hk : rowK ⟨i, u.1, u.2.1, u.2.2, v.1, v.2.1, v.2.2⟩ = true := h
  obtain ⟨hi, ha, hb⟩ := rowK_parts hk
  refine ⟨?_, vtS_size ha h1, vtS_size hb h2⟩
  have e : rwS i u v 0 = itB i := rwS0 hk
  rw [e]
  have := itB_size (n := i) (by have := hi.1; have : 0 ≤ i := this; omega) (by have : i ≤ 1000 := hi.2; omega)
  omega

end Go.Proofs.YtknjglgellhchaaDoor
