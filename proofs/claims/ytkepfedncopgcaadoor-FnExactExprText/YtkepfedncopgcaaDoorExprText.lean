/-
  Proved: at every expression that can be handed in, ExprText answers as its specification does, text and code, and writes nothing into the expression (FnExactExprText returns true); the expression and the program's two tables read afterwards as before.
  Conditions: the tables of the package and of the library read when the call begins as the program's own text lays them (the card ties it). No other condition.
-/
import Derived.Test.YtkepfedncopgcaaDoorCards
import Derived.Test.YtkepfedncopgcaaDoorTie
import Derived.Test.YtkepfedncopgcaaDoorKit
import Derived.Test.YtkepfedncopgcaaDoorTe
import Derived.Test.YtkepfedncopgcaaDoorXo
import Derived.WalkKit
import Derived.ShutString
namespace Go.Proofs.YtkepfedncopgcaaDoor.fnExactExprText
open Go.ChangeShapes Go.WideShapes Go.ChangeAt Go.RowKit
open Go.ChangeMaps (open_string shut_string)
set_option linter.unusedVariables false

theorem gCol : Tryd.prog.globalNamed "loop.example/g00332/impl.exprColumns" = some 1 := by kernel_rfl
theorem tCol : (Tryd.prog.globals[1]?).map (·.type) = some 74 := by kernel_rfl
theorem gSig : Tryd.prog.globalNamed "loop.example/g00332/impl.exprSigns" = some 2 := by kernel_rfl
theorem tSig : (Tryd.prog.globals[2]?).map (·.type) = some 101 := by kernel_rfl

def cols : List (List UInt8) := [[105, 100], [110], [110, 97, 109, 101]]
def signs : List (List UInt8) := [[], [], [], [], [], [], [43], [45], [42], [47], [61], [60], [97, 110, 100], [111, 114]]
set_option maxRecDepth 100000 in
theorem table {W : World} (h : laidMetH Tryd.prog Rows.fnExactExprTextRow.laid W) : Tabs W := by
  rw [MakeChecks.laidMetH_plain _ _ _ (by kernel_rfl)] at h
  obtain ⟨ps, ⟨g0, t0, cs0, f0, p0, q0, _, _, _, _, ⟨g1, t1, cs1, f1, p1, q1, _, _, _, _, ⟨g, t, cs, f, p, q, hg, ht, hv, hd, ⟨g3, t3, cs3, f3, p3, q3, hg3, ht3, hv3, hd3, ⟨g4, t4, cs4, f4, p4, q4, hg4, ht4, hv4, hd4, _, _⟩, _⟩, _⟩, _⟩, _⟩, _⟩ := h
  obtain rfl := Option.some.inj ((show Tryd.prog.globalNamed "internal/strconv.uint64pow10" = some 4 by kernel_rfl).symm.trans hg)
  obtain rfl := Option.some.inj ((show (Tryd.prog.globals[4]?).map (·.type) = some 150 by kernel_rfl).symm.trans ht)
  obtain rfl := Option.some.inj (gCol.symm.trans hg3)
  obtain rfl := Option.some.inj (tCol.symm.trans ht3)
  obtain rfl := Option.some.inj (gSig.symm.trans hg4)
  obtain rfl := Option.some.inj (tSig.symm.trans ht4)
  have e3 := cells_of_strs (ss := cols) Tryd.underlying74 Tryd.underlying9 (by kernel_rfl) (by kernel_rfl) hd3
  have e4 := cells_of_strs (ss := signs) Tryd.underlying101 Tryd.underlying9 (by kernel_rfl) (by kernel_rfl) hd4
  obtain ⟨u3, fr3, hb3⟩ := var_block hg3 hv3
  obtain ⟨u4, fr4, hb4⟩ := var_block hg4 hv4
  have x3 : cs3 = ⟨cols.map fun s => Value.string ⟨s.toArray⟩⟩ := by cases cs3; simp only at e3; rw [e3]
  have x4 : cs4 = ⟨signs.map fun s => Value.string ⟨s.toArray⟩⟩ := by cases cs4; simp only at e4; rw [e4]
  rw [x3] at hb3
  rw [x4] at hb4
  refine ⟨?_, ?_, ?_⟩
  · unfold TabC
    simp only [World.cell?, hb3]
    exact ⟨rfl, rfl, rfl⟩
  · unfold TabS
    simp only [World.cell?, hb4]
    exact ⟨rfl, rfl, rfl, rfl, rfl, rfl, rfl, rfl, rfl, rfl, rfl, rfl, rfl, rfl⟩
  · show Lib.TabIs Tryd.prog W "internal/strconv.uint64pow10" .u64 Lib.pow10Tab
    unfold Lib.TabIs
    rw [hv, ← Lib.cells_of_tab (zs := Lib.pow10Tab) Tryd.underlying150 Tryd.underlying139 (by kernel_rfl) (by kernel_rfl) hd]

theorem door_met (os : Os) (args : Array Value) : laidMetH Tryd.prog Rows.fnExactExprTextRow.laid ((World.doorLaid Tryd.prog 400 os).forCall (fun _ _ => 0) ⟨#[], args, []⟩).memory :=
  laidMetH_of_parts3 (fuel := 8) (laidMet_of_run' 8 (by kernel_rfl) (by kernel_rfl)) (by kernel_rfl) (by kernel_rfl)

set_option maxRecDepth 100000 in
theorem lifted (os : Os) (started : os.Started) (H : Type) (enc : TypeId × Value → H) :
    ReturnsInHanded {} Tryd.checked os 3 .any (fun w args => (Rows.fnExactExprTextSpec.pre enc Tryd.prog Tryd.f3 [] false w args ∧ laidMetH Tryd.prog Rows.fnExactExprTextRow.laid w) ∧ sizedMet enc Tryd.prog Tryd.f3 (OpenSpec.ofChange Rows.fnExactExprTextSpec) false w args)
      (Rows.fnExactExprTextSpec.post enc Tryd.prog Tryd.f3 false true false false) := by
  refine returnsInHanded_of_change_and (C := Tryd.checked) (X := fun w _ => laidMetH Tryd.prog Rows.fnExactExprTextRow.laid w) (fun _ _ _ hh h => h.of_heap hh) own started (by kernel_rfl) Tryd.func3
    (ChangeSpec.witness_shaped (enc := enc) (C := Tryd.checked) (os := os) (X := fun w _ => laidMetH Tryd.prog Rows.fnExactExprTextRow.laid w) false (World.doorLaid Tryd.prog 400 os) #[.agg #[.slice none 0 0]] 8 rfl (World.shaped_of_RefB (by kernel_rfl) (by kernel_rfl)) (by kernel_rfl) (by kernel_rfl) (by kernel_rfl) (door_met os _)) ?_
  intro W base args ds gs before hval0 hW _ _ hL _
  have hval : ∀ (j : Nat) t v, Tryd.f3.params[j]? = some t → args[j]? = some v → Value.okWide Tryd.prog W .any base t v := hval0
  have hW' := hW
  obtain ⟨p, q, hA0, hV, rfl, hfz, hnd⟩ := hW
  have hA : DataW.TrodAll enc Tryd.prog W 0 (fun _ => true) true Tryd.f3.params.toList args.toList ds p := hA0
  rw [Tryd.params3] at hA hval
  obtain ⟨v0, vs0, d0, ds0, p0, q0, hargs, rfl, rfl, h0, r0⟩ := trodAll_cons hA
  obtain ⟨rfl, rfl, rfl⟩ := trodAll_nil r0
  obtain rfl : args = #[v0] := by cases args; simp_all
  have lt0 : ∀ x ∈ p0, x.block < W.heap.size := by obtain ⟨m, hm⟩ := h0; exact DataW.trod_lt m _ _ _ hm
  have k0 := h0
  obtain ⟨a0, n0, c0, L, rfl, wl, w0, ws⟩ := open_expr (hval 0 24 v0 rfl rfl) h0
  clear hA0 hval0
  obtain ⟨g1, g2, hgs⟩ : ∃ g1 g2, gs = [g1, g2] := by
    match gs, hV with
    | d :: gs', h => obtain ⟨_, _, _, _, _, _, _, _, _, _, hrest, _⟩ := h; obtain ⟨_, _, _, _, d2, _, e, _⟩ := trodVars_one hrest; exact ⟨d, d2, by rw [e]⟩
  subst hgs
  have ht := table hL
  refine (law_FnExactExprText a0 n0 c0 L W w0 wl ws ht).mono fun e W' ⟨he, bel⟩ => ?_
  subst he
  exact ⟨_, rfl, _, _, _, [], _, _, hW', trodAll_mk1 (shut_bool Tryd.underlying4 _), (trodAll_cons_mk (Below.trod laidOut (by kernel_rfl) (of_decide_eq_true (by kernel_rfl)) k0 bel lt0) trodAll_mk0), vars2_stay laidOut gCol tCol (by kernel_rfl) (of_decide_eq_true (by kernel_rfl)) gSig tSig (by kernel_rfl) (of_decide_eq_true (by kernel_rfl)) hV bel, bel.frame _, fun h => by cases h⟩

theorem said : Rows.FnExactExprTextSaid :=
  OpenClaim.holds_of_wide 3 Tryd.f3 rfl rfl rfl rfl rfl rfl rfl ⟨rfl, rfl, rfl, rfl, rfl⟩ rfl rfl rfl rfl rfl (by kernel_rfl) Tryd.func3 (by kernel_rfl)
    (of_decide_eq_true (by kernel_rfl)) (by unfold Func.isWrapper; first | (rw [if_pos (by decide +kernel)]; kernel_rfl) | (rw [if_neg (by decide +kernel)]; exact ⟨rfl, rfl⟩))
    (fun os started H enc _ => lifted os started H enc)

theorem plain (f : FuncId) (fn : Func) (hf : Tryd.pinned.checked.prog.funcNamed "loop.example/g00332/laws.FnExactExprText" = some f) (hfn : Tryd.pinned.checked.prog.funcs[f]? = some fn) :
    true = Tryd.pinned.checked.prog.looks [] ∧ ∀ (j : Nat) t, fn.params[j]? = some t → Tryd.pinned.checked.prog.wantsStandIn t = false := by
  obtain rfl : f = 3 := Option.some.inj ((show Tryd.prog.funcNamed "loop.example/g00332/laws.FnExactExprText" = some 3 by kernel_rfl).symm.trans hf) |>.symm
  obtain rfl : fn = Tryd.f3 := (Option.some.inj (Tryd.func3.symm.trans hfn)).symm
  refine ⟨by kernel_rfl, fun j t ht => ?_⟩
  rw [Tryd.params3] at ht
  have hm : t ∈ [24] := by simpa using Array.mem_of_getElem? ht
  have hall : ([24].all fun u => !Tryd.prog.wantsStandIn u) = true := by kernel_rfl
  exact (show Tryd.prog.wantsStandIn t = false by simpa using List.all_eq_true.1 hall t hm)
end Go.Proofs.YtkepfedncopgcaaDoor.fnExactExprText
namespace Go.Proofs.YtkepfedncopgcaaDoor
theorem exprText_holds : Rows.FnExactExprTextCardSaid :=
  Claim7.holds_tied_plain_at .later [] _ _ _ _ fnExactExprText.said (fun _ h => by cases h) (by kernel_rfl) (fun _ h => by cases h) fnExactExprText_row_tie rfl ⟨rfl, rfl⟩ (by kernel_rfl) rfl fnExactExprText.plain (by kernel_rfl)
#print axioms exprText_holds
end Go.Proofs.YtkepfedncopgcaaDoor
