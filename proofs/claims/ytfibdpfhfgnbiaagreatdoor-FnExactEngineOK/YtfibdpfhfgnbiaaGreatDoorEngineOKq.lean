/-
  Proved: at every engine that can be handed in, EngineOK answers as its specification does, and writes nothing into the engine (FnExactEngineOK returns true); the engine and the program's two tables read afterwards as before.
  Conditions: the package's tables read when the call begins as the program's own text lays them (the card ties them). No other condition.
-/
import Derived.Test.YtfibdpfhfgnbiaaGreatDoorCards
import Derived.Test.YtfibdpfhfgnbiaaGreatDoorTie
import Derived.Test.YtfibdpfhfgnbiaaGreatDoorKit
import Derived.Test.YtfibdpfhfgnbiaaGreatDoorZzaz
import Derived.WalkKit
import Derived.ShutString
namespace Go.Proofs.YtfibdpfhfgnbiaaGreatDoor.fnExactEngineOK
open Go.ChangeShapes Go.WideShapes Go.ChangeAt Go.RowKit
open Go.ChangeMaps (open_string shut_string)
set_option linter.unusedVariables false

theorem gVar : Tryz.prog.globalNamed "loop.example/g00332/impl.halfByteSums" = some 7 := by kernel_rfl
theorem gType : (Tryz.prog.globals[7]?).map (·.type) = some 379 := by kernel_rfl
theorem gVar2 : Tryz.prog.globalNamed "loop.example/g00332/impl.fitting" = some 6 := by kernel_rfl
theorem gType2 : (Tryz.prog.globals[6]?).map (·.type) = some 359 := by kernel_rfl

theorem table {W : World} (h : laidMetH Tryz.prog Rows.fnExactEngineOKRow.laid W) : TabH W ∧ L.FitH W := by
  rw [MakeChecks.laidMetH_plain _ _ _ (by kernel_rfl)] at h
  have t : Lib.TabIs Tryz.prog W "loop.example/g00332/impl.halfByteSums" .u32 (Crc.tabL.map fun n : Nat => (n : Int)) :=
    Lib.tabIs_of_head (rest := [("loop.example/g00332/impl.fitting", Rows.laid_loop_example_g00332_impl_fitting)]) gVar gType Tryz.underlying379 Tryz.underlying306 (by kernel_rfl) (by kernel_rfl) h
  have t2 : Lib.TabIs Tryz.prog W "loop.example/g00332/impl.fitting" .u8 [0, 14, 6, 10, 0] :=
    tabIs_of_second (n0 := "loop.example/g00332/impl.halfByteSums") (d0 := Rows.laid_loop_example_g00332_impl_halfByteSums) (rest := []) gVar2 gType2 Tryz.underlying359 Tryz.underlying5 (by kernel_rfl) (by kernel_rfl) h
  refine ⟨?_, ⟨t2.cell gVar2 0 (by decide), t2.cell gVar2 1 (by decide), t2.cell gVar2 2 (by decide), t2.cell gVar2 3 (by decide), t2.cell gVar2 4 (by decide)⟩⟩
  intro i hi
  have := t.cell gVar i (by rw [List.length_map]; exact hi)
  rw [this, List.getD_eq_getElem?_getD, List.getElem?_map, List.getElem?_eq_getElem (show i < Crc.tabL.length from hi), List.getD_eq_getElem?_getD, List.getElem?_eq_getElem (show i < Crc.tabL.length from hi)]
  rfl

theorem door_met (os : Os) (args : Array Value) : laidMetH Tryz.prog Rows.fnExactEngineOKRow.laid ((World.doorLaid Tryz.prog 400 os).forCall (fun _ _ => 0) ⟨#[], args, []⟩).memory :=
  laidMetH_of_parts3 (fuel := 8) (laidMet_of_run' 8 (by kernel_rfl) (by kernel_rfl)) (by kernel_rfl) (by kernel_rfl)

set_option maxRecDepth 100000 in
theorem lifted (os : Os) (started : os.Started) (H : Type) (enc : TypeId × Value → H) :
    ReturnsInHanded {} Tryz.checked os 3 .any (fun w args => (Rows.fnExactEngineOKSpec.pre enc Tryz.prog Tryz.f3 [] false w args ∧ laidMetH Tryz.prog Rows.fnExactEngineOKRow.laid w) ∧ sizedMet enc Tryz.prog Tryz.f3 (OpenSpec.ofChange Rows.fnExactEngineOKSpec) false w args)
      (Rows.fnExactEngineOKSpec.post enc Tryz.prog Tryz.f3 false true false false) := by
  refine returnsInHanded_of_change_and (C := Tryz.checked) (X := fun w _ => laidMetH Tryz.prog Rows.fnExactEngineOKRow.laid w) (fun _ _ _ hh h => h.of_heap hh) own started (by kernel_rfl) Tryz.func3
    (ChangeSpec.witness_shaped (enc := enc) (C := Tryz.checked) (os := os) (X := fun w _ => laidMetH Tryz.prog Rows.fnExactEngineOKRow.laid w) false (World.doorLaid Tryz.prog 400 os) #[.agg #[.slice none 0 0, .slice none 0 0, .bool false, .slice none 0 0, .int .i64 0, .slice none 0 0, .int .i64 0, .slice none 0 0, .int .i64 0, .bool false, .slice none 0 0, .slice none 0 0, .slice none 0 0, .int .i64 0]] 8 rfl (World.shaped_of_RefB (by kernel_rfl) (by kernel_rfl)) (by kernel_rfl) (by kernel_rfl) (by kernel_rfl) (door_met os _)) ?_
  intro W base args ds gs before hval0 hW _ _ hL _
  have hval : ∀ (j : Nat) t v, Tryz.f3.params[j]? = some t → args[j]? = some v → Value.okWide Tryz.prog W .any base t v := hval0
  have hW' := hW
  obtain ⟨p, q, hA0, hV, rfl, hfz, hnd⟩ := hW
  have hA : DataW.TrodAll enc Tryz.prog W 0 (fun _ => true) true Tryz.f3.params.toList args.toList ds p := hA0
  rw [Tryz.params3] at hA hval
  obtain ⟨v0, vs0, d0, ds0, p0, q0, hargs, rfl, rfl, h0, r0⟩ := trodAll_cons hA
  obtain ⟨rfl, rfl, rfl⟩ := trodAll_nil r0
  obtain rfl : args = #[v0] := by cases args; simp_all
  have lt0 : ∀ x ∈ p0, x.block < W.heap.size := by obtain ⟨m, hm⟩ := h0; exact DataW.trod_lt m _ _ _ hm
  have k0 := h0
  obtain ⟨hh, dd, ep, la, ln, lc, Lg, su, fa, fn, fc, FS, ha, up, ta, tc, TT, kk, KK, WW, nx, rfl, rr, mm⟩ := open_engine (hval 0 37 v0 rfl rfl) h0
  clear hA0 hval0
  obtain ⟨g1, g2, hgs⟩ : ∃ g1 g2, gs = [g1, g2] := by obtain ⟨_, _, _, _, d, _, _, _, _, _, d2, _, e, _⟩ := trodVars_two hV; exact ⟨d, d2, e⟩
  subst hgs
  have ht := table hL
  refine (lawE hh dd ep la ln lc Lg su fa fn fc FS ha up ta tc TT kk KK WW nx W rr mm ht.1 ht.2).mono fun e W' ⟨he, bel⟩ => ?_
  subst he
  exact ⟨_, rfl, _, _, _, [], _, _, hW', trodAll_mk1 (shut_bool Tryz.underlying4 _), (trodAll_cons_mk (Below.trod laidOut (by kernel_rfl) (of_decide_eq_true (by kernel_rfl)) k0 bel lt0) trodAll_mk0), vars2_stay laidOut gVar gType (by kernel_rfl) (of_decide_eq_true (by kernel_rfl)) gVar2 gType2 (by kernel_rfl) (of_decide_eq_true (by kernel_rfl)) hV bel, bel.frame _, fun h => by cases h⟩

set_option maxRecDepth 100000 in
set_option maxHeartbeats 40000000 in
theorem closed : joinedFacts Tryz.pinned.checked.prog 3 Tryz.f3 Rows.fnExactEngineOKSpec Rows.fnExactEngineOKRow = true := by
  unfold joinedFacts
  simp only [Bool.and_eq_true]
  repeat' apply And.intro
  all_goals (as_aux_lemma => kernel_rfl)
theorem named : Tryz.pinned.checked.prog.funcNamed Rows.fnExactEngineOKRow.func = some 3 := by kernel_rfl
theorem inst : Tryz.f3.isInstance Tryz.pinned.checked.prog Rows.fnExactEngineOKRow.origin Rows.fnExactEngineOKRow.targs := of_decide_eq_true (by kernel_rfl)
theorem wrap : Tryz.f3.isWrapper Tryz.pinned.checked.prog Rows.fnExactEngineOKRow.wrapper Rows.fnExactEngineOKRow.mainSum := by unfold Func.isWrapper; first | (rw [if_pos (by decide +kernel)]; kernel_rfl) | (rw [if_neg (by decide +kernel)]; exact ⟨rfl, rfl⟩)
theorem said : Rows.FnExactEngineOKSaid :=
  OpenClaim.holds_of_wide 3 Tryz.f3 rfl rfl rfl rfl rfl rfl rfl ⟨rfl, rfl, rfl, rfl, rfl⟩ rfl rfl rfl rfl rfl named Tryz.func3 closed inst wrap
    (fun os started H enc _ => lifted os started H enc)

theorem plain (f : FuncId) (fn : Func) (hf : Tryz.pinned.checked.prog.funcNamed "loop.example/g00332/laws.FnExactEngineOK" = some f) (hfn : Tryz.pinned.checked.prog.funcs[f]? = some fn) :
    true = Tryz.pinned.checked.prog.looks [] ∧ ∀ (j : Nat) t, fn.params[j]? = some t → Tryz.pinned.checked.prog.wantsStandIn t = false := by
  obtain rfl : f = 3 := Option.some.inj ((show Tryz.prog.funcNamed "loop.example/g00332/laws.FnExactEngineOK" = some 3 by kernel_rfl).symm.trans hf) |>.symm
  obtain rfl : fn = Tryz.f3 := (Option.some.inj (Tryz.func3.symm.trans hfn)).symm
  refine ⟨by as_aux_lemma => kernel_rfl, fun j t ht => ?_⟩
  rw [Tryz.params3] at ht
  have hm : t ∈ [37] := by simpa using Array.mem_of_getElem? ht
  have hall : ([37].all fun u => !Tryz.prog.wantsStandIn u) = true := by kernel_rfl
  exact (show Tryz.prog.wantsStandIn t = false by simpa using List.all_eq_true.1 hall t hm)
end Go.Proofs.YtfibdpfhfgnbiaaGreatDoor.fnExactEngineOK
namespace Go.Proofs.YtfibdpfhfgnbiaaGreatDoor
theorem engineOK_holds : Rows.FnExactEngineOKCardSaid :=
  Claim7.holds_tied_plain_at .later [] _ _ _ _ fnExactEngineOK.said (fun _ h => by cases h) (by as_aux_lemma => kernel_rfl) (fun _ h => by cases h) fnExactEngineOK_row_tie rfl ⟨rfl, rfl⟩ (by as_aux_lemma => kernel_rfl) rfl fnExactEngineOK.plain (by as_aux_lemma => kernel_rfl)
#print axioms engineOK_holds
end Go.Proofs.YtfibdpfhfgnbiaaGreatDoor
