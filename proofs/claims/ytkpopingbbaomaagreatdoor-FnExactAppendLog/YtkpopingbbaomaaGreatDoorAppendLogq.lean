/-
  Proved: at every store that can be handed in, and at every record, AppendLog answers as its specification does, the store and the code, writes nothing into the store, and its answer owns its memory (FnExactAppendLog returns true); the store and the program's table read afterwards as before.
  Conditions: the package's table reads when the call begins as the program's own text lays it (the card ties it). No other condition.
-/
import Derived.Test.YtkpopingbbaomaaGreatDoorCards
import Derived.Test.YtkpopingbbaomaaGreatDoorTie
import Derived.Test.YtkpopingbbaomaaGreatDoorKit
import Derived.Test.YtkpopingbbaomaaGreatDoorYnuq
import Derived.Test.YtkpopingbbaomaaGreatDoorZzaw
import Derived.Test.YtkpopingbbaomaaGreatDoorZzaq
import Derived.WalkKit
import Derived.ShutString
namespace Go.Proofs.YtkpopingbbaomaaGreatDoor.fnExactAppendLog
open Go.ChangeShapes Go.WideShapes Go.ChangeAt Go.RowKit
open Go.ChangeMaps (open_string shut_string)
set_option linter.unusedVariables false

theorem gVar : Tryz.prog.globalNamed "loop.example/g00332/impl.halfByteSums" = some 7 := by kernel_rfl
theorem gType : (Tryz.prog.globals[7]?).map (·.type) = some 379 := by kernel_rfl

theorem table {W : World} (h : laidMetH Tryz.prog Rows.fnExactAppendLogRow.laid W) : TabH W := by
  rw [MakeChecks.laidMetH_plain _ _ _ (by kernel_rfl)] at h
  have t : Lib.TabIs Tryz.prog W "loop.example/g00332/impl.halfByteSums" .u32 (Crc.tabL.map fun n : Nat => (n : Int)) :=
    Lib.tabIs_of_head (rest := []) gVar gType Tryz.underlying379 Tryz.underlying306 (by kernel_rfl) (by kernel_rfl) h
  intro i hi
  have := t.cell gVar i (by rw [List.length_map]; exact hi)
  rw [this, List.getD_eq_getElem?_getD, List.getElem?_map, List.getElem?_eq_getElem (show i < Crc.tabL.length from hi), List.getD_eq_getElem?_getD, List.getElem?_eq_getElem (show i < Crc.tabL.length from hi)]
  rfl

theorem door_met (os : Os) (args : Array Value) : laidMetH Tryz.prog Rows.fnExactAppendLogRow.laid ((World.doorLaid Tryz.prog 400 os).forCall (fun _ _ => 0) ⟨#[], args, []⟩).memory :=
  laidMetH_of_parts3 (fuel := 8) (laidMet_of_run' 8 (by kernel_rfl) (by kernel_rfl)) (by kernel_rfl) (by kernel_rfl)

set_option maxRecDepth 100000 in
theorem lifted (os : Os) (started : os.Started) (H : Type) (enc : TypeId × Value → H) :
    ReturnsInHanded {} Tryz.checked os 10 .any (fun w args => (Rows.fnExactAppendLogSpec.pre enc Tryz.prog Tryz.f10 [] false w args ∧ laidMetH Tryz.prog Rows.fnExactAppendLogRow.laid w) ∧ sizedMet enc Tryz.prog Tryz.f10 (OpenSpec.ofChange Rows.fnExactAppendLogSpec) false w args)
      (Rows.fnExactAppendLogSpec.post enc Tryz.prog Tryz.f10 false true false false) := by
  refine returnsInHanded_of_change_and (C := Tryz.checked) (X := fun w _ => laidMetH Tryz.prog Rows.fnExactAppendLogRow.laid w) (fun _ _ _ hh h => h.of_heap hh) own started (by kernel_rfl) Tryz.func10
    (ChangeSpec.witness_shaped (enc := enc) (C := Tryz.checked) (os := os) (X := fun w _ => laidMetH Tryz.prog Rows.fnExactAppendLogRow.laid w) false (World.doorLaid Tryz.prog 400 os) #[.agg #[.slice none 0 0, .slice none 0 0, .bool false, .slice none 0 0, .int .i64 0, .slice none 0 0, .int .i64 0, .slice none 0 0, .int .i64 0], .agg #[.int .i64 0, .int .i64 0, .int .i64 0, .int .i64 0, .int .i64 0, .int .i64 0, .int .i64 0, .int .i64 0, .string ByteArray.empty, .string ByteArray.empty]] 8 rfl (World.shaped_of_RefB (by kernel_rfl) (by kernel_rfl)) (by kernel_rfl) (by kernel_rfl) (by kernel_rfl) (door_met os _)) ?_
  intro W base args ds gs before hval0 hW _ _ hL _
  have hval : ∀ (j : Nat) t v, Tryz.f10.params[j]? = some t → args[j]? = some v → Value.okWide Tryz.prog W .any base t v := hval0
  have hW' := hW
  obtain ⟨p, q, hA0, hV, rfl, hfz, hnd⟩ := hW
  have hA : DataW.TrodAll enc Tryz.prog W 0 (fun _ => true) true Tryz.f10.params.toList args.toList ds p := hA0
  rw [Tryz.params10] at hA hval
  obtain ⟨v0, vs0, d0, ds0, p0, q0, hargs, rfl, rfl, h0, r0⟩ := trodAll_cons hA
  obtain ⟨v1, vs1, d1, ds1, p1, q1, rfl, rfl, rfl, h1, r1⟩ := trodAll_cons r0
  obtain ⟨rfl, rfl, rfl⟩ := trodAll_nil r1
  obtain rfl : args = #[v0, v1] := by cases args; simp_all
  have lt0 : ∀ x ∈ p0, x.block < W.heap.size := by obtain ⟨m, hm⟩ := h0; exact DataW.trod_lt m _ _ _ hm
  have k0 := h0
  have lt1 : ∀ x ∈ p1, x.block < W.heap.size := by obtain ⟨m, hm⟩ := h1; exact DataW.trod_lt m _ _ _ hm
  have k1 := h1
  obtain ⟨hh, dd, ep, la, ln, lc, L, su, fa, fn, fc, FS, ha, rfl, rr, mm, r2, m2, s2, r4, m4, s4⟩ := open_store (hval 0 30 v0 rfl rfl) h0
  obtain ⟨xe, xl, xt, xk, xq, xn, xg, xs, xb, xa, rfl, mb, ma⟩ := open_rec (hval 1 72 v1 rfl rfl) h1
  clear hA0 hval0
  obtain ⟨g1, hgs⟩ : ∃ g1, gs = [g1] := by obtain ⟨_, _, _, _, d, _, e, _⟩ := trodVars_one hV; exact ⟨d, e⟩
  subst hgs
  have ht := table hL
  refine (law_FnExactAppendLog hh dd ep la ln lc L su fa fn fc FS ha ⟨xe, xl, xt, xk, xq, xn, xg, xs, xb, xa⟩ W rr ht mm.1 mm.2.1 mm.2.2.1 mm.2.2.2.1 mm.2.2.2.2 r2 m2 s2 r4 m4 s4 mb ma).mono fun e W' ⟨he, bel⟩ => ?_
  subst he
  exact ⟨_, rfl, _, _, _, [], _, _, hW', trodAll_mk1 (shut_bool Tryz.underlying4 _), (trodAll_cons_mk (Below.trod laidOut (by kernel_rfl) (of_decide_eq_true (by kernel_rfl)) k0 bel lt0) (trodAll_cons_mk (Below.trod laidOut (by kernel_rfl) (of_decide_eq_true (by kernel_rfl)) k1 bel lt1) trodAll_mk0)), vars1_stay laidOut gVar gType (by kernel_rfl) (of_decide_eq_true (by kernel_rfl)) hV bel, bel.frame _, fun h => by cases h⟩

set_option maxRecDepth 100000 in
set_option maxHeartbeats 40000000 in
theorem closed : joinedFacts Tryz.pinned.checked.prog 10 Tryz.f10 Rows.fnExactAppendLogSpec Rows.fnExactAppendLogRow = true := by
  unfold joinedFacts
  simp only [Bool.and_eq_true]
  repeat' apply And.intro
  all_goals (as_aux_lemma => kernel_rfl)
theorem named : Tryz.pinned.checked.prog.funcNamed Rows.fnExactAppendLogRow.func = some 10 := by kernel_rfl
theorem inst : Tryz.f10.isInstance Tryz.pinned.checked.prog Rows.fnExactAppendLogRow.origin Rows.fnExactAppendLogRow.targs := of_decide_eq_true (by kernel_rfl)
theorem wrap : Tryz.f10.isWrapper Tryz.pinned.checked.prog Rows.fnExactAppendLogRow.wrapper Rows.fnExactAppendLogRow.mainSum := by unfold Func.isWrapper; first | (rw [if_pos (by decide +kernel)]; kernel_rfl) | (rw [if_neg (by decide +kernel)]; exact ⟨rfl, rfl⟩)
theorem said : Rows.FnExactAppendLogSaid :=
  OpenClaim.holds_of_wide 10 Tryz.f10 rfl rfl rfl rfl rfl rfl rfl ⟨rfl, rfl, rfl, rfl, rfl⟩ rfl rfl rfl rfl rfl named Tryz.func10 closed inst wrap
    (fun os started H enc _ => lifted os started H enc)

theorem plain (f : FuncId) (fn : Func) (hf : Tryz.pinned.checked.prog.funcNamed "loop.example/g00332/laws.FnExactAppendLog" = some f) (hfn : Tryz.pinned.checked.prog.funcs[f]? = some fn) :
    true = Tryz.pinned.checked.prog.looks [] ∧ ∀ (j : Nat) t, fn.params[j]? = some t → Tryz.pinned.checked.prog.wantsStandIn t = false := by
  obtain rfl : f = 10 := Option.some.inj ((show Tryz.prog.funcNamed "loop.example/g00332/laws.FnExactAppendLog" = some 10 by kernel_rfl).symm.trans hf) |>.symm
  obtain rfl : fn = Tryz.f10 := (Option.some.inj (Tryz.func10.symm.trans hfn)).symm
  refine ⟨by as_aux_lemma => kernel_rfl, fun j t ht => ?_⟩
  rw [Tryz.params10] at ht
  have hm : t ∈ [30, 72] := by simpa using Array.mem_of_getElem? ht
  have hall : ([30, 72].all fun u => !Tryz.prog.wantsStandIn u) = true := by kernel_rfl
  exact (show Tryz.prog.wantsStandIn t = false by simpa using List.all_eq_true.1 hall t hm)
end Go.Proofs.YtkpopingbbaomaaGreatDoor.fnExactAppendLog
namespace Go.Proofs.YtkpopingbbaomaaGreatDoor
theorem appendLog_holds : Rows.FnExactAppendLogCardSaid :=
  Claim7.holds_tied_plain_at .later [] _ _ _ _ fnExactAppendLog.said (fun _ h => by cases h) (by as_aux_lemma => kernel_rfl) (fun _ h => by cases h) fnExactAppendLog_row_tie rfl ⟨rfl, rfl⟩ (by as_aux_lemma => kernel_rfl) rfl fnExactAppendLog.plain (by as_aux_lemma => kernel_rfl)
#print axioms appendLog_holds
end Go.Proofs.YtkpopingbbaomaaGreatDoor
