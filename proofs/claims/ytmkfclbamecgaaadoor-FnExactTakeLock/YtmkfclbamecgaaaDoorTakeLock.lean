/-
  Proved: at all locks and any four numbers that can be handed in, TakeLock answers as its specification does, locks and code, writes nothing into its argument, keeps nothing of it, and owns the memory of its answer (FnExactTakeLock returns true); the locks and the program's tables read afterwards as before.
  Conditions: the tables of the package and of math/bits read when the call begins as the program's own text lays them (the card ties it). No other condition.
-/
import Derived.Test.YtmkfclbamecgaaaDoorCards
import Derived.Test.YtmkfclbamecgaaaDoorTie
import Derived.Test.YtmkfclbamecgaaaDoorTz
import Derived.Test.YtmkfclbamecgaaaDoorLcl
import Derived.Test.YtmkfclbamecgaaaDoorLd
import Derived.WalkKit
import Derived.ShutString
namespace Go.Proofs.YtmkfclbamecgaaaDoor.fnExactTakeLock
open Go.ChangeShapes Go.WideShapes Go.ChangeAt Go.RowKit
open Go.ChangeMaps (open_string shut_string)
set_option linter.unusedVariables false

theorem table {W : World} (h : laidMetH Tryd.prog Rows.fnExactTakeLockRow.laid W) : FitH W ∧ TabZ W := by
  rw [MakeChecks.laidMetH_plain _ _ _ (by kernel_rfl)] at h
  refine ⟨?_, tz_of (Lib.tabIs_of_head (rest := [_]) zVar zType Tryd.underlying118 Tryd.underlying5 (by kernel_rfl) (by kernel_rfl) h)⟩
  obtain ⟨ps, ⟨g0, t0, cs0, f0, p0, q0, _, _, _, _, ⟨g, t, cs, f, p, q, hg, ht, hv, hd, _, _⟩, _⟩, _⟩ := h
  obtain rfl := Option.some.inj (gVar.symm.trans hg)
  obtain rfl := Option.some.inj (gType.symm.trans ht)
  refine fit_of ?_
  unfold Lib.TabIs
  rw [hv, ← Lib.cells_of_tab (zs := [0, 14, 6, 10, 0]) Tryd.underlying92 Tryd.underlying5 (by kernel_rfl) (by kernel_rfl) hd]

theorem door_met (os : Os) (args : Array Value) : laidMetH Tryd.prog Rows.fnExactTakeLockRow.laid ((World.doorLaid Tryd.prog 400 os).forCall (fun _ _ => 0) ⟨#[], args, []⟩).memory :=
  laidMetH_of_parts3 (fuel := 8) (laidMet_of_run' 8 (by kernel_rfl) (by kernel_rfl)) (by kernel_rfl) (by kernel_rfl)

set_option maxRecDepth 100000 in
theorem lifted (os : Os) (started : os.Started) (H : Type) (enc : TypeId × Value → H) :
    ReturnsInHanded {} Tryd.checked os 9 .any (fun w args => (Rows.fnExactTakeLockSpec.pre enc Tryd.prog Tryd.f9 [] false w args ∧ laidMetH Tryd.prog Rows.fnExactTakeLockRow.laid w) ∧ sizedMet enc Tryd.prog Tryd.f9 (OpenSpec.ofChange Rows.fnExactTakeLockSpec) false w args)
      (Rows.fnExactTakeLockSpec.post enc Tryd.prog Tryd.f9 false true false false) := by
  refine returnsInHanded_of_change_and (C := Tryd.checked) (X := fun w _ => laidMetH Tryd.prog Rows.fnExactTakeLockRow.laid w) (fun _ _ _ hh h => h.of_heap hh) own started (by kernel_rfl) Tryd.func9
    (ChangeSpec.witness_shaped (enc := enc) (C := Tryd.checked) (os := os) (X := fun w _ => laidMetH Tryd.prog Rows.fnExactTakeLockRow.laid w) false (World.doorLaid Tryd.prog 400 os) #[.agg #[.slice none 0 0, .slice none 0 0], .int .i64 0, .int .i64 0, .int .i64 0, .int .i64 0] 8 rfl (World.shaped_of_RefB (by kernel_rfl) (by kernel_rfl)) (by kernel_rfl) (by kernel_rfl) (by kernel_rfl) (door_met os _)) ?_
  intro W base args ds gs before hval0 hW _ _ hL _
  have hval : ∀ (j : Nat) t v, Tryd.f9.params[j]? = some t → args[j]? = some v → Value.okWide Tryd.prog W .any base t v := hval0
  have hW' := hW
  obtain ⟨p, q, hA0, hV, rfl, hfz, hnd⟩ := hW
  have hA : DataW.TrodAll enc Tryd.prog W 0 (fun _ => true) true Tryd.f9.params.toList args.toList ds p := hA0
  rw [Tryd.params9] at hA hval
  obtain ⟨v0, vs0, d0, ds0, p0, q0, hargs, rfl, rfl, h0, r0⟩ := trodAll_cons hA
  obtain ⟨v1, vs1, d1, ds1, p1, q1, rfl, rfl, rfl, h1, r1⟩ := trodAll_cons r0
  obtain ⟨v2, vs2, d2, ds2, p2, q2, rfl, rfl, rfl, h2, r2⟩ := trodAll_cons r1
  obtain ⟨v3, vs3, d3, ds3, p3, q3, rfl, rfl, rfl, h3, r3⟩ := trodAll_cons r2
  obtain ⟨v4, vs4, d4, ds4, p4, q4, rfl, rfl, rfl, h4, r4⟩ := trodAll_cons r3
  obtain ⟨rfl, rfl, rfl⟩ := trodAll_nil r4
  obtain rfl : args = #[v0, v1, v2, v3, v4] := by cases args; simp_all
  have lt0 : ∀ x ∈ p0, x.block < W.heap.size := by obtain ⟨m, hm⟩ := h0; exact DataW.trod_lt m _ _ _ hm
  have k0 := h0
  have lt1 : ∀ x ∈ p1, x.block < W.heap.size := by obtain ⟨m, hm⟩ := h1; exact DataW.trod_lt m _ _ _ hm
  have k1 := h1
  have lt2 : ∀ x ∈ p2, x.block < W.heap.size := by obtain ⟨m, hm⟩ := h2; exact DataW.trod_lt m _ _ _ hm
  have k2 := h2
  have lt3 : ∀ x ∈ p3, x.block < W.heap.size := by obtain ⟨m, hm⟩ := h3; exact DataW.trod_lt m _ _ _ hm
  have k3 := h3
  have lt4 : ∀ x ∈ p4, x.block < W.heap.size := by obtain ⟨m, hm⟩ := h4; exact DataW.trod_lt m _ _ _ hm
  have k4 := h4
  obtain ⟨hh, vs, ws, rfl, rr, m0, m1⟩ := open_locks (hval 0 28 v0 rfl rfl) h0
  obtain ⟨n1, rfl, rfl, rfl, _⟩ := open_int Tryd.underlying3 (hval 1 3 v1 rfl rfl) h1
  obtain ⟨n2, rfl, rfl, rfl, _⟩ := open_int Tryd.underlying3 (hval 2 3 v2 rfl rfl) h2
  obtain ⟨n3, rfl, rfl, rfl, _⟩ := open_int Tryd.underlying3 (hval 3 3 v3 rfl rfl) h3
  obtain ⟨n4, rfl, rfl, rfl, _⟩ := open_int Tryd.underlying3 (hval 4 3 v4 rfl rfl) h4
  clear hA0 hval0
  obtain ⟨g1, hgs⟩ : ∃ g1, gs = [g1] := by obtain ⟨_, _, _, _, d, _, e, _⟩ := trodVars_one hV; exact ⟨d, e⟩
  subst hgs
  obtain ⟨ht, hz⟩ := table hL
  refine (law_FnExactTakeLock hh vs ws n1 n2 n3 n4 (tlV vs ws n1 n2 n3 n4) (tlW vs ws n1 n2 n3 n4) (tlC vs ws n1 n2 n3 n4) W rr m0 m1 (fun _ _ => tl_len vs ws n1 n2 n3 n4) (fun f0 f1 W2 h2 _ r2 => (c_specTL h2 vs ws n1 n2 n3 n4 W2 r2.choose_spec.rd f0 f1 (fun e => own_src r2.choose_spec.1 e) (fun e => own_src r2.choose_spec.2.1 e)).mono (fun _ _ ⟨⟨h3, e1, o⟩, b⟩ => ⟨⟨h3, e1, o.rd⟩, b⟩)) (fun f0 f1 W2 h2 hb r2 => c_implTL h2 vs ws n1 n2 n3 n4 W2 r2.choose_spec.rd f0 f1 (ht.below hb) (hz.below hb) (fun e => own_src r2.choose_spec.1 e) (fun e => own_src r2.choose_spec.2.1 e))).mono fun e W' ⟨he, bel⟩ => ?_
  subst he
  exact ⟨_, rfl, _, _, _, [], _, _, hW', trodAll_mk1 (shut_bool Tryd.underlying4 _), (trodAll_cons_mk (Below.trod laidOut (by kernel_rfl) (of_decide_eq_true (by kernel_rfl)) k0 bel lt0) (trodAll_cons_mk (Below.trod laidOut (by kernel_rfl) (of_decide_eq_true (by kernel_rfl)) k1 bel lt1) (trodAll_cons_mk (Below.trod laidOut (by kernel_rfl) (of_decide_eq_true (by kernel_rfl)) k2 bel lt2) (trodAll_cons_mk (Below.trod laidOut (by kernel_rfl) (of_decide_eq_true (by kernel_rfl)) k3 bel lt3) (trodAll_cons_mk (Below.trod laidOut (by kernel_rfl) (of_decide_eq_true (by kernel_rfl)) k4 bel lt4) trodAll_mk0))))), vars1_stay laidOut gVar gType (by kernel_rfl) (of_decide_eq_true (by kernel_rfl)) hV bel, bel.frame _, fun h => by cases h⟩

theorem said : Rows.FnExactTakeLockSaid :=
  OpenClaim.holds_of_wide 9 Tryd.f9 rfl rfl rfl rfl rfl rfl rfl ⟨rfl, rfl, rfl, rfl, rfl⟩ rfl rfl rfl rfl rfl (by kernel_rfl) Tryd.func9 (by kernel_rfl)
    (of_decide_eq_true (by kernel_rfl)) (by unfold Func.isWrapper; first | (rw [if_pos (by decide +kernel)]; kernel_rfl) | (rw [if_neg (by decide +kernel)]; exact ⟨rfl, rfl⟩))
    (fun os started H enc _ => lifted os started H enc)

theorem plain (f : FuncId) (fn : Func) (hf : Tryd.pinned.checked.prog.funcNamed "loop.example/g00332/laws.FnExactTakeLock" = some f) (hfn : Tryd.pinned.checked.prog.funcs[f]? = some fn) :
    false = Tryd.pinned.checked.prog.looks [] ∧ ∀ (j : Nat) t, fn.params[j]? = some t → Tryd.pinned.checked.prog.wantsStandIn t = false := by
  obtain rfl : f = 9 := Option.some.inj ((show Tryd.prog.funcNamed "loop.example/g00332/laws.FnExactTakeLock" = some 9 by kernel_rfl).symm.trans hf) |>.symm
  obtain rfl : fn = Tryd.f9 := (Option.some.inj (Tryd.func9.symm.trans hfn)).symm
  refine ⟨by kernel_rfl, fun j t ht => ?_⟩
  rw [Tryd.params9] at ht
  have hm : t ∈ [28, 3, 3, 3, 3] := by simpa using Array.mem_of_getElem? ht
  have hall : ([28, 3, 3, 3, 3].all fun u => !Tryd.prog.wantsStandIn u) = true := by kernel_rfl
  exact (show Tryd.prog.wantsStandIn t = false by simpa using List.all_eq_true.1 hall t hm)
end Go.Proofs.YtmkfclbamecgaaaDoor.fnExactTakeLock
namespace Go.Proofs.YtmkfclbamecgaaaDoor
theorem takeLock_holds : Rows.FnExactTakeLockCardSaid :=
  Claim7.holds_tied_plain_at .later [] _ _ _ _ fnExactTakeLock.said (fun _ h => by cases h) (by kernel_rfl) (fun _ h => by cases h) fnExactTakeLock_row_tie rfl ⟨rfl, rfl⟩ (by kernel_rfl) rfl fnExactTakeLock.plain (by kernel_rfl)
#print axioms takeLock_holds
end Go.Proofs.YtmkfclbamecgaaaDoor
