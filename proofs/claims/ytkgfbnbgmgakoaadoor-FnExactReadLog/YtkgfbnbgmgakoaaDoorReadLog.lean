/-
  Proved: at every disk and every epoch that can be handed in, ReadLog answers as its specification does, records and code, writes nothing into the disk, keeps nothing of it, and owns the memory of its answer (FnExactReadLog returns true); the disk and the program's table read afterwards as before.
  Conditions: the package's table reads when the call begins as the program's own text lays it (the card ties it). No other condition.
-/
import Derived.Test.YtkgfbnbgmgakoaaDoorCards
import Derived.Test.YtkgfbnbgmgakoaaDoorTie
import Derived.Test.YtkgfbnbgmgakoaaDoorKit
import Derived.Test.YtkgfbnbgmgakoaaDoorYmz
import Derived.WalkKit
import Derived.ShutString
namespace Go.Proofs.YtkgfbnbgmgakoaaDoor.fnExactReadLog
open Go.ChangeShapes Go.WideShapes Go.ChangeAt Go.RowKit
open Go.ChangeMaps (open_string shut_string)
set_option linter.unusedVariables false

theorem logL_len (T : Nat → ByteArray) (n0 : Nat) (ep : Int) : ∀ (f : Nat) (acc : List DR), (logL T n0 ep f acc).length ≤ acc.length + f
  | 0, acc => Nat.le_refl _
  | f + 1, acc => by
    unfold logL
    split
    · rename_i r _
      have := logL_len T n0 ep f (acc ++ [r])
      rw [List.length_append] at this
      simp only [List.length_cons, List.length_nil] at this
      omega
    · omega
theorem logR_len (D : DD) (ep : Int) : (logR D ep).length ≤ 1000 := by
  unfold logR
  split
  · have := logL_len (rdS D.S D.C) D.S.length ep 200 []
    simp only [List.length_nil] at this
    omega
  · simp
theorem gVar : Tryd.prog.globalNamed "loop.example/g00332/impl.halfByteSums" = some 0 := by kernel_rfl
theorem gType : (Tryd.prog.globals[0]?).map (·.type) = some 203 := by kernel_rfl

theorem table {W : World} (h : laidMetH Tryd.prog Rows.fnExactReadLogRow.laid W) : TabH W := by
  rw [MakeChecks.laidMetH_plain _ _ _ (by kernel_rfl)] at h
  have t : Lib.TabIs Tryd.prog W "loop.example/g00332/impl.halfByteSums" .u32 (Crc.tabL.map fun n : Nat => (n : Int)) :=
    Lib.tabIs_of_head (rest := []) gVar gType Tryd.underlying203 Tryd.underlying195 (by kernel_rfl) (by kernel_rfl) h
  intro i hi
  have := t.cell gVar i (by rw [List.length_map]; exact hi)
  rw [this, List.getD_eq_getElem?_getD, List.getElem?_map, List.getElem?_eq_getElem (show i < Crc.tabL.length from hi), List.getD_eq_getElem?_getD, List.getElem?_eq_getElem (show i < Crc.tabL.length from hi)]
  rfl

theorem door_met (os : Os) (args : Array Value) : laidMetH Tryd.prog Rows.fnExactReadLogRow.laid ((World.doorLaid Tryd.prog 400 os).forCall (fun _ _ => 0) ⟨#[], args, []⟩).memory :=
  laidMetH_of_parts3 (fuel := 8) (laidMet_of_run' 8 (by kernel_rfl) (by kernel_rfl)) (by kernel_rfl) (by kernel_rfl)

set_option maxRecDepth 100000 in
theorem lifted (os : Os) (started : os.Started) (H : Type) (enc : TypeId × Value → H) :
    ReturnsInHanded {} Tryd.checked os 6 .any (fun w args => (Rows.fnExactReadLogSpec.pre enc Tryd.prog Tryd.f6 [] false w args ∧ laidMetH Tryd.prog Rows.fnExactReadLogRow.laid w) ∧ sizedMet enc Tryd.prog Tryd.f6 (OpenSpec.ofChange Rows.fnExactReadLogSpec) false w args)
      (Rows.fnExactReadLogSpec.post enc Tryd.prog Tryd.f6 false true false false) := by
  refine returnsInHanded_of_change_and (C := Tryd.checked) (X := fun w _ => laidMetH Tryd.prog Rows.fnExactReadLogRow.laid w) (fun _ _ _ hh h => h.of_heap hh) own started (by kernel_rfl) Tryd.func6
    (ChangeSpec.witness_shaped (enc := enc) (C := Tryd.checked) (os := os) (X := fun w _ => laidMetH Tryd.prog Rows.fnExactReadLogRow.laid w) false (World.doorLaid Tryd.prog 400 os) #[.agg #[.slice none 0 0, .slice none 0 0, .bool false, .slice none 0 0], .int .i64 0] 8 rfl (World.shaped_of_RefB (by kernel_rfl) (by kernel_rfl)) (by kernel_rfl) (by kernel_rfl) (by kernel_rfl) (door_met os _)) ?_
  intro W base args ds gs before hval0 hW _ _ hL _
  have hval : ∀ (j : Nat) t v, Tryd.f6.params[j]? = some t → args[j]? = some v → Value.okWide Tryd.prog W .any base t v := hval0
  have hW' := hW
  obtain ⟨p, q, hA0, hV, rfl, hfz, hnd⟩ := hW
  have hA : DataW.TrodAll enc Tryd.prog W 0 (fun _ => true) true Tryd.f6.params.toList args.toList ds p := hA0
  rw [Tryd.params6] at hA hval
  obtain ⟨v0, vs0, d0, ds0, p0, q0, hargs, rfl, rfl, h0, r0⟩ := trodAll_cons hA
  obtain ⟨v1, vs1, d1, ds1, p1, q1, rfl, rfl, rfl, h1, r1⟩ := trodAll_cons r0
  obtain ⟨rfl, rfl, rfl⟩ := trodAll_nil r1
  obtain rfl : args = #[v0, v1] := by cases args; simp_all
  have lt0 : ∀ x ∈ p0, x.block < W.heap.size := by obtain ⟨m, hm⟩ := h0; exact DataW.trod_lt m _ _ _ hm
  have k0 := h0
  have lt1 : ∀ x ∈ p1, x.block < W.heap.size := by obtain ⟨m, hm⟩ := h1; exact DataW.trod_lt m _ _ _ hm
  have k1 := h1
  obtain ⟨hh, dd, rfl, rr, m0, m1, m2, s0, s1⟩ := open_disk (hval 0 47 v0 rfl rfl) h0
  obtain ⟨n1, rfl, rfl, rfl, _⟩ := open_int Tryd.underlying3 (hval 1 3 v1 rfl rfl) h1
  clear hA0 hval0
  obtain ⟨g1, hgs⟩ : ∃ g1, gs = [g1] := by obtain ⟨_, _, _, _, d, _, e, _⟩ := trodVars_one hV; exact ⟨d, e⟩
  subst hgs
  have ht := table hL
  refine (law_FnExactReadLog hh dd n1 (logR dd n1) (logC dd n1) W rr ht m0 m1 m2 s0 s1 (fun _ => logR_len dd n1) (fun hf W2 h2 r2 _ => c_specRL h2 dd n1 W2 r2 hf) (fun hf W2 h2 r2 ht2 => c_implRL h2 dd n1 W2 r2 hf ht2)).mono fun e W' ⟨he, bel⟩ => ?_
  subst he
  exact ⟨_, rfl, _, _, _, [], _, _, hW', trodAll_mk1 (shut_bool Tryd.underlying4 _), (trodAll_cons_mk (Below.trod laidOut (by kernel_rfl) (of_decide_eq_true (by kernel_rfl)) k0 bel lt0) (trodAll_cons_mk (Below.trod laidOut (by kernel_rfl) (of_decide_eq_true (by kernel_rfl)) k1 bel lt1) trodAll_mk0)), vars1_stay laidOut gVar gType (by kernel_rfl) (of_decide_eq_true (by kernel_rfl)) hV bel, bel.frame _, fun h => by cases h⟩

theorem said : Rows.FnExactReadLogSaid :=
  OpenClaim.holds_of_wide 6 Tryd.f6 rfl rfl rfl rfl rfl rfl rfl ⟨rfl, rfl, rfl, rfl, rfl⟩ rfl rfl rfl rfl rfl (by kernel_rfl) Tryd.func6 (by kernel_rfl)
    (of_decide_eq_true (by kernel_rfl)) (by unfold Func.isWrapper; first | (rw [if_pos (by decide +kernel)]; kernel_rfl) | (rw [if_neg (by decide +kernel)]; exact ⟨rfl, rfl⟩))
    (fun os started H enc _ => lifted os started H enc)

theorem plain (f : FuncId) (fn : Func) (hf : Tryd.pinned.checked.prog.funcNamed "loop.example/g00332/laws.FnExactReadLog" = some f) (hfn : Tryd.pinned.checked.prog.funcs[f]? = some fn) :
    false = Tryd.pinned.checked.prog.looks [] ∧ ∀ (j : Nat) t, fn.params[j]? = some t → Tryd.pinned.checked.prog.wantsStandIn t = false := by
  obtain rfl : f = 6 := Option.some.inj ((show Tryd.prog.funcNamed "loop.example/g00332/laws.FnExactReadLog" = some 6 by kernel_rfl).symm.trans hf) |>.symm
  obtain rfl : fn = Tryd.f6 := (Option.some.inj (Tryd.func6.symm.trans hfn)).symm
  refine ⟨by kernel_rfl, fun j t ht => ?_⟩
  rw [Tryd.params6] at ht
  have hm : t ∈ [47, 3] := by simpa using Array.mem_of_getElem? ht
  have hall : ([47, 3].all fun u => !Tryd.prog.wantsStandIn u) = true := by kernel_rfl
  exact (show Tryd.prog.wantsStandIn t = false by simpa using List.all_eq_true.1 hall t hm)
end Go.Proofs.YtkgfbnbgmgakoaaDoor.fnExactReadLog
namespace Go.Proofs.YtkgfbnbgmgakoaaDoor
theorem readLog_holds : Rows.FnExactReadLogCardSaid :=
  Claim7.holds_tied_plain_at .later [] _ _ _ _ fnExactReadLog.said (fun _ h => by cases h) (by kernel_rfl) (fun _ h => by cases h) fnExactReadLog_row_tie rfl ⟨rfl, rfl⟩ (by kernel_rfl) rfl fnExactReadLog.plain (by kernel_rfl)
#print axioms readLog_holds
end Go.Proofs.YtkgfbnbgmgakoaaDoor
