/-
  Proved: at every statement that can be handed in, StmtText answers as its specification does, text and code, and writes nothing into the statement (FnExactStmtText returns true); the statement and the program's three tables read afterwards as before.
  Conditions: the tables of the package and of the library read when the call begins as the program's own text lays them (the card ties it). No other condition.
-/
import Derived.Test.YtknjglgellhchaaDoorCards
import Derived.Test.YtknjglgellhchaaDoorTie
import Derived.Test.YtknjglgellhchaaDoorKit
import Derived.Test.YtknjglgellhchaaDoorVe
import Derived.Test.YtknjglgellhchaaDoorSo
import Derived.WalkKit
import Derived.ShutString
namespace Go.Proofs.YtknjglgellhchaaDoor.fnExactStmtText
open Go.ChangeShapes Go.WideShapes Go.ChangeAt Go.RowKit
open Go.ChangeMaps (open_string shut_string)
set_option linter.unusedVariables false

/-- Three named variables read in a later world as they did. -/
theorem vars3_stay {H : Type} {enc : TypeId × Value → H} {P : Program} {W W' : World} {n m l : String} {g g2 g3 : Nat} {t t2 t3 : TypeId} {gs : List (DataW H)} {q : List MemPlace} (hl : laidOutB P = true) (hg : P.globalNamed n = some g) (ht : (P.globals[g]?).map (·.type) = some t) (hr : P.readableRec t = true) (hrow : t < P.types.size)
    (hg2 : P.globalNamed m = some g2) (ht2 : (P.globals[g2]?).map (·.type) = some t2) (hr2 : P.readableRec t2 = true) (hrow2 : t2 < P.types.size)
    (hg3 : P.globalNamed l = some g3) (ht3 : (P.globals[g3]?).map (·.type) = some t3) (hr3 : P.readableRec t3 = true) (hrow3 : t3 < P.types.size)
    (h : DataW.TrodVars enc P W (fun _ => true) [n, m, l] gs q) (hb : Below W.heap.size W W') : DataW.TrodVars enc P W' (fun b => decide (b < W.heap.size)) [n, m, l] gs q := by
  cases gs with
  | nil => simp [DataW.TrodVars] at h
  | cons d ds =>
    obtain ⟨g', t', cs, fuel, p, q', hg', ht', hv, hd, hrest, rfl⟩ := h
    obtain rfl := Option.some.inj (hg.symm.trans hg')
    obtain rfl := Option.some.inj (ht.symm.trans ht')
    have lt : ∀ x ∈ p, x.block < W.heap.size := DataW.trod_lt fuel _ _ _ hd
    exact ⟨g, t, cs, fuel, p, q', hg, ht, Go.Joins.var_stays hg hv hb (Nat.le_refl _), DataW.trod_stays (kids_book hl hr) (book_sized hr) (fun h => by cases h) ⟨hrow, book_self t⟩ hd (fun x hx => hb.same (lt x hx)) (fun x hx => by simpa using lt x hx), vars2_stay hl hg2 ht2 hr2 hrow2 hg3 ht3 hr3 hrow3 hrest hb, rfl⟩
theorem gCol : Tryd.prog.globalNamed "loop.example/g00332/impl.exprColumns" = some 1 := by kernel_rfl
theorem tCol : (Tryd.prog.globals[1]?).map (·.type) = some 85 := by kernel_rfl
theorem gSig : Tryd.prog.globalNamed "loop.example/g00332/impl.exprSigns" = some 2 := by kernel_rfl
theorem tSig : (Tryd.prog.globals[2]?).map (·.type) = some 118 := by kernel_rfl
theorem gWor : Tryd.prog.globalNamed "loop.example/g00332/impl.stmtWords" = some 0 := by kernel_rfl
theorem tWor : (Tryd.prog.globals[0]?).map (·.type) = some 83 := by kernel_rfl

def cols : List (List UInt8) := [[105, 100], [110], [110, 97, 109, 101]]
def signs : List (List UInt8) := [[], [], [], [], [], [], [43], [45], [42], [47], [61], [60], [97, 110, 100], [111, 114]]
def kinds : List (List UInt8) := [[], [115, 101, 108, 101, 99, 116], [105, 110, 115, 101, 114, 116], [117, 112, 100, 97, 116, 101], [100, 101, 108, 101, 116, 101]]
set_option maxRecDepth 100000 in
theorem table {W : World} (h : laidMetH Tryd.prog Rows.fnExactStmtTextRow.laid W) : TabX W := by
  rw [MakeChecks.laidMetH_plain _ _ _ (by kernel_rfl)] at h
  obtain ⟨ps, ⟨g0, t0, cs0, f0, p0, q0, _, _, _, _, ⟨g1, t1, cs1, f1, p1, q1, _, _, _, _, ⟨g, t, cs, f, p, q, hg, ht, hv, hd, ⟨g3, t3, cs3, f3, p3, q3, hg3, ht3, hv3, hd3, ⟨g4, t4, cs4, f4, p4, q4, hg4, ht4, hv4, hd4, ⟨g5, t5, cs5, f5, p5, q5, hg5, ht5, hv5, hd5, _, _⟩, _⟩, _⟩, _⟩, _⟩, _⟩, _⟩ := h
  obtain rfl := Option.some.inj ((show Tryd.prog.globalNamed "internal/strconv.uint64pow10" = some 4 by kernel_rfl).symm.trans hg)
  obtain rfl := Option.some.inj ((show (Tryd.prog.globals[4]?).map (·.type) = some 167 by kernel_rfl).symm.trans ht)
  obtain rfl := Option.some.inj (gCol.symm.trans hg3)
  obtain rfl := Option.some.inj (tCol.symm.trans ht3)
  obtain rfl := Option.some.inj (gSig.symm.trans hg4)
  obtain rfl := Option.some.inj (tSig.symm.trans ht4)
  obtain rfl := Option.some.inj (gWor.symm.trans hg5)
  obtain rfl := Option.some.inj (tWor.symm.trans ht5)
  have e3 := cells_of_strs (ss := cols) Tryd.underlying85 Tryd.underlying9 (by kernel_rfl) (by kernel_rfl) hd3
  have e4 := cells_of_strs (ss := signs) Tryd.underlying118 Tryd.underlying9 (by kernel_rfl) (by kernel_rfl) hd4
  have e5 := cells_of_strs (ss := kinds) Tryd.underlying83 Tryd.underlying9 (by kernel_rfl) (by kernel_rfl) hd5
  obtain ⟨u3, fr3, hb3⟩ := var_block hg3 hv3
  obtain ⟨u4, fr4, hb4⟩ := var_block hg4 hv4
  obtain ⟨u5, fr5, hb5⟩ := var_block hg5 hv5
  have x3 : cs3 = ⟨cols.map fun s => Value.string ⟨s.toArray⟩⟩ := by cases cs3; simp only at e3; rw [e3]
  have x4 : cs4 = ⟨signs.map fun s => Value.string ⟨s.toArray⟩⟩ := by cases cs4; simp only at e4; rw [e4]
  have x5 : cs5 = ⟨kinds.map fun s => Value.string ⟨s.toArray⟩⟩ := by cases cs5; simp only at e5; rw [e5]
  rw [x3] at hb3
  rw [x4] at hb4
  rw [x5] at hb5
  refine ⟨⟨?_, ?_, ?_⟩, ?_⟩
  · unfold TabC
    simp only [World.cell?, hb3]
    exact ⟨rfl, rfl, rfl⟩
  · unfold TabS
    simp only [World.cell?, hb4]
    exact ⟨rfl, rfl, rfl, rfl, rfl, rfl, rfl, rfl, rfl, rfl, rfl, rfl, rfl, rfl⟩
  · show Lib.TabIs Tryd.prog W "internal/strconv.uint64pow10" .u64 Lib.pow10Tab
    unfold Lib.TabIs
    rw [hv, ← Lib.cells_of_tab (zs := Lib.pow10Tab) Tryd.underlying167 Tryd.underlying156 (by kernel_rfl) (by kernel_rfl) hd]
  · unfold TabW
    simp only [World.cell?, hb5]
    exact ⟨rfl, rfl, rfl, rfl, rfl⟩

theorem door_met (os : Os) (args : Array Value) : laidMetH Tryd.prog Rows.fnExactStmtTextRow.laid ((World.doorLaid Tryd.prog 400 os).forCall (fun _ _ => 0) ⟨#[], args, []⟩).memory :=
  laidMetH_of_parts3 (fuel := 8) (laidMet_of_run' 8 (by kernel_rfl) (by kernel_rfl)) (by kernel_rfl) (by kernel_rfl)

set_option maxRecDepth 100000 in
theorem lifted (os : Os) (started : os.Started) (H : Type) (enc : TypeId × Value → H) :
    ReturnsInHanded {} Tryd.checked os 5 .any (fun w args => (Rows.fnExactStmtTextSpec.pre enc Tryd.prog Tryd.f5 [] false w args ∧ laidMetH Tryd.prog Rows.fnExactStmtTextRow.laid w) ∧ sizedMet enc Tryd.prog Tryd.f5 (OpenSpec.ofChange Rows.fnExactStmtTextSpec) false w args)
      (Rows.fnExactStmtTextSpec.post enc Tryd.prog Tryd.f5 false true false false) := by
  refine returnsInHanded_of_change_and (C := Tryd.checked) (X := fun w _ => laidMetH Tryd.prog Rows.fnExactStmtTextRow.laid w) (fun _ _ _ hh h => h.of_heap hh) own started (by kernel_rfl) Tryd.func5
    (ChangeSpec.witness_shaped (enc := enc) (C := Tryd.checked) (os := os) (X := fun w _ => laidMetH Tryd.prog Rows.fnExactStmtTextRow.laid w) false (World.doorLaid Tryd.prog 400 os) #[.agg #[.int .i64 0, .int .i64 0, .int .i64 0, .int .i64 0, .int .i64 0, .string ByteArray.empty, .int .i64 0, .int .i64 0, .string ByteArray.empty, .int .i64 0, .slice none 0 0, .slice none 0 0, .int .i64 0, .bool false]] 8 rfl (World.shaped_of_RefB (by kernel_rfl) (by kernel_rfl)) (by kernel_rfl) (by kernel_rfl) (by kernel_rfl) (door_met os _)) ?_
  intro W base args ds gs before hval0 hW _ _ hL _
  have hval : ∀ (j : Nat) t v, Tryd.f5.params[j]? = some t → args[j]? = some v → Value.okWide Tryd.prog W .any base t v := hval0
  have hW' := hW
  obtain ⟨p, q, hA0, hV, rfl, hfz, hnd⟩ := hW
  have hA : DataW.TrodAll enc Tryd.prog W 0 (fun _ => true) true Tryd.f5.params.toList args.toList ds p := hA0
  rw [Tryd.params5] at hA hval
  obtain ⟨v0, vs0, d0, ds0, p0, q0, hargs, rfl, rfl, h0, r0⟩ := trodAll_cons hA
  obtain ⟨rfl, rfl, rfl⟩ := trodAll_nil r0
  obtain rfl : args = #[v0] := by cases args; simp_all
  have lt0 : ∀ x ∈ p0, x.block < W.heap.size := by obtain ⟨m, hm⟩ := h0; exact DataW.trod_lt m _ _ _ hm
  have k0 := h0
  obtain ⟨k, tb, i, u, v', c, sa, sn, sc, wa, wn, wc, o, d, LS, LW, rfl, z1, z2, s1, s2, s3, w1, w2, w3⟩ := open_stmt (hval 0 45 v0 rfl rfl) h0
  clear hA0 hval0
  obtain ⟨g1, g2, g3, hgs⟩ : ∃ g1 g2 g3, gs = [g1, g2, g3] := by
    match gs, hV with
    | d :: gs', h =>
      obtain ⟨_, _, _, _, _, _, _, _, _, _, hrest, _⟩ := h
      match gs', hrest with
      | d' :: gs'', h' => obtain ⟨_, _, _, _, _, _, _, _, _, _, hr2, _⟩ := h'; obtain ⟨_, _, _, _, d2, _, e, _⟩ := trodVars_one hr2; exact ⟨d, d', d2, by rw [e]⟩
  subst hgs
  have ht := table hL
  refine (law_FnExactStmtText k tb i u v' c sa sn sc wa wn wc o d LS LW W z1 z2 s1 s2 s3 w1 w2 w3 ht).mono fun e W' ⟨he, bel⟩ => ?_
  subst he
  exact ⟨_, rfl, _, _, _, [], _, _, hW', trodAll_mk1 (shut_bool Tryd.underlying4 _), (trodAll_cons_mk (Below.trod laidOut (by kernel_rfl) (of_decide_eq_true (by kernel_rfl)) k0 bel lt0) trodAll_mk0), vars3_stay laidOut gWor tWor (by kernel_rfl) (of_decide_eq_true (by kernel_rfl)) gCol tCol (by kernel_rfl) (of_decide_eq_true (by kernel_rfl)) gSig tSig (by kernel_rfl) (of_decide_eq_true (by kernel_rfl)) hV bel, bel.frame _, fun h => by cases h⟩

theorem said : Rows.FnExactStmtTextSaid :=
  OpenClaim.holds_of_wide 5 Tryd.f5 rfl rfl rfl rfl rfl rfl rfl ⟨rfl, rfl, rfl, rfl, rfl⟩ rfl rfl rfl rfl rfl (by kernel_rfl) Tryd.func5 (by kernel_rfl)
    (of_decide_eq_true (by kernel_rfl)) (by unfold Func.isWrapper; first | (rw [if_pos (by decide +kernel)]; kernel_rfl) | (rw [if_neg (by decide +kernel)]; exact ⟨rfl, rfl⟩))
    (fun os started H enc _ => lifted os started H enc)

theorem plain (f : FuncId) (fn : Func) (hf : Tryd.pinned.checked.prog.funcNamed "loop.example/g00332/laws.FnExactStmtText" = some f) (hfn : Tryd.pinned.checked.prog.funcs[f]? = some fn) :
    true = Tryd.pinned.checked.prog.looks [] ∧ ∀ (j : Nat) t, fn.params[j]? = some t → Tryd.pinned.checked.prog.wantsStandIn t = false := by
  obtain rfl : f = 5 := Option.some.inj ((show Tryd.prog.funcNamed "loop.example/g00332/laws.FnExactStmtText" = some 5 by kernel_rfl).symm.trans hf) |>.symm
  obtain rfl : fn = Tryd.f5 := (Option.some.inj (Tryd.func5.symm.trans hfn)).symm
  refine ⟨by kernel_rfl, fun j t ht => ?_⟩
  rw [Tryd.params5] at ht
  have hm : t ∈ [45] := by simpa using Array.mem_of_getElem? ht
  have hall : ([45].all fun u => !Tryd.prog.wantsStandIn u) = true := by kernel_rfl
  exact (show Tryd.prog.wantsStandIn t = false by simpa using List.all_eq_true.1 hall t hm)
end Go.Proofs.YtknjglgellhchaaDoor.fnExactStmtText
namespace Go.Proofs.YtknjglgellhchaaDoor
theorem stmtText_holds : Rows.FnExactStmtTextCardSaid :=
  Claim7.holds_tied_plain_at .later [] _ _ _ _ fnExactStmtText.said (fun _ h => by cases h) (by kernel_rfl) (fun _ h => by cases h) fnExactStmtText_row_tie rfl ⟨rfl, rfl⟩ (by kernel_rfl) rfl fnExactStmtText.plain (by kernel_rfl)
#print axioms stmtText_holds
end Go.Proofs.YtknjglgellhchaaDoor
