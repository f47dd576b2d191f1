/-
  Proved: at every two slices of bytes that can be handed in, the signs that they choose bind as the document says: the text without brackets and the text with those that are due read as one expression, on both sides (FnBinds returns true); the bytes and the program's two tables read afterwards as before.
  Conditions: the tables of the package and of the library read when the call begins as the program's own text lays them (the card ties it). No other condition.
-/
import Derived.Test.YtbpfpjmjmkpjoaaGreatDoorCards
import Derived.Test.YtbpfpjmjmkpjoaaGreatDoorTie
import Derived.Test.YtbpfpjmjmkpjoaaGreatDoorKit
import Derived.Test.YtbpfpjmjmkpjoaaGreatDoorZmm
import Derived.LaidMore
import Derived.Lib.LaidTab
import Derived.WalkKit
import Derived.Lay
import Derived.ShutString
import Derived.Laws.BytesArg
namespace Go.Proofs.YtbpfpjmjmkpjoaaGreatDoor.fnBinds
open Go.ChangeShapes Go.WideShapes Go.ChangeAt Go.RowKit
open Go.ChangeMaps (open_string shut_string)
set_option linter.unusedVariables false

theorem rdV_of_row {α : Type} {w : World} {x : Addr} {len cap : Nat} {zs : List α} (f : α → Value) (d : α) (hl : len ≤ cap) (hz : zs.length = cap) (hcell : ∀ i, i < zs.length → w.cell? (x.add i) = some (f (zs.getD i d))) : RdV w (some x) len ((zs.take len).map f) := by
  refine ⟨by simp; omega, fun h => ?_⟩
  obtain ⟨b, off, spot⟩ := x
  have hc := hcell 0 (by omega)
  have hspot : spot = none := by simpa [Addr.add] using World.cell?_spot hc
  subst hspot
  refine ⟨b, off, rfl, World.block_lt_of_cell? w ⟨b, off, none⟩ (by have := hc; rwa [addr_add] at this), fun i hi => ?_⟩
  have := hcell i (by omega)
  rw [addr_add] at this
  rw [this, map_get f (zs.take len) d i (by simp; omega), List.getD_eq_getElem?_getD, List.getD_eq_getElem?_getD, List.getElem?_take_of_lt hi]

theorem wf_u8 {n : Int} (h : (Lit.int .u8 n).wf = true) : 0 ≤ n ∧ n < 256 := by
  have := bounds_u8 h
  omega
theorem gCol : Tryz.prog.globalNamed "loop.example/g00332/impl.exprColumns" = some 1 := by kernel_rfl
theorem tCol : (Tryz.prog.globals[1]?).map (·.type) = some 91 := by kernel_rfl
theorem gSig : Tryz.prog.globalNamed "loop.example/g00332/impl.exprSigns" = some 2 := by kernel_rfl
theorem tSig : (Tryz.prog.globals[2]?).map (·.type) = some 134 := by kernel_rfl

def cols : List (List UInt8) := [[105, 100], [110], [110, 97, 109, 101]]
def signs : List (List UInt8) := [[], [], [], [], [], [], [43], [45], [42], [47], [61], [60], [97, 110, 100], [111, 114]]
set_option maxRecDepth 100000 in
theorem table {W : World} (h : laidMetH Tryz.prog Rows.fnBindsRow.laid W) : Tabs W ∧ TabE W := by
  rw [MakeChecks.laidMetH_plain _ _ _ (by kernel_rfl)] at h
  obtain ⟨ps, ⟨g0, t0, cs0, f0, p0, q0, _, _, _, _, ⟨g1, t1, cs1, f1, p1, q1, _, _, _, _, ⟨g, t, cs, f, p, q, hg, ht, hv, hd, ⟨g2, t2, cs2, f2, p2, q2, _, _, _, _, ⟨gr, tr, csr, fr, pr, qr, hgr, htr, hvr, hdr, ⟨gs, ts, css, fs, psy, qs, hgs, hts, hvs, hds, ⟨g3, t3, cs3, f3, p3, q3, hg3, ht3, hv3, hd3, ⟨g4, t4, cs4, f4, p4, q4, hg4, ht4, hv4, hd4, _, _⟩, _⟩, _⟩, _⟩, _⟩, _⟩, _⟩, _⟩, _⟩ := h
  obtain rfl := Option.some.inj ((show Tryz.prog.globalNamed "internal/strconv.uint64pow10" = some 6 by kernel_rfl).symm.trans hg)
  obtain rfl := Option.some.inj ((show (Tryz.prog.globals[6]?).map (·.type) = some 215 by kernel_rfl).symm.trans ht)
  obtain rfl := Option.some.inj ((show Tryz.prog.globalNamed "strconv.ErrRange" = some 11 by kernel_rfl).symm.trans hgr)
  obtain rfl := Option.some.inj ((show (Tryz.prog.globals[11]?).map (·.type) = some 151 by kernel_rfl).symm.trans htr)
  obtain rfl := Option.some.inj ((show Tryz.prog.globalNamed "strconv.ErrSyntax" = some 10 by kernel_rfl).symm.trans hgs)
  obtain rfl := Option.some.inj ((show (Tryz.prog.globals[10]?).map (·.type) = some 151 by kernel_rfl).symm.trans hts)
  obtain rfl := Option.some.inj (gCol.symm.trans hg3)
  obtain rfl := Option.some.inj (tCol.symm.trans ht3)
  obtain rfl := Option.some.inj (gSig.symm.trans hg4)
  obtain rfl := Option.some.inj (tSig.symm.trans ht4)
  have e3 := cells_of_strs (ss := cols) Tryz.underlying91 Tryz.underlying9 (by kernel_rfl) (by kernel_rfl) hd3
  have e4 := cells_of_strs (ss := signs) Tryz.underlying134 Tryz.underlying9 (by kernel_rfl) (by kernel_rfl) hd4
  obtain ⟨_, ur, vr, er, _, _⟩ := iface_of_trod Tryz.underlying151 hdr
  obtain ⟨_, us, vs, es, _, _⟩ := iface_of_trod Tryz.underlying151 hds
  obtain ⟨u3, fr3, hb3⟩ := var_block hg3 hv3
  obtain ⟨u4, fr4, hb4⟩ := var_block hg4 hv4
  obtain ⟨u5, fr5, hb5⟩ := var_block hgr hvr
  obtain ⟨u6, fr6, hb6⟩ := var_block hgs hvs
  have x3 : cs3 = ⟨cols.map fun s => Value.string ⟨s.toArray⟩⟩ := by cases cs3; simp only at e3; rw [e3]
  have x4 : cs4 = ⟨signs.map fun s => Value.string ⟨s.toArray⟩⟩ := by cases cs4; simp only at e4; rw [e4]
  have x5 : csr = #[.iface ur vr] := by cases csr; simp only at er; rw [er]
  have x6 : css = #[.iface us vs] := by cases css; simp only at es; rw [es]
  rw [x3] at hb3
  rw [x4] at hb4
  rw [x5] at hb5
  rw [x6] at hb6
  refine ⟨⟨?_, ?_, ?_⟩, ?_, ?_⟩
  · unfold TabC
    simp only [World.cell?, hb3]
    exact ⟨rfl, rfl, rfl⟩
  · unfold TabS
    simp only [World.cell?, hb4]
    exact ⟨rfl, rfl, rfl, rfl, rfl, rfl, rfl, rfl, rfl, rfl, rfl, rfl, rfl, rfl⟩
  · show Lib.TabIs Tryz.prog W "internal/strconv.uint64pow10" .u64 Lib.pow10Tab
    unfold Lib.TabIs
    rw [hv, ← Lib.cells_of_tab (zs := Lib.pow10Tab) Tryz.underlying215 Tryz.underlying197 (by kernel_rfl) (by kernel_rfl) hd]
  · refine ⟨.iface us vs, ?_, .inr ⟨us, vs, rfl⟩⟩
    simp only [World.cell?, hb6]
    rfl
  · refine ⟨.iface ur vr, ?_, .inr ⟨ur, vr, rfl⟩⟩
    simp only [World.cell?, hb5]
    rfl

set_option maxRecDepth 100000 in
theorem lifted (os : Os) (started : os.Started) (H : Type) (enc : TypeId × Value → H) :
    ReturnsInHanded {} Tryz.checked os 6 .any (fun w args => (Rows.fnBindsSpec.pre enc Tryz.prog Tryz.f6 [] false w args ∧ laidMetH Tryz.prog Rows.fnBindsRow.laid w) ∧ sizedMet enc Tryz.prog Tryz.f6 (OpenSpec.ofChange Rows.fnBindsSpec) false w args)
      (Rows.fnBindsSpec.post enc Tryz.prog Tryz.f6 false true false false) := by
  refine returnsInHanded_of_change_and (C := Tryz.checked) (X := fun w _ => laidMetH Tryz.prog Rows.fnBindsRow.laid w) (fun _ _ _ hh h => h.of_heap hh) own started (by kernel_rfl) Tryz.func6
    (ChangeSpec.witness_shaped (enc := enc) (C := Tryz.checked) (os := os) (X := fun w _ => laidMetH Tryz.prog Rows.fnBindsRow.laid w) false (World.laidAll Tryz.prog os Rows.fnBindsRow.laid) #[.slice none 0 0, .slice none 0 0] 8 (World.laidAll_os _ _ _) (World.shaped_of_ZipB (by kernel_rfl) (by kernel_rfl)) (by kernel_rfl) (by kernel_rfl) (by kernel_rfl) (by rw [MakeChecks.laidMetH_plain _ _ _ (by kernel_rfl)]; exact laidMet_laidAll _ (by kernel_rfl) (by kernel_rfl))) ?_
  intro W base args ds gs before hval0 hW _ _ hL _
  have hval : ∀ (j : Nat) t v, Tryz.f6.params[j]? = some t → args[j]? = some v → Value.okWide Tryz.prog W .any base t v := hval0
  have hW' := hW
  obtain ⟨p, q, hA0, hV, rfl, hfz, hnd⟩ := hW
  have hA : DataW.TrodAll enc Tryz.prog W 0 (fun _ => true) true Tryz.f6.params.toList args.toList ds p := hA0
  rw [Tryz.params6] at hA hval
  obtain ⟨v0, vs0, d0, ds0, p0, q0, hargs, rfl, rfl, h0, r0⟩ := trodAll_cons hA
  obtain ⟨v1, vs1, d1, ds1, p1, q1, rfl, rfl, rfl, h1, r1⟩ := trodAll_cons r0
  obtain ⟨rfl, rfl, rfl⟩ := trodAll_nil r1
  obtain rfl : args = #[v0, v1] := by cases args; simp_all
  have lt0 : ∀ x ∈ p0, x.block < W.heap.size := by obtain ⟨m, hm⟩ := h0; exact DataW.trod_lt m _ _ _ hm
  have k0 := h0
  have lt1 : ∀ x ∈ p1, x.block < W.heap.size := by obtain ⟨m, hm⟩ := h1; exact DataW.trod_lt m _ _ _ hm
  have k1 := h1
  obtain ⟨ca, cn, cc, rfl⟩ := okWide_slice Tryz.underlying40 (hval 0 40 v0 rfl rfl)
  obtain ⟨cz, cr, cw, cl⟩ : ∃ zs : List Int, RdV W ca cn (zs.map (Value.int .u8)) ∧ (∀ z ∈ zs, 0 ≤ z ∧ z < 256) ∧ cn ≤ maxLen := by
    obtain ⟨fuel, hf⟩ := h0
    rcases open_ints Tryz.underlying40 Tryz.underlying5 (by kernel_rfl) hf with ⟨hcs, _⟩ | ⟨x, l, c, zs, hcs, _, hl, hm, hz, _, hcell, hwz⟩
    · simp [Value.cells] at hcs
      obtain ⟨rfl, rfl, rfl⟩ := hcs
      exact ⟨[], ⟨rfl, fun h => absurd h (by omega)⟩, (fun _ h => by cases h), by unfold maxLen; omega⟩
    · simp [Value.cells] at hcs
      obtain ⟨rfl, rfl, rfl⟩ := hcs
      exact ⟨_, rdV_of_row (Value.int .u8) 0 hl (by simpa using hz) hcell, fun z h => wf_u8 (hwz z (List.mem_of_mem_take h)), by omega⟩
  obtain ⟨ma, mn, mc, rfl⟩ := okWide_slice Tryz.underlying40 (hval 1 40 v1 rfl rfl)
  obtain ⟨mz, mr, mw, ml⟩ : ∃ zs : List Int, RdV W ma mn (zs.map (Value.int .u8)) ∧ (∀ z ∈ zs, 0 ≤ z ∧ z < 256) ∧ mn ≤ maxLen := by
    obtain ⟨fuel, hf⟩ := h1
    rcases open_ints Tryz.underlying40 Tryz.underlying5 (by kernel_rfl) hf with ⟨hcs, _⟩ | ⟨x, l, c, zs, hcs, _, hl, hm, hz, _, hcell, hwz⟩
    · simp [Value.cells] at hcs
      obtain ⟨rfl, rfl, rfl⟩ := hcs
      exact ⟨[], ⟨rfl, fun h => absurd h (by omega)⟩, (fun _ h => by cases h), by unfold maxLen; omega⟩
    · simp [Value.cells] at hcs
      obtain ⟨rfl, rfl, rfl⟩ := hcs
      exact ⟨_, rdV_of_row (Value.int .u8) 0 hl (by simpa using hz) hcell, fun z h => wf_u8 (hwz z (List.mem_of_mem_take h)), by omega⟩
  clear hA0 hval0
  obtain ⟨g1, g2, hgs⟩ : ∃ g1 g2, gs = [g1, g2] := by
    match gs, hV with
    | d :: gs', h => obtain ⟨_, _, _, _, _, _, _, _, _, _, hrest, _⟩ := h; obtain ⟨_, _, _, _, d2, _, e, _⟩ := trodVars_one hrest; exact ⟨d, d2, by rw [e]⟩
  subst hgs
  have ht := table hL
  refine (law_FnBinds ca cn cc cz ma mn mc mz W cr cw mr mw cl ml ht.1 ht.2).mono fun e W' ⟨he, bel⟩ => ?_
  subst he
  exact ⟨_, rfl, _, _, _, [], _, _, hW', trodAll_mk1 (shut_bool Tryz.underlying4 _), (trodAll_cons_mk (Below.trod laidOut (by kernel_rfl) (of_decide_eq_true (by kernel_rfl)) k0 bel lt0) (trodAll_cons_mk (Below.trod laidOut (by kernel_rfl) (of_decide_eq_true (by kernel_rfl)) k1 bel lt1) trodAll_mk0)), vars2_stay laidOut gCol tCol (by kernel_rfl) (of_decide_eq_true (by kernel_rfl)) gSig tSig (by kernel_rfl) (of_decide_eq_true (by kernel_rfl)) hV bel, bel.frame _, fun h => by cases h⟩

theorem said : Rows.FnBindsSaid :=
  OpenClaim.holds_of_wide 6 Tryz.f6 rfl rfl rfl rfl rfl rfl rfl ⟨rfl, rfl, rfl, rfl, rfl⟩ rfl rfl rfl rfl rfl (by kernel_rfl) Tryz.func6 (by kernel_rfl)
    (of_decide_eq_true (by kernel_rfl)) (by unfold Func.isWrapper; first | (rw [if_pos (by decide +kernel)]; kernel_rfl) | (rw [if_neg (by decide +kernel)]; exact ⟨rfl, rfl⟩))
    (fun os started H enc _ => lifted os started H enc)

theorem plain (f : FuncId) (fn : Func) (hf : Tryz.pinned.checked.prog.funcNamed "loop.example/g00332/laws.FnBinds" = some f) (hfn : Tryz.pinned.checked.prog.funcs[f]? = some fn) :
    true = Tryz.pinned.checked.prog.looks [] ∧ ∀ (j : Nat) t, fn.params[j]? = some t → Tryz.pinned.checked.prog.wantsStandIn t = false := by
  obtain rfl : f = 6 := Option.some.inj ((show Tryz.prog.funcNamed "loop.example/g00332/laws.FnBinds" = some 6 by kernel_rfl).symm.trans hf) |>.symm
  obtain rfl : fn = Tryz.f6 := (Option.some.inj (Tryz.func6.symm.trans hfn)).symm
  refine ⟨by kernel_rfl, fun j t ht => ?_⟩
  rw [Tryz.params6] at ht
  have hm : t ∈ [40, 40] := by simpa using Array.mem_of_getElem? ht
  have hall : ([40, 40].all fun u => !Tryz.prog.wantsStandIn u) = true := by kernel_rfl
  exact (show Tryz.prog.wantsStandIn t = false by simpa using List.all_eq_true.1 hall t hm)
end Go.Proofs.YtbpfpjmjmkpjoaaGreatDoor.fnBinds
namespace Go.Proofs.YtbpfpjmjmkpjoaaGreatDoor
theorem binds_holds : Rows.FnBindsCardSaid :=
  Claim7.holds_tied_plain_at .later [] _ _ _ _ fnBinds.said (fun _ h => by cases h) (by kernel_rfl) (fun _ h => by cases h) fnBinds_row_tie rfl ⟨rfl, rfl⟩ (by kernel_rfl) rfl fnBinds.plain (by kernel_rfl)
#print axioms binds_holds
end Go.Proofs.YtbpfpjmjmkpjoaaGreatDoor
