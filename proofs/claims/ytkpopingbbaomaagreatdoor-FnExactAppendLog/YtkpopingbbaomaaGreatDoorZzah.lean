/-
  The program's reading of a sector: the last write of it, or what is sure.
-/
import Derived.Deep.Quiet
import Derived.Tactics
import Derived.Test.YtkpopingbbaomaaGreatDoorZzag
namespace Go.Proofs.YtkpopingbbaomaaGreatDoor
open Go

def plainOp (o : Oper) : Bool := match o.op with
  | .move _ => true
  | .assign _ => true
  | .build _ _ => true
  | .load _ _ => true
  | .fieldAddr _ _ _ => true
  | .indexAddr _ _ _ => true
  | .index _ _ _ => true
  | .convert _ _ _ => true
  | _ => false
theorem no_enter {P : Program} {ρ : Operand → Value} {o : Oper} {w w' : World} {f : FuncId} {args : Array Value} (h : plainOp o = true) : (execOp ρ o).run P w ≠ .ok (.enter f args) w' := by
  unfold plainOp at h
  unfold execOp
  cases ho : o.op <;> rw [ho] at h <;> simp only [Bool.false_eq_true] at h <;> simp only [Sem.run_bind, Sem.run_pure]
  all_goals first
    | (intro e; cases e; done)
    | (generalize (Sem.run _ _ _) = r; cases r <;> simp [Result.andThen])
def backB (ops : Array Oper) : Bool := (List.range ops.size).all fun i => ((ops[i]?).map fun o => o.after.all fun e => !Region.binds .any e || decide (e.on < i)).getD true
theorem back_of {ops : Array Oper} (h : backB ops = true) {i : Nat} {o : Oper} (hi : ops[i]? = some o) {e : Edge} (he : e ∈ o.after) (hb : Region.binds .any e = true) : e.on < i := by
  unfold backB at h
  have hlt : i < ops.size := by
    rcases Nat.lt_or_ge i ops.size with h' | h'
    · exact h'
    · rw [Array.getElem?_eq_none h'] at hi; cases hi
  have := List.all_eq_true.1 h i (List.mem_range.2 hlt)
  rw [hi] at this
  simp only [Option.map_some, Option.getD_some] at this
  have h2 := (Array.all_eq_true'.1 this) e he
  rw [hb] at h2
  simpa using h2
theorem ready_nil {ops : Array Oper} {listed : Array Bool} (h : backB ops = true) (hs : listed.size = ops.size) (hr : Region.ready .any ops listed = []) : ∀ i, i < ops.size → listed.getD i true = true := by
  intro i
  induction i using Nat.strongRecOn with
  | ind i ih =>
    intro hi
    cases hl : listed.getD i true with
    | true => rfl
    | false =>
      exfalso
      obtain ⟨o, ho⟩ : ∃ o, ops[i]? = some o := ⟨_, Array.getElem?_eq_getElem hi⟩
      have : i ∈ Region.ready .any ops listed := mem_ready.2 ⟨hl, o, ho, fun e he hb => by
        have hlt := back_of h ho he hb
        have := ih e.on hlt (by omega)
        rw [Array.getD_eq_getD_getElem?, Array.getElem?_eq_getElem (by omega)] at this ⊢
        simpa using this⟩
      rw [hr] at this
      cases this
theorem ready_congr {ops ops' : Array Oper} (hs : ops.size = ops'.size) (h : ∀ i : Nat, (ops[i]?).map (fun o : Oper => o.after) = (ops'[i]?).map (fun o : Oper => o.after)) (listed : Array Bool) : Region.ready .any ops listed = Region.ready .any ops' listed := by
  unfold Region.ready
  rw [hs]
  apply List.filter_congr
  intro i _
  have := congrArg (Option.map fun a : Array Edge => a.all fun e => !Region.binds .any e || listed.getD e.on false) (h i)
  simp only [Option.map_map, Function.comp_def] at this
  rw [this]
/-- The simulation: what serves the operations with a constant in the alloc's place and nothing in the store's place serves these. -/
theorem sim {P : Program} {ops ops' : Array Oper} {C C0 C1 : World → Prop} {Q : Exit → Act → World → Prop} {n : Nat} {oa os oa' os' : Oper} {v : Value} {QF : Act → Prop}
    (hn : ops.size = n + 2) (hs : ops.size = ops'.size) (haf : ∀ i : Nat, (ops[i]?).map (fun o : Oper => o.after) = (ops'[i]?).map (fun o : Oper => o.after)) (hback : backB ops = true)
    (hsame : ∀ i : Nat, i < n → ops[i]? = ops'[i]?) (hg : ∀ (i : Nat) (o : Oper), ops[i]? = some o → o.guard = none) (hpl : ∀ (i : Nat) (o : Oper), i < n → ops[i]? = some o → plainOp o = true)
    (ha : ops[n]? = some oa) (ha' : ops'[n]? = some oa') (hda : oa'.dst = oa.dst) (hga : oa'.guard = none) (hop : oa'.op = .assign (.const v))
    (hst : ops[n + 1]? = some os) (hst' : ops'[n + 1]? = some os') (hds : os'.dst = none)
    (hdep : ∀ j, j < n + 1 → ∃ e ∈ os.after, Region.binds .any e = true ∧ e.on = j)
    (halloc : ∀ (a : Act) (w : World) (K : Act → World → Prop), C0 w → (∀ w', C1 w' → K (a.put oa.dst v) w') → oa.wp P a w K Q)
    (hstore : ∀ a w, QF a → C1 w → os.wp P a w (fun a' w' => Q .normal a' w') Q) (hne : ∃ w, C0 w) (hC0 : ∀ w, C0 w → C w) (hC1 : ∀ w, C1 w → C w) :
    ∀ (fuel : Nat) (listed : Array Bool) (a : Act) (w : World), listed.size = ops.size → (listed.getD n true = false → C0 w) → (listed.getD n true = true → C1 w) → listed.getD (n + 1) true = false →
      wpAnyQ P .any ops' C QF fuel listed a → wpAny P .any ops Q fuel listed a w := by
  intro fuel
  have nilF : ∀ listed : Array Bool, listed.size = ops.size → listed.getD (n + 1) true = false → Region.ready .any ops listed = [] → False := fun listed h1 h2 h3 => by
    have := ready_nil hback h1 h3 (n + 1) (by omega)
    rw [this] at h2
    cases h2
  have wan : ∀ (X : Array Oper) (a : Act) (o : Oper), o.guard = none → Region.wanted o (yielded X a.tmps) = true := fun X a o h => by simp [Region.wanted, h]
  induction fuel with
  | zero =>
    intro listed a w hsz _ _ hun H
    exact absurd ((ready_congr hs haf listed).trans H.1) (nilF listed hsz hun)
  | succ fuel ih =>
    intro listed a w hsz h0 h1 hun H
    refine ⟨fun hr => absurd hr (nilF listed hsz hun), fun i hi => ?_⟩
    have hi' : i ∈ Region.ready .any ops' listed := by rw [← ready_congr hs haf listed]; exact hi
    have HQ := H.2 i hi'
    obtain ⟨hil, o, ho, hall⟩ := mem_ready.1 hi
    have hilt : i < ops.size := by
      rcases Nat.lt_or_ge i ops.size with h' | h'
      · exact h'
      · rw [Array.getElem?_eq_none h'] at ho; cases ho
    have hwo := wan ops a o (hg i o ho)
    unfold wpOp
    simp only [ho, hwo, if_true]
    refine .inl ?_
    by_cases hin : i < n
    · have ho' : ops'[i]? = some o := (hsame i hin).symm.trans ho
      obtain ⟨u, hy, hK⟩ := yieldsIn_of_qOp ho' HQ
      have hCw : C w := by
        cases hl : listed.getD n true with
        | true => exact hC1 w (h1 hl)
        | false => exact hC0 w (h0 hl)
      have hq : o.quietAt P a C w u := by
        rcases hy with ⟨_, hv⟩ | ⟨hf, _⟩
        · exact hv w hCw
        · rw [wan ops' a o (hg i o ho)] at hf; cases hf
      have next : wpAny P .any ops Q fuel (listed.setIfInBounds i true) (a.put o.dst u) w :=
        ih _ _ _ (by simpa using hsz) (fun h => h0 (by rwa [getD_set_ne true (by omega)] at h)) (fun h => h1 (by rwa [getD_set_ne true (by omega)] at h)) (by rw [getD_set_ne true (by omega)]; exact hun) hK
      have hno := fun f args w' => no_enter (P := P) (ρ := a.eval) (o := o) (w := w) (w' := w') (f := f) (args := args) (hpl i o hin ho)
      unfold Oper.quietAt at hq
      unfold Oper.wp
      generalize (execOp a.eval o).run P w = r at hq hno
      cases r with
      | ok x w' =>
        cases x <;> simp only [Oper.quietUpon] at hq <;> simp only [Oper.upon]
        case value y => rw [hq.1, hq.2]; exact next
        case skip => rw [hq.1, ← hq.2]; exact next
        case enter f args => exact absurd rfl (hno f args w')
      | halt x w' => simp only [Oper.quietUpon] at hq
    · by_cases hia : i = n
      · subst hia
        have hoo : o = oa := Option.some.inj (ho.symm.trans ha)
        subst hoo
        obtain ⟨u, hy, hK⟩ := yieldsIn_of_qOp ha' HQ
        have hu : u = v := by
          obtain ⟨w0, hw0⟩ := hne
          rcases hy with ⟨_, hv⟩ | ⟨hf, _⟩
          · have := hv w0 (hC0 w0 hw0)
            unfold Oper.quietAt execOp at this
            rw [hop] at this
            simp only [Sem.run_pure, Oper.quietUpon, Act.eval] at this
            exact this.2.symm
          · rw [wan ops' a oa' hga] at hf; cases hf
        subst hu
        rw [hda] at hK
        refine halloc a w _ (h0 hil) fun w' hw' => ih _ _ _ (by simpa using hsz) (fun h => ?_) (fun _ => hw') (by rw [getD_set_ne true (by omega)]; exact hun) hK
        rw [Array.getD_eq_getD_getElem?, Array.getElem?_setIfInBounds_self_of_lt (by omega)] at h
        cases h
      · obtain rfl : i = n + 1 := by omega
        have hoo : o = os := Option.some.inj (ho.symm.trans hst)
        subst hoo
        obtain ⟨u, hy, hK⟩ := yieldsIn_of_qOp hst' HQ
        rw [hds] at hK
        have hput : a.put none u = a := rfl
        rw [hput] at hK
        have all : ∀ j, j < n + 1 → listed.getD j false = true := fun j hj => by
          obtain ⟨e, he, hb, rfl⟩ := hdep j hj
          exact hall e he hb
        have rn : Region.ready .any ops (listed.setIfInBounds (n + 1) true) = [] := by
          cases hr : Region.ready .any ops (listed.setIfInBounds (n + 1) true) with
          | nil => rfl
          | cons x r =>
            exfalso
            have hx : x ∈ Region.ready .any ops (listed.setIfInBounds (n + 1) true) := by rw [hr]; exact List.mem_cons_self
            obtain ⟨hx1, o', ho', _⟩ := mem_ready.1 hx
            have hxl : x < ops.size := by
              rcases Nat.lt_or_ge x ops.size with h' | h'
              · exact h'
              · rw [Array.getElem?_eq_none h'] at ho'; cases ho'
            by_cases hxn : x = n + 1
            · subst hxn
              rw [Array.getD_eq_getD_getElem?, Array.getElem?_setIfInBounds_self_of_lt (by omega)] at hx1
              cases hx1
            · rw [getD_set_ne true (by omega)] at hx1
              have := all x (by omega)
              rw [Array.getD_eq_getD_getElem?, Array.getElem?_eq_getElem (by omega)] at this hx1
              simp at this hx1
              rw [this] at hx1
              cases hx1
        have hC1 : C1 w := h1 (by
          have := all n (by omega)
          rw [Array.getD_eq_getD_getElem?, Array.getElem?_eq_getElem (by omega)] at this ⊢
          simpa using this)
        have haa : QF a := by
          have rn' := (ready_congr hs haf _).symm.trans rn
          cases fuel with
          | zero => exact hK.2
          | succ m => exact hK.1 rn'
        refine Oper.wp_mono (fun a' w' hq => ?_) (hstore a w haa hC1)
        cases fuel with
        | zero => exact ⟨rn, hq⟩
        | succ m => exact ⟨fun _ => hq, fun j hj => by rw [rn] at hj; cases hj⟩
def depB (n : Nat) (os : Oper) : Bool := (List.range (n + 1)).all fun j => os.after.any fun e => Region.binds .any e && e.on == j
/-- The law, for a region whose operations are written out. -/
theorem region_alloc {P : Program} {id : Nat} {Q : Exit → Act → World → Prop} {a : Act} {w : World} {l : List Oper} (l' : List Oper) (n : Nat) (oa os : Oper) (v : Value) (X : Nat → World) (C1 : World → Prop)
    (hm : P.follows .mixedOrders = true) (hB : Region.lexB .any l'.toArray = true) (hback : backB l.toArray = true)
    (hl : l = l'.take n ++ [oa, os]) (hl' : l' = l'.take n ++ [{ oa with op := .assign (.const v) }, { os with op := .assign (.const undef) }]) (hlen : (l'.take n).length = n)
    (hgB : (l.all fun o => o.guard.isNone) = true) (hpB : ((l'.take n).all plainOp) = true) (hdB : depB n os = true) (hds : os.dst = none)
    (hX0 : ∀ k, ∃ j, w.drewN k = X j) (hX1 : ∀ w', C1 w' → ∃ j, w' = X j)
    (h : wpQuiet P l'.toArray (fun x => ∃ j, x = X j) (fun a' => ∀ w', C1 w' → os.wp P a' w' (fun a'' w'' => Q .normal a'' w'') Q) l' a)
    (halloc : ∀ (a : Act) (k : Nat) (K : Act → World → Prop), (∀ w', C1 w' → K (a.put oa.dst v) w') → oa.wp P a (w.drewN k) K Q) : (Code.region id l.toArray true).wp P Q a w := by
  have hsz : l.toArray.size = n + 2 := by rw [hl]; simp [hlen]
  have hsz' : l'.toArray.size = n + 2 := by rw [hl']; simp [hlen]
  have gl : ∀ i : Nat, i < n → l.toArray[i]? = (l'.take n)[i]? := fun i hi => by rw [hl]; simp [List.getElem?_append_left (show i < (l'.take n).length by omega)]
  have gl' : ∀ i : Nat, i < n → l'.toArray[i]? = (l'.take n)[i]? := fun i hi => by rw [List.getElem?_toArray, List.getElem?_take_of_lt hi]
  have ga : l.toArray[n]? = some oa := by rw [hl, List.getElem?_toArray, List.getElem?_append_right (by omega)]; simp [hlen]
  have gs : l.toArray[n + 1]? = some os := by rw [hl, List.getElem?_toArray, List.getElem?_append_right (by omega)]; simp [hlen]
  have ga' : l'.toArray[n]? = some { oa with op := .assign (.const v) } := by rw [hl', List.getElem?_toArray, List.getElem?_append_right (by omega)]; simp [hlen]
  have gs' : l'.toArray[n + 1]? = some { os with op := .assign (.const undef) } := by rw [hl', List.getElem?_toArray, List.getElem?_append_right (by omega)]; simp [hlen]
  have hB' := hB
  simp only [Region.lexB, Bool.and_eq_true] at hB'
  have hq := wpAnyQ_lex (C := fun x => ∃ j, x = X j) (md := .any) hB'.1 l' 0 (Array.replicate l'.toArray.size false) a (by simp) (by simpa using hB'.2) h
  refine wp_region_any hm ?_
  rw [hsz]
  have hll : l'.length = n + 2 := by simpa using hsz'
  rw [hsz', hll] at hq
  refine sim (C := fun x => ∃ j, x = X j) (C0 := fun w' => ∃ k, w' = w.drewN k) (C1 := C1) (n := n) (oa := oa) (os := os) (v := v) hsz (by rw [hsz, hsz']) (fun i => ?_) hback (fun i hi => (gl i hi).trans (gl' i hi).symm) (fun i o ho => ?_) (fun i o hi ho => ?_) ga ga' rfl ?_ rfl gs gs' hds (fun j hj => ?_) (fun a w0 K hw0 hK => ?_) (fun a w0 hq hw0 => hq w0 hw0) ⟨w, 0, rfl⟩ (fun w0 hw0 => ?_) hX1 (n + 2) (Array.replicate (n + 2) false) a _ (by simp [hsz]) (fun _ => ⟨1, rfl⟩) (fun h => ?_) ?_ hq
  · by_cases hi : i < n
    · rw [gl i hi, gl' i hi]
    · by_cases h1 : i = n
      · subst h1; rw [ga, ga']; rfl
      · by_cases h2 : i = n + 1
        · subst h2; rw [gs, gs']; rfl
        · rw [Array.getElem?_eq_none (by omega), Array.getElem?_eq_none (by omega)]
  · have := List.all_eq_true.1 hgB o (by rw [List.getElem?_toArray] at ho; exact List.mem_of_getElem? ho)
    simpa using this
  · rw [gl i hi] at ho
    exact List.all_eq_true.1 hpB o (List.mem_of_getElem? ho)
  · have := List.all_eq_true.1 hgB oa (by rw [List.getElem?_toArray] at ga; exact List.mem_of_getElem? ga)
    simpa using this
  · have := List.all_eq_true.1 hdB j (List.mem_range.2 hj)
    obtain ⟨e, he, hh⟩ := Array.any_eq_true'.1 this
    simp only [Bool.and_eq_true, beq_iff_eq] at hh
    exact ⟨e, he, hh.1, hh.2⟩
  · obtain ⟨k, rfl⟩ := hw0
    exact halloc a k K hK
  · obtain ⟨k, rfl⟩ := hw0
    exact hX0 k
  · simp at h
  · simp
end Go.Proofs.YtkpopingbbaomaaGreatDoor
namespace Go.Proofs.YtkpopingbbaomaaGreatDoor
open Go Go.RowKit Go.Shelf
attribute [local go_sem] Oper.semAt_some
attribute [local go_sem ↓] Go.wp_at_zero Go.wp_at_succ


def fdB (ys : List BX) (x : Int) : Option BX := ys.find? fun y => decide (y.2.1 = x)
def vlB (ys : List BX) (x : Int) : ByteArray := ((fdB ys x).map fun y => y.2.2).getD ⟨#[]⟩
/-- What is read of a sector. -/
def rdS (S : List ByteArray) (C : List PP) (j : Nat) : ByteArray := ((fdB (bkL C C.length C.length) j).map fun y => y.2.2).getD (S.getD j ⟨#[]⟩)
theorem fdB_no {ys : List BX} {x : Int} {y : BX} (h : fdB ys x = none) (hy : ¬ y.2.1 = x) : fdB (ys ++ [y]) x = none := by
  unfold fdB at *; rw [List.find?_append, h]; simp [hy]
theorem fdB_yes {ys : List BX} {x : Int} {y : BX} (h : fdB ys x = none) (hy : y.2.1 = x) : fdB (ys ++ [y]) x = some y := by
  unfold fdB at *; rw [List.find?_append, h]; simp [hy]
theorem bkL_split (vs : List PP) (len k : Nat) (h : k ≤ len) : ∃ r, bkL vs len len = bkL vs len k ++ r := by
  refine ⟨((List.range' k (len - k))).map (bkF vs len), ?_⟩
  unfold bkL
  rw [← List.map_append]
  congr 1
  have h2 := List.range'_append_1 (s := 0) (m := k) (n := len - k)
  rw [Nat.zero_add, show k + (len - k) = len by omega] at h2
  rw [List.range_eq_range', List.range_eq_range', h2]
theorem rdS_hit {S : List ByteArray} {C : List PP} {j k : Nat} (hk : k ≤ C.length) {y : BX} (h : fdB (bkL C C.length k) j = some y) : rdS S C j = y.2.2 := by
  obtain ⟨r, hr⟩ := bkL_split C C.length k hk
  unfold rdS
  have : fdB (bkL C C.length C.length) j = some y := by rw [hr]; unfold fdB at *; rw [List.find?_append, h]; rfl
  rw [this]; rfl
theorem rdS_miss {S : List ByteArray} {C : List PP} {j : Nat} (h : fdB (bkL C C.length C.length) j = none) : rdS S C j = S.getD j ⟨#[]⟩ := by unfold rdS; rw [h]; rfl
theorem block_own {β : Type} (B : Nat) (t : TypeId) (c : Array Value) : Own (fun (_ : β) W => Box W B t c) := fun s X Y row hs hg hrow =>
  (hg.block B hs.lt (fun e' => by obtain ⟨o, ho, hc⟩ := hrow B e'.symm; rw [show X.heap[B]? = _ from hs] at ho; cases ho; cases hc)).trans hs
set_option maxRecDepth 100000 in
set_option maxHeartbeats 4000000 in
theorem rs_in (F : Fence) (n : Nat) (h49 : F.fn 237) (h78 : F.fn 283) (h84 : F.fn 305) (hro : F.round = none) (hn : 6 ≤ n) (a0 : Option Addr) (n0 c0 : Nat) (a1 : Option Addr) (n1 c1 : Nat) (b : Bool) (a2 : Option Addr) (n2 c2 : Nat) (S : List ByteArray) (C : List PP) (j : Nat) (x : Int) (hxj : x = (j : Int)) (w : World)
    (r0 : RdV w a0 n0 (S.map Value.string)) (r1 : RdP w a1 n1 C) (hj : j < n0) (hn0 : n0 ≤ 1048576) (hn1 : n1 ≤ 1048576) :
    CallsIn F n Tryz.prog 237 #[.agg #[.slice a0 n0 c0, .slice a1 n1 c1, .bool b, .slice a2 n2 c2], .int .i64 x] w fun e W' => e = .returned (.string (rdS S C j)) ∧ Below w.heap.size w W' := by
  have h1 : 1 ≤ n := by omega
  have l0 : S.length = n0 := by simpa using r0.1
  have l1 := r1.1
  have HXJ : Hid (x = (j : Int)) := hxj
  clear hxj
  refine callsIn_of_wp_marks Tryz.func237 rfl h49 ?_ hro
  simp only [Tryz.ntmps237, List.size_toArray, List.length_cons, List.length_nil, Nat.reduceAdd, Nat.reduceSub, Array.replicate_succ, Array.replicate_zero, List.push_toArray, List.append_toArray, List.nil_append, List.cons_append]
  gi_wp2_with (gi_at_call 283; refine (bk_in F (n - 1) h78 hro _ _ _ _).mono ?_; rintro e w' ⟨rfl, rfl⟩)
  have bD : Box ((((w.alloc (.cells #[.slice a0 n0 c0, .slice a1 n1 c1, .bool b, .slice a2 n2 c2] 42)).alloc (.cells #[.int .i64 x] 3)).alloc (.cells #[.string ⟨#[]⟩] 9)).alloc (.cells #[.slice a1 n1 c1] 40)) w.heap.size 42 #[.slice a0 n0 c0, .slice a1 n1 c1, .bool b, .slice a2 n2 c2] := (((Box.new w #[.slice a0 n0 c0, .slice a1 n1 c1, .bool b, .slice a2 n2 c2] 42).alloc _).alloc _).alloc _
  have bA := ((Boxed.new (w.alloc (.cells #[.slice a0 n0 c0, .slice a1 n1 c1, .bool b, .slice a2 n2 c2] 42)) 3 (.int .i64 x)).alloc (.cells #[.string ⟨#[]⟩] 9)).alloc (.cells #[.slice a1 n1 c1] 40)
  have bR := (Boxed.new ((w.alloc (.cells #[.slice a0 n0 c0, .slice a1 n1 c1, .bool b, .slice a2 n2 c2] 42)).alloc (.cells #[.int .i64 x] 3)) 9 (.string ⟨#[]⟩)).alloc (.cells #[.slice a1 n1 c1] 40)
  have bS := Boxed.new (((w.alloc (.cells #[.slice a0 n0 c0, .slice a1 n1 c1, .bool b, .slice a2 n2 c2] 42)).alloc (.cells #[.int .i64 x] 3)).alloc (.cells #[.string ⟨#[]⟩] 9)) 40 (.slice a1 n1 c1)
  simp only [World.size_alloc] at bA bR bS
  have hB0 : Below w.heap.size w ((((w.alloc (.cells #[.slice a0 n0 c0, .slice a1 n1 c1, .bool b, .slice a2 n2 c2] 42)).alloc (.cells #[.int .i64 x] 3)).alloc (.cells #[.string ⟨#[]⟩] 9)).alloc (.cells #[.slice a1 n1 c1] 40)) := ((((Below.refl _ w).alloc (Nat.le_refl _) _).alloc (by simp) _).alloc (by simp; omega) _).alloc (by simp; omega) _
  have hsz : ((((w.alloc (.cells #[.slice a0 n0 c0, .slice a1 n1 c1, .bool b, .slice a2 n2 c2] 42)).alloc (.cells #[.int .i64 x] 3)).alloc (.cells #[.string ⟨#[]⟩] 9)).alloc (.cells #[.slice a1 n1 c1] 40)).heap.size = w.heap.size + 4 := by simp
  obtain ⟨W0, hW0⟩ : ∃ W0, (((w.alloc (.cells #[.slice a0 n0 c0, .slice a1 n1 c1, .bool b, .slice a2 n2 c2] 42)).alloc (.cells #[.int .i64 x] 3)).alloc (.cells #[.string ⟨#[]⟩] 9)).alloc (.cells #[.slice a1 n1 c1] 40) = W0 := ⟨_, rfl⟩
  rw [hW0] at bD bA bR bS hB0 hsz ⊢
  clear hW0
  refine wpIn_rangeFunc_ownH hro h1 (gf := 305) (lb := #[.pointer (some ⟨w.heap.size + 1 + 1 + 1, 0, none⟩)]) rfl h84 (enters_of Tryz.func305 (by kernel_rfl) rfl)
    (bk_stops F (n - 1) h84 hro (by omega) (w.heap.size + 1 + 1 + 1) W0.heap.size a1 n1 c1 C hn1 W0 (by omega) (Nat.le_refl _) bS.cell (r1.below hB0) (fun b' off' hp e => by obtain ⟨b2, off2, e2, hlt, _⟩ := r1.2 hp; rw [e] at e2; cases e2; omega)) belowK_t (belowK_b (Nat.le_refl _)) (Below.refl _ _) (fun _ => rfl)
    (fun pre W => (((fdB pre x = none ∧ Boxed W (w.heap.size + 1 + 1) 9 (.string ⟨#[]⟩)) ∧ Boxed W (w.heap.size + 1) 3 (.int .i64 x)) ∧ Box W w.heap.size 42 #[.slice a0 n0 c0, .slice a1 n1 c1, .bool b, .slice a2 n2 c2]) ∧ Below W0.heap.size W0 W)
    (fun c pre W => ((c = .ret ∧ (fdB pre x).isSome = true) ∧ Boxed W (w.heap.size + 1 + 1) 9 (.string (vlB pre x))) ∧ Below w.heap.size w W)
    (OwnFrom.and (OwnFrom.and (OwnFrom.and (OwnFrom.and (ownFrom_pure _ _) (Own.from (boxed_own _ _ _) _)) (Own.from (boxed_own _ _ _) _)) (Own.from (block_own _ _ _) _)) (ownFrom_below (Nat.le_refl _) (Nat.le_refl _)))
    (fun c => OwnFrom.and (OwnFrom.and (ownFrom_pure _ _) (Own.from (boxed_own _ _ _) _)) (ownFrom_below (Nat.le_refl _) (by omega)))
    ⟨⟨⟨⟨rfl, bR⟩, bA⟩, bD⟩, Below.refl _ _⟩
    (fun y a' W => ∃ Bx, w.heap.size + 4 ≤ Bx ∧ Box W Bx 197 #[.int .i64 y.2.1, .string y.2.2] ∧ a' = { tmps := #[.agg #[.slice a0 n0 c0, .slice a1 n1 c1, .bool b, .slice a2 n2 c2], .int .i64 x, .pointer (some ⟨w.heap.size, 0, none⟩), .pointer (some ⟨w.heap.size + 1, 0, none⟩), .pointer (some ⟨w.heap.size + 1 + 1, 0, none⟩), undef, .pointer (some ⟨Bx, 0, none⟩), .pointer (some ⟨w.heap.size, 1, none⟩), .slice a1 n1 c1, .func (.func 305) #[] #[.pointer (some ⟨w.heap.size + 1 + 1 + 1, 0, none⟩)], .int .i64 (y.1 : Int), .agg #[.int .i64 y.2.1, .string y.2.2], undef, undef, undef, undef, undef, undef, undef, undef, undef, undef, undef], defers := [] })
    (fun y a' _ X Y row hs hg hr => by obtain ⟨Bx, e1, e2, e3⟩ := hs; exact ⟨Bx, e1, block_own (β := Unit) Bx 197 _ () X Y row e2 hg (fun r e => (hr r e).2), e3⟩)
    ?assign ?body ?done ?stop
  case assign =>
    rintro l pre y W K ⟨⟨⟨⟨hp, bR1⟩, bA1⟩, bD1⟩, hB1⟩ hK
    dsimp only [encB]
    gi_wp2
    exact hK _ _ ((KeepsOthers.alloc _ _).from _) ((Below.refl _ W).alloc hB1.size _) ⟨⟨⟨⟨hp, bR1.alloc _⟩, bA1.alloc _⟩, bD1.alloc _⟩, hB1.alloc hB1.size _⟩ ⟨W.heap.size, by have := hB1.size; omega, Box.new W _ 197, rfl⟩
  case body =>
    rintro l pre y a' W hl ⟨r, hr⟩ ⟨⟨⟨⟨hp, bR1⟩, bA1⟩, bD1⟩, hB1⟩ ⟨Bx, hBx, bX, rfl⟩ hlt
    have cX0 : W.cell? ⟨Bx, 0, none⟩ = some (.int .i64 y.2.1) := bX.cell 0
    have cX1 : W.cell? ⟨Bx, 1, none⟩ = some (.string y.2.2) := bX.cell 1
    have cA := bA1.cell
    have cR := bR1.cell
    have fR := bR1.frozen
    by_cases he : y.2.1 = x
    · have hbe : (y.2.1 == x) = true := by simpa using he
      have hfy := fdB_yes hp he
      have hvy : vlB (pre ++ [y]) x = y.2.2 := by unfold vlB; rw [hfy]; rfl
      clear he
      gi_wp2
      exact ⟨(KeepsOthers.setCell _ _ _).from _, ⟨⟨rfl, by rw [hfy]; rfl⟩, by rw [hvy]; exact bR1.set _⟩, (hB0.trans (hB1.mono (by omega))).setCell (p := ⟨w.heap.size + 1 + 1, 0, none⟩) (by simp; omega) _⟩
    · have hbe : (y.2.1 == x) = false := by simpa using he
      have hfy := fdB_no hp he
      clear he
      gi_wp2
      exact ⟨KeepsFrom.refl _ _, Below.refl _ _, ⟨⟨⟨hfy, bR1⟩, bA1⟩, bD1⟩, hB1⟩
  case done =>
    rintro D zs W hD rfl ⟨⟨⟨⟨hp, bR1⟩, bA1⟩, bD1⟩, hB1⟩ hK
    have cR := bR1.cell
    have fR := bR1.frozen
    have cA := bA1.cell
    have cD : W.cell? ⟨w.heap.size, 0, none⟩ = some (.slice a0 n0 c0) := bD1.cell 0
    have hBw : Below w.heap.size w W := hB0.trans (hB1.mono (by omega))
    obtain ⟨b0, off0, rfl, hbl, hc⟩ := r0.2 (by omega)
    obtain ⟨s, hs⟩ : ∃ s, s = S.getD j ⟨#[]⟩ := ⟨_, rfl⟩
    have cS : W.cell? ⟨b0, off0 + j, none⟩ = some (.string s) := by rw [hBw.cell (p := ⟨b0, off0 + j, none⟩) hbl, hc j hj, hs]; exact map_get _ _ _ _ (by omega)
    have hres : rdS S C j = s := by rw [hs]; exact rdS_miss (by rw [l1, ← HXJ.out]; exact hp)
    have g1 : (0 : Int) ≤ (j : Int) := by omega
    have g2 : (j : Int) < (n0 : Int) := by omega
    have hxj := HXJ.out
    subst hxj
    clear hc hs
    gi_wp2
    have hK' := (KeepsOthers.setCell W ⟨w.heap.size + 1 + 1, 0, none⟩ (.string s)).same D _ hK rfl
    refine ⟨by simp, .inl ⟨_, _, rfl, run_takeDeferred hK', ?_⟩⟩
    have hc5 := cell_kept (bR1.set (.string s)).cell (grownBy_putObj' _ D (.deferred none)) (fun r e => by cases e; exact ⟨_, hK', rfl⟩)
    refine ⟨.string s, ?_, by first | rfl | rw [hres], (hBw.setCell (p := ⟨w.heap.size + 1 + 1, 0, none⟩) (by simp; omega) _).trans (belowK_b (w := w) (Nat.le_refl _) _ D _ _ (by omega) hK' rfl rfl)⟩
    simp [results, Tryz.f237, go_sem, hc5]
  case stop =>
    rintro D c pre W hD ⟨k, hk, rfl⟩ ⟨⟨⟨rfl, hf⟩, bR1⟩, hB1⟩ hK
    obtain ⟨y, hy⟩ := Option.isSome_iff_exists.1 hf
    have hres : rdS S C j = vlB (bkL C n1 k) x := by
      have h' : vlB (bkL C n1 k) x = y.2.2 := by unfold vlB; rw [hy]; rfl
      rw [h']
      exact rdS_hit (k := k) (by omega) (by rw [l1, ← HXJ.out]; exact hy)
    gi_wp2
    refine ⟨by simp, .inl ⟨_, _, rfl, run_takeDeferred hK, ?_⟩⟩
    have hc5 := cell_kept bR1.cell (grownBy_putObj' _ D (.deferred none)) (fun r e => by cases e; exact ⟨_, hK, rfl⟩)
    refine ⟨.string (vlB (bkL C n1 k) x), ?_, by first | rfl | rw [hres], hB1.trans (belowK_b (w := w) (Nat.le_refl _) W D _ _ (by omega) hK rfl rfl)⟩
    simp [results, Tryz.f237, go_sem, hc5]
theorem c_readSector (a0 : Option Addr) (n0 c0 : Nat) (a1 : Option Addr) (n1 c1 : Nat) (b : Bool) (a2 : Option Addr) (n2 c2 : Nat) (S : List ByteArray) (C : List PP) (j : Nat) (w : World)
    (r0 : RdV w a0 n0 (S.map Value.string)) (r1 : RdP w a1 n1 C) (hj : j < n0) (hn0 : n0 ≤ 1048576) (hn1 : n1 ≤ 1048576) :
    Calls Tryz.prog 237 #[.agg #[.slice a0 n0 c0, .slice a1 n1 c1, .bool b, .slice a2 n2 c2], .int .i64 (j : Int)] w fun e W' => e = .returned (.string (rdS S C j)) ∧ Below w.heap.size w W' :=
  (callsIn_wide (n := 6)).1 (rs_in Fence.wide 6 trivial trivial trivial rfl (by omega) a0 n0 c0 a1 n1 c1 b a2 n2 c2 S C j (j : Int) rfl w r0 r1 hj hn0 hn1)

end Go.Proofs.YtkpopingbbaomaaGreatDoor
