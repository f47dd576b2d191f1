/-
  A region that draws its order, whose operations only read, but for one alloc, which may come at any time, and a store, which comes last.
-/
import Derived.Deep.Quiet
import Derived.Tactics
namespace Go.Proofs.YtcokbogicbdoaaaDoor
open Go

def plainOp (o : Oper) : Bool := match o.op with
  | .move _ => true
  | .assign _ => true
  | .build _ _ => true
  | .load _ _ => true
  | .fieldAddr _ _ _ => true
  | .indexAddr _ _ _ => true
  | .index _ _ _ => true
  | .convert _ _ _ => true
  | _ => false
theorem no_enter {P : Program} {ρ : Operand → Value} {o : Oper} {w w' : World} {f : FuncId} {args : Array Value} (h : plainOp o = true) : (execOp ρ o).run P w ≠ .ok (.enter f args) w' := by
  unfold plainOp at h
  unfold execOp
  cases ho : o.op <;> rw [ho] at h <;> simp only [Bool.false_eq_true] at h <;> simp only [Sem.run_bind, Sem.run_pure]
  all_goals first
    | (intro e; cases e; done)
    | (generalize (Sem.run _ _ _) = r; cases r <;> simp [Result.andThen])
def backB (ops : Array Oper) : Bool := (List.range ops.size).all fun i => ((ops[i]?).map fun o => o.after.all fun e => !Region.binds .any e || decide (e.on < i)).getD true
theorem back_of {ops : Array Oper} (h : backB ops = true) {i : Nat} {o : Oper} (hi : ops[i]? = some o) {e : Edge} (he : e ∈ o.after) (hb : Region.binds .any e = true) : e.on < i := by
  unfold backB at h
  have hlt : i < ops.size := by
    rcases Nat.lt_or_ge i ops.size with h' | h'
    · exact h'
    · rw [Array.getElem?_eq_none h'] at hi; cases hi
  have := List.all_eq_true.1 h i (List.mem_range.2 hlt)
  rw [hi] at this
  simp only [Option.map_some, Option.getD_some] at this
  have h2 := (Array.all_eq_true'.1 this) e he
  rw [hb] at h2
  simpa using h2
theorem ready_nil {ops : Array Oper} {listed : Array Bool} (h : backB ops = true) (hs : listed.size = ops.size) (hr : Region.ready .any ops listed = []) : ∀ i, i < ops.size → listed.getD i true = true := by
  intro i
  induction i using Nat.strongRecOn with
  | ind i ih =>
    intro hi
    cases hl : listed.getD i true with
    | true => rfl
    | false =>
      exfalso
      obtain ⟨o, ho⟩ : ∃ o, ops[i]? = some o := ⟨_, Array.getElem?_eq_getElem hi⟩
      have : i ∈ Region.ready .any ops listed := mem_ready.2 ⟨hl, o, ho, fun e he hb => by
        have hlt := back_of h ho he hb
        have := ih e.on hlt (by omega)
        rw [Array.getD_eq_getD_getElem?, Array.getElem?_eq_getElem (by omega)] at this ⊢
        simpa using this⟩
      rw [hr] at this
      cases this
theorem ready_congr {ops ops' : Array Oper} (hs : ops.size = ops'.size) (h : ∀ i : Nat, (ops[i]?).map (fun o : Oper => o.after) = (ops'[i]?).map (fun o : Oper => o.after)) (listed : Array Bool) : Region.ready .any ops listed = Region.ready .any ops' listed := by
  unfold Region.ready
  rw [hs]
  apply List.filter_congr
  intro i _
  have := congrArg (Option.map fun a : Array Edge => a.all fun e => !Region.binds .any e || listed.getD e.on false) (h i)
  simp only [Option.map_map, Function.comp_def] at this
  rw [this]
/-- The simulation: what serves the operations with a constant in the alloc's place and nothing in the store's place serves these. -/
theorem sim {P : Program} {ops ops' : Array Oper} {C C0 C1 : World → Prop} {Q : Exit → Act → World → Prop} {n : Nat} {oa os oa' os' : Oper} {v : Value} {QF : Act → Prop}
    (hn : ops.size = n + 2) (hs : ops.size = ops'.size) (haf : ∀ i : Nat, (ops[i]?).map (fun o : Oper => o.after) = (ops'[i]?).map (fun o : Oper => o.after)) (hback : backB ops = true)
    (hsame : ∀ i : Nat, i < n → ops[i]? = ops'[i]?) (hg : ∀ (i : Nat) (o : Oper), ops[i]? = some o → o.guard = none) (hpl : ∀ (i : Nat) (o : Oper), i < n → ops[i]? = some o → plainOp o = true)
    (ha : ops[n]? = some oa) (ha' : ops'[n]? = some oa') (hda : oa'.dst = oa.dst) (hga : oa'.guard = none) (hop : oa'.op = .assign (.const v))
    (hst : ops[n + 1]? = some os) (hst' : ops'[n + 1]? = some os') (hds : os'.dst = none)
    (hdep : ∀ j, j < n + 1 → ∃ e ∈ os.after, Region.binds .any e = true ∧ e.on = j)
    (halloc : ∀ (a : Act) (w : World) (K : Act → World → Prop), C0 w → (∀ w', C1 w' → K (a.put oa.dst v) w') → oa.wp P a w K Q)
    (hstore : ∀ a w, QF a → C1 w → os.wp P a w (fun a' w' => Q .normal a' w') Q) (hne : ∃ w, C0 w) (hC0 : ∀ w, C0 w → C w) (hC1 : ∀ w, C1 w → C w) :
    ∀ (fuel : Nat) (listed : Array Bool) (a : Act) (w : World), listed.size = ops.size → (listed.getD n true = false → C0 w) → (listed.getD n true = true → C1 w) → listed.getD (n + 1) true = false →
      wpAnyQ P .any ops' C QF fuel listed a → wpAny P .any ops Q fuel listed a w := by
  intro fuel
  have nilF : ∀ listed : Array Bool, listed.size = ops.size → listed.getD (n + 1) true = false → Region.ready .any ops listed = [] → False := fun listed h1 h2 h3 => by
    have := ready_nil hback h1 h3 (n + 1) (by omega)
    rw [this] at h2
    cases h2
  have wan : ∀ (X : Array Oper) (a : Act) (o : Oper), o.guard = none → Region.wanted o (yielded X a.tmps) = true := fun X a o h => by simp [Region.wanted, h]
  induction fuel with
  | zero =>
    intro listed a w hsz _ _ hun H
    exact absurd ((ready_congr hs haf listed).trans H.1) (nilF listed hsz hun)
  | succ fuel ih =>
    intro listed a w hsz h0 h1 hun H
    refine ⟨fun hr => absurd hr (nilF listed hsz hun), fun i hi => ?_⟩
    have hi' : i ∈ Region.ready .any ops' listed := by rw [← ready_congr hs haf listed]; exact hi
    have HQ := H.2 i hi'
    obtain ⟨hil, o, ho, hall⟩ := mem_ready.1 hi
    have hilt : i < ops.size := by
      rcases Nat.lt_or_ge i ops.size with h' | h'
      · exact h'
      · rw [Array.getElem?_eq_none h'] at ho; cases ho
    have hwo := wan ops a o (hg i o ho)
    unfold wpOp
    simp only [ho, hwo, if_true]
    refine .inl ?_
    by_cases hin : i < n
    · have ho' : ops'[i]? = some o := (hsame i hin).symm.trans ho
      obtain ⟨u, hy, hK⟩ := yieldsIn_of_qOp ho' HQ
      have hCw : C w := by
        cases hl : listed.getD n true with
        | true => exact hC1 w (h1 hl)
        | false => exact hC0 w (h0 hl)
      have hq : o.quietAt P a C w u := by
        rcases hy with ⟨_, hv⟩ | ⟨hf, _⟩
        · exact hv w hCw
        · rw [wan ops' a o (hg i o ho)] at hf; cases hf
      have next : wpAny P .any ops Q fuel (listed.setIfInBounds i true) (a.put o.dst u) w :=
        ih _ _ _ (by simpa using hsz) (fun h => h0 (by rwa [getD_set_ne true (by omega)] at h)) (fun h => h1 (by rwa [getD_set_ne true (by omega)] at h)) (by rw [getD_set_ne true (by omega)]; exact hun) hK
      have hno := fun f args w' => no_enter (P := P) (ρ := a.eval) (o := o) (w := w) (w' := w') (f := f) (args := args) (hpl i o hin ho)
      unfold Oper.quietAt at hq
      unfold Oper.wp
      generalize (execOp a.eval o).run P w = r at hq hno
      cases r with
      | ok x w' =>
        cases x <;> simp only [Oper.quietUpon] at hq <;> simp only [Oper.upon]
        case value y => rw [hq.1, hq.2]; exact next
        case skip => rw [hq.1, ← hq.2]; exact next
        case enter f args => exact absurd rfl (hno f args w')
      | halt x w' => simp only [Oper.quietUpon] at hq
    · by_cases hia : i = n
      · subst hia
        have hoo : o = oa := Option.some.inj (ho.symm.trans ha)
        subst hoo
        obtain ⟨u, hy, hK⟩ := yieldsIn_of_qOp ha' HQ
        have hu : u = v := by
          obtain ⟨w0, hw0⟩ := hne
          rcases hy with ⟨_, hv⟩ | ⟨hf, _⟩
          · have := hv w0 (hC0 w0 hw0)
            unfold Oper.quietAt execOp at this
            rw [hop] at this
            simp only [Sem.run_pure, Oper.quietUpon, Act.eval] at this
            exact this.2.symm
          · rw [wan ops' a oa' hga] at hf; cases hf
        subst hu
        rw [hda] at hK
        refine halloc a w _ (h0 hil) fun w' hw' => ih _ _ _ (by simpa using hsz) (fun h => ?_) (fun _ => hw') (by rw [getD_set_ne true (by omega)]; exact hun) hK
        rw [Array.getD_eq_getD_getElem?, Array.getElem?_setIfInBounds_self_of_lt (by omega)] at h
        cases h
      · obtain rfl : i = n + 1 := by omega
        have hoo : o = os := Option.some.inj (ho.symm.trans hst)
        subst hoo
        obtain ⟨u, hy, hK⟩ := yieldsIn_of_qOp hst' HQ
        rw [hds] at hK
        have hput : a.put none u = a := rfl
        rw [hput] at hK
        have all : ∀ j, j < n + 1 → listed.getD j false = true := fun j hj => by
          obtain ⟨e, he, hb, rfl⟩ := hdep j hj
          exact hall e he hb
        have rn : Region.ready .any ops (listed.setIfInBounds (n + 1) true) = [] := by
          cases hr : Region.ready .any ops (listed.setIfInBounds (n + 1) true) with
          | nil => rfl
          | cons x r =>
            exfalso
            have hx : x ∈ Region.ready .any ops (listed.setIfInBounds (n + 1) true) := by rw [hr]; exact List.mem_cons_self
            obtain ⟨hx1, o', ho', _⟩ := mem_ready.1 hx
            have hxl : x < ops.size := by
              rcases Nat.lt_or_ge x ops.size with h' | h'
              · exact h'
              · rw [Array.getElem?_eq_none h'] at ho'; cases ho'
            by_cases hxn : x = n + 1
            · subst hxn
              rw [Array.getD_eq_getD_getElem?, Array.getElem?_setIfInBounds_self_of_lt (by omega)] at hx1
              cases hx1
            · rw [getD_set_ne true (by omega)] at hx1
              have := all x (by omega)
              rw [Array.getD_eq_getD_getElem?, Array.getElem?_eq_getElem (by omega)] at this hx1
              simp at this hx1
              rw [this] at hx1
              cases hx1
        have hC1 : C1 w := h1 (by
          have := all n (by omega)
          rw [Array.getD_eq_getD_getElem?, Array.getElem?_eq_getElem (by omega)] at this ⊢
          simpa using this)
        have haa : QF a := by
          have rn' := (ready_congr hs haf _).symm.trans rn
          cases fuel with
          | zero => exact hK.2
          | succ m => exact hK.1 rn'
        refine Oper.wp_mono (fun a' w' hq => ?_) (hstore a w haa hC1)
        cases fuel with
        | zero => exact ⟨rn, hq⟩
        | succ m => exact ⟨fun _ => hq, fun j hj => by rw [rn] at hj; cases hj⟩
def depB (n : Nat) (os : Oper) : Bool := (List.range (n + 1)).all fun j => os.after.any fun e => Region.binds .any e && e.on == j
/-- The law, for a region whose operations are written out. -/
theorem region_alloc {P : Program} {id : Nat} {Q : Exit → Act → World → Prop} {a : Act} {w : World} {l : List Oper} (l' : List Oper) (n : Nat) (oa os : Oper) (v : Value) (X : Nat → World) (C1 : World → Prop)
    (hm : P.follows .mixedOrders = true) (hB : Region.lexB .any l'.toArray = true) (hback : backB l.toArray = true)
    (hl : l = l'.take n ++ [oa, os]) (hl' : l' = l'.take n ++ [{ oa with op := .assign (.const v) }, { os with op := .assign (.const undef) }]) (hlen : (l'.take n).length = n)
    (hgB : (l.all fun o => o.guard.isNone) = true) (hpB : ((l'.take n).all plainOp) = true) (hdB : depB n os = true) (hds : os.dst = none)
    (hX0 : ∀ k, ∃ j, w.drewN k = X j) (hX1 : ∀ w', C1 w' → ∃ j, w' = X j)
    (h : wpQuiet P l'.toArray (fun x => ∃ j, x = X j) (fun a' => ∀ w', C1 w' → os.wp P a' w' (fun a'' w'' => Q .normal a'' w'') Q) l' a)
    (halloc : ∀ (a : Act) (k : Nat) (K : Act → World → Prop), (∀ w', C1 w' → K (a.put oa.dst v) w') → oa.wp P a (w.drewN k) K Q) : (Code.region id l.toArray true).wp P Q a w := by
  have hsz : l.toArray.size = n + 2 := by rw [hl]; simp [hlen]
  have hsz' : l'.toArray.size = n + 2 := by rw [hl']; simp [hlen]
  have gl : ∀ i : Nat, i < n → l.toArray[i]? = (l'.take n)[i]? := fun i hi => by rw [hl]; simp [List.getElem?_append_left (show i < (l'.take n).length by omega)]
  have gl' : ∀ i : Nat, i < n → l'.toArray[i]? = (l'.take n)[i]? := fun i hi => by rw [List.getElem?_toArray, List.getElem?_take_of_lt hi]
  have ga : l.toArray[n]? = some oa := by rw [hl, List.getElem?_toArray, List.getElem?_append_right (by omega)]; simp [hlen]
  have gs : l.toArray[n + 1]? = some os := by rw [hl, List.getElem?_toArray, List.getElem?_append_right (by omega)]; simp [hlen]
  have ga' : l'.toArray[n]? = some { oa with op := .assign (.const v) } := by rw [hl', List.getElem?_toArray, List.getElem?_append_right (by omega)]; simp [hlen]
  have gs' : l'.toArray[n + 1]? = some { os with op := .assign (.const undef) } := by rw [hl', List.getElem?_toArray, List.getElem?_append_right (by omega)]; simp [hlen]
  have hB' := hB
  simp only [Region.lexB, Bool.and_eq_true] at hB'
  have hq := wpAnyQ_lex (C := fun x => ∃ j, x = X j) (md := .any) hB'.1 l' 0 (Array.replicate l'.toArray.size false) a (by simp) (by simpa using hB'.2) h
  refine wp_region_any hm ?_
  rw [hsz]
  have hll : l'.length = n + 2 := by simpa using hsz'
  rw [hsz', hll] at hq
  refine sim (C := fun x => ∃ j, x = X j) (C0 := fun w' => ∃ k, w' = w.drewN k) (C1 := C1) (n := n) (oa := oa) (os := os) (v := v) hsz (by rw [hsz, hsz']) (fun i => ?_) hback (fun i hi => (gl i hi).trans (gl' i hi).symm) (fun i o ho => ?_) (fun i o hi ho => ?_) ga ga' rfl ?_ rfl gs gs' hds (fun j hj => ?_) (fun a w0 K hw0 hK => ?_) (fun a w0 hq hw0 => hq w0 hw0) ⟨w, 0, rfl⟩ (fun w0 hw0 => ?_) hX1 (n + 2) (Array.replicate (n + 2) false) a _ (by simp [hsz]) (fun _ => ⟨1, rfl⟩) (fun h => ?_) ?_ hq
  · by_cases hi : i < n
    · rw [gl i hi, gl' i hi]
    · by_cases h1 : i = n
      · subst h1; rw [ga, ga']; rfl
      · by_cases h2 : i = n + 1
        · subst h2; rw [gs, gs']; rfl
        · rw [Array.getElem?_eq_none (by omega), Array.getElem?_eq_none (by omega)]
  · have := List.all_eq_true.1 hgB o (by rw [List.getElem?_toArray] at ho; exact List.mem_of_getElem? ho)
    simpa using this
  · rw [gl i hi] at ho
    exact List.all_eq_true.1 hpB o (List.mem_of_getElem? ho)
  · have := List.all_eq_true.1 hgB oa (by rw [List.getElem?_toArray] at ga; exact List.mem_of_getElem? ga)
    simpa using this
  · have := List.all_eq_true.1 hdB j (List.mem_range.2 hj)
    obtain ⟨e, he, hh⟩ := Array.any_eq_true'.1 this
    simp only [Bool.and_eq_true, beq_iff_eq] at hh
    exact ⟨e, he, hh.1, hh.2⟩
  · obtain ⟨k, rfl⟩ := hw0
    exact halloc a k K hK
  · obtain ⟨k, rfl⟩ := hw0
    exact hX0 k
  · simp at h
  · simp
end Go.Proofs.YtcokbogicbdoaaaDoor
