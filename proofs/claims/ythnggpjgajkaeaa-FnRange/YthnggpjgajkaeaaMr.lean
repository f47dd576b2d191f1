/-
  A region that draws its order, whose operations only read (guarded ones and calls among them), but for a store that waits for all of them.
-/
import Derived.Deep.Quiet
import Derived.Deep.QuietTactic
import Derived.BigQuiet
import Derived.Tactics
import Derived.Test.YthnggpjgajkaeaaYq
namespace Go.Proofs.Ythnggpjgajkaeaa
open Go Go.RowKit

def backB (ops : Array Oper) : Bool := (List.range ops.size).all fun i => ((ops[i]?).map fun o => o.after.all fun e => !Region.binds .any e || decide (e.on < i)).getD true
theorem back_of {ops : Array Oper} (h : backB ops = true) {i : Nat} {o : Oper} (hi : ops[i]? = some o) {e : Edge} (he : e ∈ o.after) (hb : Region.binds .any e = true) : e.on < i := by
  unfold backB at h
  have hlt : i < ops.size := by
    rcases Nat.lt_or_ge i ops.size with h' | h'
    · exact h'
    · rw [Array.getElem?_eq_none h'] at hi; cases hi
  have := List.all_eq_true.1 h i (List.mem_range.2 hlt)
  rw [hi] at this
  simp only [Option.map_some, Option.getD_some] at this
  have h2 := (Array.all_eq_true'.1 this) e he
  rw [hb] at h2
  simpa using h2
theorem ready_nil {ops : Array Oper} {listed : Array Bool} (h : backB ops = true) (hs : listed.size = ops.size) (hr : Region.ready .any ops listed = []) : ∀ i, i < ops.size → listed.getD i true = true := by
  intro i
  induction i using Nat.strongRecOn with
  | ind i ih =>
    intro hi
    cases hl : listed.getD i true with
    | true => rfl
    | false =>
      exfalso
      obtain ⟨o, ho⟩ : ∃ o, ops[i]? = some o := ⟨_, Array.getElem?_eq_getElem hi⟩
      have : i ∈ Region.ready .any ops listed := mem_ready.2 ⟨hl, o, ho, fun e he hb => by
        have hlt := back_of h ho he hb
        have := ih e.on hlt (by omega)
        rw [Array.getD_eq_getD_getElem?, Array.getElem?_eq_getElem (by omega)] at this ⊢
        simpa using this⟩
      rw [hr] at this
      cases this
theorem ready_congr {ops ops' : Array Oper} (hs : ops.size = ops'.size) (h : ∀ i : Nat, (ops[i]?).map (fun o : Oper => o.after) = (ops'[i]?).map (fun o : Oper => o.after)) (listed : Array Bool) : Region.ready .any ops listed = Region.ready .any ops' listed := by
  unfold Region.ready
  rw [hs]
  apply List.filter_congr
  intro i _
  have := congrArg (Option.map fun a : Array Edge => a.all fun e => !Region.binds .any e || listed.getD e.on false) (h i)
  simp only [Option.map_map, Function.comp_def] at this
  rw [this]
theorem yielded_congr {ops ops' : Array Oper} (h : ∀ i : Nat, (ops[i]?).bind (fun o : Oper => o.dst) = (ops'[i]?).bind (fun o : Oper => o.dst)) (t : Array Value) : yielded ops t = yielded ops' t := by
  funext j
  unfold yielded
  rw [h j]
theorem inv_step {ops : Array Oper} {listed : Array Bool} {i : Nat} {o : Oper} (hinv : ∀ k o, listed.getD k false = true → ops[k]? = some o → ∀ e ∈ o.after, Region.binds .any e = true → listed.getD e.on false = true) (ho : ops[i]? = some o) (hall : ∀ e ∈ o.after, Region.binds .any e = true → listed.getD e.on false = true) (hi : i < ops.size) (hsz : listed.size = ops.size) : ∀ k o, (listed.setIfInBounds i true).getD k false = true → ops[k]? = some o → ∀ e ∈ o.after, Region.binds .any e = true → (listed.setIfInBounds i true).getD e.on false = true := by
  have grow : ∀ j, listed.getD j false = true → (listed.setIfInBounds i true).getD j false = true := fun j hj => by
    by_cases e : i = j
    · subst e; rw [Array.getD_eq_getD_getElem?, Array.getElem?_setIfInBounds_self_of_lt (by omega)]; rfl
    · rw [getD_set_ne false e]; exact hj
  intro k o' hk ho' e he hb
  by_cases h : i = k
  · subst h
    rw [ho] at ho'
    cases ho'
    exact grow _ (hall e he hb)
  · rw [getD_set_ne false h] at hk
    exact grow _ (hinv k o' hk ho' e he hb)
theorem simS {P : Program} {ops ops' : Array Oper} {C : World → Prop} {Q : Exit → Act → World → Prop} {n : Nat} {os os' : Oper} {QF : Act → Prop}
    (hn : ops.size = n + 1) (hs : ops.size = ops'.size) (haf : ∀ i : Nat, (ops[i]?).map (fun o : Oper => o.after) = (ops'[i]?).map (fun o : Oper => o.after)) (hdd : ∀ i : Nat, (ops[i]?).bind (fun o : Oper => o.dst) = (ops'[i]?).bind (fun o : Oper => o.dst)) (hback : backB ops = true)
    (hsame : ∀ i : Nat, i < n → ops[i]? = ops'[i]?) (hst : ops[n]? = some os) (hst' : ops'[n]? = some os') (hds : os'.dst = none) (hgs : os.guard = none)
    (hdep : ∀ j, j < n → ∃ e ∈ os.after, Region.binds .any e = true ∧ (e.on = j ∨ ∃ o', ops[e.on]? = some o' ∧ ∃ e' ∈ o'.after, Region.binds .any e' = true ∧ e'.on = j))
    (hstore : ∀ a w, QF a → C w → wpList P ops Q [os] a w) :
    ∀ (fuel : Nat) (listed : Array Bool) (a : Act) (w : World), listed.size = ops.size → C w → listed.getD n true = false → (∀ k o, listed.getD k false = true → ops[k]? = some o → ∀ e ∈ o.after, Region.binds .any e = true → listed.getD e.on false = true) →
      wpAnyQ P .any ops' C QF fuel listed a → wpAny P .any ops Q fuel listed a w := by
  intro fuel
  have nilF : ∀ listed : Array Bool, listed.size = ops.size → listed.getD n true = false → Region.ready .any ops listed = [] → False := fun listed h1 h2 h3 => by
    have := ready_nil hback h1 h3 n (by omega)
    rw [this] at h2
    cases h2
  induction fuel with
  | zero =>
    intro listed a w hsz _ hun _ H
    exact absurd ((ready_congr hs haf listed).trans H.1) (nilF listed hsz hun)
  | succ fuel ih =>
    intro listed a w hsz hC hun hinv H
    refine ⟨fun hr => absurd hr (nilF listed hsz hun), fun i hi => ?_⟩
    have hi' : i ∈ Region.ready .any ops' listed := by rw [← ready_congr hs haf listed]; exact hi
    have HQ := H.2 i hi'
    obtain ⟨hil, o, ho, hall⟩ := mem_ready.1 hi
    have hilt : i < ops.size := by
      rcases Nat.lt_or_ge i ops.size with h' | h'
      · exact h'
      · rw [Array.getElem?_eq_none h'] at ho; cases ho
    by_cases hin : i < n
    · have ho' : ops'[i]? = some o := (hsame i hin).symm.trans ho
      have := wpOp_of_qOp (Q' := Q) (K' := wpAny P .any ops Q fuel (listed.setIfInBounds i true)) hC (fun a' w' hw' hk => ih _ _ _ (by simpa using hsz) hw' (by rw [getD_set_ne true (by omega)]; exact hun) (inv_step hinv ho hall hilt hsz) hk) HQ
      unfold wpOp at this ⊢
      rw [ho'] at this
      rw [ho]
      dsimp only at this ⊢
      rw [yielded_congr hdd]
      exact this
    · obtain rfl : i = n := by omega
      have hoo : o = os := Option.some.inj (ho.symm.trans hst)
      subst hoo
      obtain ⟨u, hy, hK⟩ := yieldsIn_of_qOp hst' HQ
      rw [hds] at hK
      have hput : a.put none u = a := rfl
      rw [hput] at hK
      have all : ∀ j, j < i → listed.getD j false = true := fun j hj => by
        obtain ⟨e, he, hb, h⟩ := hdep j hj
        rcases h with rfl | ⟨o', ho', e', he', hb', rfl⟩
        · exact hall e he hb
        · exact hinv e.on o' (hall e he hb) ho' e' he' hb'
      have rn : Region.ready .any ops (listed.setIfInBounds i true) = [] := by
        cases hr : Region.ready .any ops (listed.setIfInBounds i true) with
        | nil => rfl
        | cons x r =>
          exfalso
          have hx : x ∈ Region.ready .any ops (listed.setIfInBounds i true) := by rw [hr]; exact List.mem_cons_self
          obtain ⟨hx1, o', ho', _⟩ := mem_ready.1 hx
          have hxl : x < ops.size := by
            rcases Nat.lt_or_ge x ops.size with h' | h'
            · exact h'
            · rw [Array.getElem?_eq_none h'] at ho'; cases ho'
          by_cases hxn : x = i
          · subst hxn
            rw [Array.getD_eq_getD_getElem?, Array.getElem?_setIfInBounds_self_of_lt (by omega)] at hx1
            cases hx1
          · rw [getD_set_ne true (by omega)] at hx1
            have := all x (by omega)
            rw [Array.getD_eq_getD_getElem?, Array.getElem?_eq_getElem (by omega)] at this hx1
            simp at this hx1
            rw [this] at hx1
            cases hx1
      have haa : QF a := by
        have rn' := (ready_congr hs haf _).symm.trans rn
        cases fuel with
        | zero => exact hK.2
        | succ m => exact hK.1 rn'
      have hst2 := hstore a w haa hC
      have hwo : ∀ X : Array Oper, Region.wanted o (yielded X a.tmps) = true := fun X => by simp [Region.wanted, hgs]
      unfold wpOp
      simp only [ho, hwo, if_true]
      rw [wpList, if_pos (hwo _)] at hst2
      rcases hst2 with h1 | h1
      · refine .inl (Oper.wp_mono (fun a' w' hq => ?_) h1)
        cases fuel with
        | zero => exact ⟨rn, hq⟩
        | succ m => exact ⟨fun _ => hq, fun j hj => by rw [rn] at hj; cases hj⟩
      · exact .inr h1
def noOp (o : Oper) : Oper := { o with op := .assign (.const undef) }
def lastNo (l : List Oper) (os : Oper) : List Oper := l.dropLast ++ [noOp os]
def depS (ops : Array Oper) (n : Nat) (os : Oper) : Bool := (List.range n).all fun j => os.after.any fun e => Region.binds .any e && (e.on == j || ((ops[e.on]?).map fun o' => o'.after.any fun e' => Region.binds .any e' && e'.on == j).getD false)
/-- The law, for a region whose operations are written out; worlds are those that grow out of w. -/
theorem region_store {P : Program} {id : Nat} {Q : Exit → Act → World → Prop} {a : Act} {w : World} {l : List Oper} {os : Oper} (hos : l.getLast? = some os)
    (hm : P.follows .mixedOrders = true) (hB : Region.lexB .any (lastNo l os).toArray = true) (hback : backB l.toArray = true) (hdB : depS l.toArray l.dropLast.length os = true) (hds : os.dst = none) (hgs : os.guard = none)
    (h : wpQuiet P (lastNo l os).toArray (fun x => ∃ q : Out w, x = q.y) (fun a' => ∀ w', (∃ q : Out w, w' = q.y) → wpList P l.toArray Q [os] a' w') (lastNo l os) a) : (Code.region id l.toArray true).wp P Q a w := by
  have hl : l.dropLast ++ [os] = l := by obtain ⟨ys, rfl⟩ := List.getLast?_eq_some_iff.1 hos; rw [List.dropLast_concat]
  have hlen : l.length = l.dropLast.length + 1 := by have := congrArg List.length hl; simpa using this.symm
  have hsz : l.toArray.size = l.dropLast.length + 1 := by simpa using hlen
  have hsz' : (lastNo l os).toArray.size = l.dropLast.length + 1 := by simp [lastNo]
  have gl : ∀ i : Nat, i < l.dropLast.length → l.toArray[i]? = l.dropLast[i]? := fun i hi => by
    rw [List.getElem?_toArray]
    conv => lhs; rw [← hl]
    rw [List.getElem?_append_left hi]
  have gl' : ∀ i : Nat, i < l.dropLast.length → (lastNo l os).toArray[i]? = l.dropLast[i]? := fun i hi => by rw [List.getElem?_toArray, lastNo, List.getElem?_append_left hi]
  have gs : l.toArray[l.dropLast.length]? = some os := by
    rw [List.getElem?_toArray]
    conv => lhs; rw [← hl]
    rw [List.getElem?_append_right (by simp)]
    simp
  have gs' : (lastNo l os).toArray[l.dropLast.length]? = some (noOp os) := by rw [List.getElem?_toArray, lastNo, List.getElem?_append_right (Nat.le_refl _)]; simp
  have hB' := hB
  simp only [Region.lexB, Bool.and_eq_true] at hB'
  have hq := wpAnyQ_lex (C := fun x => ∃ q : Out w, x = q.y) (md := .any) hB'.1 (lastNo l os) 0 (Array.replicate (lastNo l os).toArray.size false) a (by simp) (by simpa using hB'.2) h
  refine wp_region_any hm ?_
  have hll : (lastNo l os).length = l.dropLast.length + 1 := by simpa using hsz'
  rw [hsz', hll] at hq
  rw [hsz]
  refine simS (C := fun x => ∃ q : Out w, x = q.y) (n := l.dropLast.length) (os := os) (os' := noOp os) hsz (by rw [hsz, hsz']) (fun i => ?_) (fun i => ?_) hback (fun i hi => (gl i hi).trans (gl' i hi).symm) gs gs' hds hgs (fun j hj => ?_) (fun a w0 hq hw0 => hq w0 hw0) (l.dropLast.length + 1) _ a _ (by rw [Array.size_replicate, hsz]) ⟨⟨_, (Below.refl _ _).drew⟩, rfl⟩ (by simp) (fun k o h => by
    exfalso
    rw [Array.getD_eq_getD_getElem?, Array.getElem?_replicate] at h
    split at h <;> cases h) hq
  · by_cases hi : i < l.dropLast.length
    · rw [gl i hi, gl' i hi]
    · by_cases h1 : i = l.dropLast.length
      · subst h1; rw [gs, gs']; rfl
      · rw [Array.getElem?_eq_none (by omega), Array.getElem?_eq_none (by omega)]
  · by_cases hi : i < l.dropLast.length
    · rw [gl i hi, gl' i hi]
    · by_cases h1 : i = l.dropLast.length
      · subst h1; rw [gs, gs']; rfl
      · rw [Array.getElem?_eq_none (by omega), Array.getElem?_eq_none (by omega)]
  · have := List.all_eq_true.1 hdB j (List.mem_range.2 hj)
    obtain ⟨e, he, hh⟩ := Array.any_eq_true'.1 this
    simp only [Bool.and_eq_true, Bool.or_eq_true, beq_iff_eq] at hh
    refine ⟨e, he, hh.1, hh.2.imp (fun q => q) fun h2 => ?_⟩
    cases ho : l.toArray[e.on]? with
    | none => rw [ho] at h2; simp at h2
    | some o' =>
      rw [ho] at h2
      simp only [Option.map_some, Option.getD_some] at h2
      obtain ⟨e', he', h3⟩ := Array.any_eq_true'.1 h2
      simp only [Bool.and_eq_true, beq_iff_eq] at h3
      exact ⟨o', rfl, e', he', h3.1, h3.2⟩

end Go.Proofs.Ythnggpjgajkaeaa
