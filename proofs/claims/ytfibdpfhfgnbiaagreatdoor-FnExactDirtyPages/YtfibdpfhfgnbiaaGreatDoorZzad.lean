/-
  Numbers as bytes, the higher ones first: the specification's own.
-/
import Derived.Test.YtfibdpfhfgnbiaaGreatDoorZzab
import Derived.WalkKit
import Derived.WalkSpells
import Derived.WalkLawsBesides
import Derived.Deep.QuietTactic
import Derived.BigQuiet
import Derived.Deep.Quiet
import Derived.Tactics
import Derived.Deep.AppendLies
namespace Go.Proofs.YtfibdpfhfgnbiaaGreatDoor
open Go Go.RowKit
attribute [local go_sem ↓] Go.wp_at_zero Go.wp_at_succ

theorem infoI : (Tryz.prog.info? 3).map (fun i => (i.zero, i.size, i.bytes)) = some (some (Value.int .i64 0), 1, 8) := by kernel_rfl
set_option maxRecDepth 100000 in
set_option maxHeartbeats 1000000 in
theorem c_toI (a : Option Addr) (n cap : Nat) (ss : List (Int)) (w : World) (hr : RdV w a n (ss.map (Value.int .i64))) (hn : n ≤ 1048576) :
    Calls Tryz.prog 25 #[.slice a n cap] w fun e w' => e = .returned (.slice (some ⟨w.heap.size, 0, none⟩) n n) ∧ w'.ownsRow w.heap.size 3 1 (.slice (some ⟨w.heap.size, 0, none⟩) n n) n (ss.map (Value.int .i64)) ∧ Below w.heap.size w w' := by
  obtain ⟨hl, hcs⟩ := hr
  obtain ⟨i0, hi, hz0, hz1, hz2⟩ := info_parts infoI
  go_enter Tryz.func25, Tryz.ntmps25
  go_wp2_with (at_make; refine wpList_make_full _ rfl (.tmp 6) (.tmp 6) 24 rfl w.heap.size 3 i0 (Value.int .i64 0) 1 Tryz.underlying24 hi hz0 hz1 .i64 .i64 _ _ n rfl rfl rfl rfl (by rw [hz2]; omega) (by unfold maxLen; omega) (Nat.le_refl _) ?_; intro w1 hown hgrow)
  go_loopw [4] (fun i wr => ∃ k : Nat, k ≤ n ∧ i = .int .i64 k ∧ wr.ownsRow w.heap.size 3 1 (.slice (some ⟨w.heap.size, 0, none⟩) n n) n (partV (Value.int .i64 0) (ss.map (Value.int .i64)) n k) ∧ Below w.heap.size w wr) (fun i _ => n - (intOf i).toNat)
  case atStart => exact ⟨0, by omega, rfl, by rw [← partV_zero (Value.int .i64 0) rfl (ss.map (Value.int .i64)) n]; exact hown, (Below.refl _ _).grown hgrow (Nat.le_refl _) (fun k h => by cases h)⟩
  case round =>
    obtain ⟨k, hk, rfl, hown, hb⟩ := hrel
    by_cases hlt : k < n
    · obtain ⟨b, off, rfl, hbl, hc⟩ := hcs (by omega)
      obtain ⟨x, hx⟩ : ∃ x, x = ss.getD k (0) := ⟨_, rfl⟩
      have hg : (ss.map (Value.int .i64))[k]? = some ((Value.int .i64) x) := by rw [hx]; exact map_get _ _ _ _ (by simpa using (show k < (ss.map (Value.int .i64)).length by omega))
      have hck : wr.cell? ⟨b, off + k, none⟩ = some ((Value.int .i64) x) := by rw [hb.cell (p := ⟨b, off + k, none⟩) hbl, hc k hlt, hg]
      obtain ⟨old, hold⟩ : ∃ old, wr.cell? ⟨w.heap.size, k, none⟩ = some old := by
        rw [hown.cellAt k (by omega)]
        exact ⟨_, List.getElem?_eq_getElem (by rw [hown.1]; omega)⟩
      have hfz := hown.frozenAt k
      have hown2 := (hown.stored k ((Value.int .i64) x)).1
      rw [partV_step _ _ n k _ hl hlt hg] at hown2
      have HO : Hid (_) := hown2
      clear hown2 hc hcs hgrow hx hg
      go_wp2
      go_roundw
      case rel => exact ⟨k + 1, by omega, by go_num, HO.out, hb.setCell (Nat.le_refl _) _⟩
      case measure => simp [intOf]; omega
    · have e : k = n := by omega
      subst e
      rw [partV_full _ _ k hl] at hown
      go_wp2
      go_ret
      exact ⟨rfl, hown, hb⟩
def sameToI (zs zs' : List (Int)) (k : Nat) : Prop := ∀ j, j < k → zs.getD j (0) = zs'.getD j (0)
theorem same_allI {zs zs' : List (Int)} (hl : zs.length = zs'.length) (h : sameToI zs zs' zs.length) : zs = zs' := by
  apply List.ext_getElem hl
  intro i h1 h2
  have := h i h1
  rwa [List.getD_eq_getElem?_getD, List.getElem?_eq_getElem h1, List.getD_eq_getElem?_getD, List.getElem?_eq_getElem h2] at this
set_option maxRecDepth 100000 in
set_option maxHeartbeats 1000000 in
theorem c_eqI (a a' : Option Addr) (n cap n' cap' : Nat) (zs zs' : List (Int)) (w : World) (hr : RdV w a n (zs.map (Value.int .i64))) (hr' : RdV w a' n' (zs'.map (Value.int .i64))) (hn : n ≤ 1048576) (hn' : n' ≤ 1048576) :
    Calls Tryz.prog 27 #[.slice a n cap, .slice a' n' cap'] w fun e w' => e = .returned (.bool (decide (zs = zs'))) ∧ ∃ q, w' = w.drewN q := by
  obtain ⟨hl, hcs⟩ := hr
  obtain ⟨hl', hcs'⟩ := hr'
  simp only [List.length_map] at hl hl'
  by_cases hnn : n = n'
  · subst hnn
    have hll : zs.length = zs'.length := by omega
    go_enter Tryz.func27, Tryz.ntmps27
    go_wp2
    go_loopw [5] (fun i wr => ∃ k : Nat, k ≤ n ∧ i = .int .i64 k ∧ Hid (sameToI zs zs' k) ∧ ∃ q, wr = w.drewN q) (fun i _ => n - (intOf i).toNat)
    case atStart => exact ⟨0, by omega, rfl, fun j h => absurd h (by omega), 0, rfl⟩
    case round =>
      obtain ⟨k, hk, rfl, HS, q, rfl⟩ := hrel
      by_cases hlt : k < n
      · obtain ⟨b, off, rfl, _, hc⟩ := hcs (by omega)
        obtain ⟨b', off', rfl, _, hc'⟩ := hcs' (by omega)
        obtain ⟨z, hz⟩ : ∃ z, z = zs.getD k (0) := ⟨_, rfl⟩
        obtain ⟨z', hz'⟩ : ∃ z, z = zs'.getD k (0) := ⟨_, rfl⟩
        have hck : w.cell? ⟨b, off + k, none⟩ = some ((Value.int .i64) z) := by rw [hz, hc k hlt]; exact map_get _ _ _ _ (by omega)
        have hck' : w.cell? ⟨b', off' + k, none⟩ = some ((Value.int .i64) z') := by rw [hz', hc' k hlt]; exact map_get _ _ _ _ (by omega)
        have g1 : (0 : Int) ≤ (k : Int) := by omega
        have g2 : (k : Int) < (n : Int) := by omega
        have HZ : Hid (z = zs.getD k (0)) := hz
        have HZ' : Hid (z' = zs'.getD k (0)) := hz'
        clear hc hc' hcs hcs' hz hz'
        by_cases he : z = z'
        · have HE : Hid (z = z') := he
          have he1 : (z != z') = false := by simp [he]
          clear he
          go_wp2_with fail
          go_quiet (fail)
          go_wp2
          go_roundw
          case rel => exact ⟨k + 1, by omega, by go_num, fun j hj => if e : j = k then by rw [e, ← HZ.out, ← HZ'.out]; exact HE.out else HS.out j (by omega), _, rfl⟩
          case measure => simp [intOf]; omega
        · have HE : Hid (¬ z = z') := he
          have he1 : (z != z') = true := by simpa using he
          clear he
          go_wp2_with fail
          go_quiet (fail)
          go_wp2
          go_ret
          exact ⟨ret_bool (decide_eq_false fun e => HE.out (by rw [HZ.out, HZ'.out, e])).symm, _, World.drewN_drewN _ _ _⟩
      · have e : k = n := by omega
        subst e
        go_wp2
        go_ret
        exact ⟨ret_bool (decide_eq_true (same_allI hll (by rw [hl]; exact HS.out))).symm, q, rfl⟩
  · have hne : ((n : Int) != (n' : Int)) = true := by simp; omega
    go_enter Tryz.func27, Tryz.ntmps27
    go_wp2
    go_ret
    exact ⟨ret_bool (decide_eq_false fun e => hnn (by rw [← hl, ← hl', e])).symm, 0, rfl⟩

end Go.Proofs.YtfibdpfhfgnbiaaGreatDoor
namespace Go.Proofs.YtfibdpfhfgnbiaaGreatDoor
open Go

def plainOp (o : Oper) : Bool := match o.op with
  | .move _ => true
  | .assign _ => true
  | .build _ _ => true
  | .load _ _ => true
  | .fieldAddr _ _ _ => true
  | .indexAddr _ _ _ => true
  | .index _ _ _ => true
  | .convert _ _ _ => true
  | _ => false
theorem no_enter {P : Program} {ρ : Operand → Value} {o : Oper} {w w' : World} {f : FuncId} {args : Array Value} (h : plainOp o = true) : (execOp ρ o).run P w ≠ .ok (.enter f args) w' := by
  unfold plainOp at h
  unfold execOp
  cases ho : o.op <;> rw [ho] at h <;> simp only [Bool.false_eq_true] at h <;> simp only [Sem.run_bind, Sem.run_pure]
  all_goals first
    | (intro e; cases e; done)
    | (generalize (Sem.run _ _ _) = r; cases r <;> simp [Result.andThen])
def backB (ops : Array Oper) : Bool := (List.range ops.size).all fun i => ((ops[i]?).map fun o => o.after.all fun e => !Region.binds .any e || decide (e.on < i)).getD true
theorem back_of {ops : Array Oper} (h : backB ops = true) {i : Nat} {o : Oper} (hi : ops[i]? = some o) {e : Edge} (he : e ∈ o.after) (hb : Region.binds .any e = true) : e.on < i := by
  unfold backB at h
  have hlt : i < ops.size := by
    rcases Nat.lt_or_ge i ops.size with h' | h'
    · exact h'
    · rw [Array.getElem?_eq_none h'] at hi; cases hi
  have := List.all_eq_true.1 h i (List.mem_range.2 hlt)
  rw [hi] at this
  simp only [Option.map_some, Option.getD_some] at this
  have h2 := (Array.all_eq_true'.1 this) e he
  rw [hb] at h2
  simpa using h2
theorem ready_nil {ops : Array Oper} {listed : Array Bool} (h : backB ops = true) (hs : listed.size = ops.size) (hr : Region.ready .any ops listed = []) : ∀ i, i < ops.size → listed.getD i true = true := by
  intro i
  induction i using Nat.strongRecOn with
  | ind i ih =>
    intro hi
    cases hl : listed.getD i true with
    | true => rfl
    | false =>
      exfalso
      obtain ⟨o, ho⟩ : ∃ o, ops[i]? = some o := ⟨_, Array.getElem?_eq_getElem hi⟩
      have : i ∈ Region.ready .any ops listed := mem_ready.2 ⟨hl, o, ho, fun e he hb => by
        have hlt := back_of h ho he hb
        have := ih e.on hlt (by omega)
        rw [Array.getD_eq_getD_getElem?, Array.getElem?_eq_getElem (by omega)] at this ⊢
        simpa using this⟩
      rw [hr] at this
      cases this
theorem ready_congr {ops ops' : Array Oper} (hs : ops.size = ops'.size) (h : ∀ i : Nat, (ops[i]?).map (fun o : Oper => o.after) = (ops'[i]?).map (fun o : Oper => o.after)) (listed : Array Bool) : Region.ready .any ops listed = Region.ready .any ops' listed := by
  unfold Region.ready
  rw [hs]
  apply List.filter_congr
  intro i _
  have := congrArg (Option.map fun a : Array Edge => a.all fun e => !Region.binds .any e || listed.getD e.on false) (h i)
  simp only [Option.map_map, Function.comp_def] at this
  rw [this]
/-- The simulation: what serves the operations with a constant in the alloc's place and nothing in the store's place serves these. -/
theorem sim {P : Program} {ops ops' : Array Oper} {C C0 C1 : World → Prop} {Q : Exit → Act → World → Prop} {n : Nat} {oa os oa' os' : Oper} {v : Value} {QF : Act → Prop}
    (hn : ops.size = n + 2) (hs : ops.size = ops'.size) (haf : ∀ i : Nat, (ops[i]?).map (fun o : Oper => o.after) = (ops'[i]?).map (fun o : Oper => o.after)) (hback : backB ops = true)
    (hsame : ∀ i : Nat, i < n → ops[i]? = ops'[i]?) (hg : ∀ (i : Nat) (o : Oper), ops[i]? = some o → o.guard = none) (hpl : ∀ (i : Nat) (o : Oper), i < n → ops[i]? = some o → plainOp o = true)
    (ha : ops[n]? = some oa) (ha' : ops'[n]? = some oa') (hda : oa'.dst = oa.dst) (hga : oa'.guard = none) (hop : oa'.op = .assign (.const v))
    (hst : ops[n + 1]? = some os) (hst' : ops'[n + 1]? = some os') (hds : os'.dst = none)
    (hdep : ∀ j, j < n + 1 → ∃ e ∈ os.after, Region.binds .any e = true ∧ e.on = j)
    (halloc : ∀ (a : Act) (w : World) (K : Act → World → Prop), C0 w → (∀ w', C1 w' → K (a.put oa.dst v) w') → oa.wp P a w K Q)
    (hstore : ∀ a w, QF a → C1 w → os.wp P a w (fun a' w' => Q .normal a' w') Q) (hne : ∃ w, C0 w) (hC0 : ∀ w, C0 w → C w) (hC1 : ∀ w, C1 w → C w) :
    ∀ (fuel : Nat) (listed : Array Bool) (a : Act) (w : World), listed.size = ops.size → (listed.getD n true = false → C0 w) → (listed.getD n true = true → C1 w) → listed.getD (n + 1) true = false →
      wpAnyQ P .any ops' C QF fuel listed a → wpAny P .any ops Q fuel listed a w := by
  intro fuel
  have nilF : ∀ listed : Array Bool, listed.size = ops.size → listed.getD (n + 1) true = false → Region.ready .any ops listed = [] → False := fun listed h1 h2 h3 => by
    have := ready_nil hback h1 h3 (n + 1) (by omega)
    rw [this] at h2
    cases h2
  have wan : ∀ (X : Array Oper) (a : Act) (o : Oper), o.guard = none → Region.wanted o (yielded X a.tmps) = true := fun X a o h => by simp [Region.wanted, h]
  induction fuel with
  | zero =>
    intro listed a w hsz _ _ hun H
    exact absurd ((ready_congr hs haf listed).trans H.1) (nilF listed hsz hun)
  | succ fuel ih =>
    intro listed a w hsz h0 h1 hun H
    refine ⟨fun hr => absurd hr (nilF listed hsz hun), fun i hi => ?_⟩
    have hi' : i ∈ Region.ready .any ops' listed := by rw [← ready_congr hs haf listed]; exact hi
    have HQ := H.2 i hi'
    obtain ⟨hil, o, ho, hall⟩ := mem_ready.1 hi
    have hilt : i < ops.size := by
      rcases Nat.lt_or_ge i ops.size with h' | h'
      · exact h'
      · rw [Array.getElem?_eq_none h'] at ho; cases ho
    have hwo := wan ops a o (hg i o ho)
    unfold wpOp
    simp only [ho, hwo, if_true]
    refine .inl ?_
    by_cases hin : i < n
    · have ho' : ops'[i]? = some o := (hsame i hin).symm.trans ho
      obtain ⟨u, hy, hK⟩ := yieldsIn_of_qOp ho' HQ
      have hCw : C w := by
        cases hl : listed.getD n true with
        | true => exact hC1 w (h1 hl)
        | false => exact hC0 w (h0 hl)
      have hq : o.quietAt P a C w u := by
        rcases hy with ⟨_, hv⟩ | ⟨hf, _⟩
        · exact hv w hCw
        · rw [wan ops' a o (hg i o ho)] at hf; cases hf
      have next : wpAny P .any ops Q fuel (listed.setIfInBounds i true) (a.put o.dst u) w :=
        ih _ _ _ (by simpa using hsz) (fun h => h0 (by rwa [getD_set_ne true (by omega)] at h)) (fun h => h1 (by rwa [getD_set_ne true (by omega)] at h)) (by rw [getD_set_ne true (by omega)]; exact hun) hK
      have hno := fun f args w' => no_enter (P := P) (ρ := a.eval) (o := o) (w := w) (w' := w') (f := f) (args := args) (hpl i o hin ho)
      unfold Oper.quietAt at hq
      unfold Oper.wp
      generalize (execOp a.eval o).run P w = r at hq hno
      cases r with
      | ok x w' =>
        cases x <;> simp only [Oper.quietUpon] at hq <;> simp only [Oper.upon]
        case value y => rw [hq.1, hq.2]; exact next
        case skip => rw [hq.1, ← hq.2]; exact next
        case enter f args => exact absurd rfl (hno f args w')
      | halt x w' => simp only [Oper.quietUpon] at hq
    · by_cases hia : i = n
      · subst hia
        have hoo : o = oa := Option.some.inj (ho.symm.trans ha)
        subst hoo
        obtain ⟨u, hy, hK⟩ := yieldsIn_of_qOp ha' HQ
        have hu : u = v := by
          obtain ⟨w0, hw0⟩ := hne
          rcases hy with ⟨_, hv⟩ | ⟨hf, _⟩
          · have := hv w0 (hC0 w0 hw0)
            unfold Oper.quietAt execOp at this
            rw [hop] at this
            simp only [Sem.run_pure, Oper.quietUpon, Act.eval] at this
            exact this.2.symm
          · rw [wan ops' a oa' hga] at hf; cases hf
        subst hu
        rw [hda] at hK
        refine halloc a w _ (h0 hil) fun w' hw' => ih _ _ _ (by simpa using hsz) (fun h => ?_) (fun _ => hw') (by rw [getD_set_ne true (by omega)]; exact hun) hK
        rw [Array.getD_eq_getD_getElem?, Array.getElem?_setIfInBounds_self_of_lt (by omega)] at h
        cases h
      · obtain rfl : i = n + 1 := by omega
        have hoo : o = os := Option.some.inj (ho.symm.trans hst)
        subst hoo
        obtain ⟨u, hy, hK⟩ := yieldsIn_of_qOp hst' HQ
        rw [hds] at hK
        have hput : a.put none u = a := rfl
        rw [hput] at hK
        have all : ∀ j, j < n + 1 → listed.getD j false = true := fun j hj => by
          obtain ⟨e, he, hb, rfl⟩ := hdep j hj
          exact hall e he hb
        have rn : Region.ready .any ops (listed.setIfInBounds (n + 1) true) = [] := by
          cases hr : Region.ready .any ops (listed.setIfInBounds (n + 1) true) with
          | nil => rfl
          | cons x r =>
            exfalso
            have hx : x ∈ Region.ready .any ops (listed.setIfInBounds (n + 1) true) := by rw [hr]; exact List.mem_cons_self
            obtain ⟨hx1, o', ho', _⟩ := mem_ready.1 hx
            have hxl : x < ops.size := by
              rcases Nat.lt_or_ge x ops.size with h' | h'
              · exact h'
              · rw [Array.getElem?_eq_none h'] at ho'; cases ho'
            by_cases hxn : x = n + 1
            · subst hxn
              rw [Array.getD_eq_getD_getElem?, Array.getElem?_setIfInBounds_self_of_lt (by omega)] at hx1
              cases hx1
            · rw [getD_set_ne true (by omega)] at hx1
              have := all x (by omega)
              rw [Array.getD_eq_getD_getElem?, Array.getElem?_eq_getElem (by omega)] at this hx1
              simp at this hx1
              rw [this] at hx1
              cases hx1
        have hC1 : C1 w := h1 (by
          have := all n (by omega)
          rw [Array.getD_eq_getD_getElem?, Array.getElem?_eq_getElem (by omega)] at this ⊢
          simpa using this)
        have haa : QF a := by
          have rn' := (ready_congr hs haf _).symm.trans rn
          cases fuel with
          | zero => exact hK.2
          | succ m => exact hK.1 rn'
        refine Oper.wp_mono (fun a' w' hq => ?_) (hstore a w haa hC1)
        cases fuel with
        | zero => exact ⟨rn, hq⟩
        | succ m => exact ⟨fun _ => hq, fun j hj => by rw [rn] at hj; cases hj⟩
def depB (n : Nat) (os : Oper) : Bool := (List.range (n + 1)).all fun j => os.after.any fun e => Region.binds .any e && e.on == j
/-- The law, for a region whose operations are written out. -/
theorem region_alloc {P : Program} {id : Nat} {Q : Exit → Act → World → Prop} {a : Act} {w : World} {l : List Oper} (l' : List Oper) (n : Nat) (oa os : Oper) (v : Value) (X : Nat → World) (C1 : World → Prop)
    (hm : P.follows .mixedOrders = true) (hB : Region.lexB .any l'.toArray = true) (hback : backB l.toArray = true)
    (hl : l = l'.take n ++ [oa, os]) (hl' : l' = l'.take n ++ [{ oa with op := .assign (.const v) }, { os with op := .assign (.const undef) }]) (hlen : (l'.take n).length = n)
    (hgB : (l.all fun o => o.guard.isNone) = true) (hpB : ((l'.take n).all plainOp) = true) (hdB : depB n os = true) (hds : os.dst = none)
    (hX0 : ∀ k, ∃ j, w.drewN k = X j) (hX1 : ∀ w', C1 w' → ∃ j, w' = X j)
    (h : wpQuiet P l'.toArray (fun x => ∃ j, x = X j) (fun a' => ∀ w', C1 w' → os.wp P a' w' (fun a'' w'' => Q .normal a'' w'') Q) l' a)
    (halloc : ∀ (a : Act) (k : Nat) (K : Act → World → Prop), (∀ w', C1 w' → K (a.put oa.dst v) w') → oa.wp P a (w.drewN k) K Q) : (Code.region id l.toArray true).wp P Q a w := by
  have hsz : l.toArray.size = n + 2 := by rw [hl]; simp [hlen]
  have hsz' : l'.toArray.size = n + 2 := by rw [hl']; simp [hlen]
  have gl : ∀ i : Nat, i < n → l.toArray[i]? = (l'.take n)[i]? := fun i hi => by rw [hl]; simp [List.getElem?_append_left (show i < (l'.take n).length by omega)]
  have gl' : ∀ i : Nat, i < n → l'.toArray[i]? = (l'.take n)[i]? := fun i hi => by rw [List.getElem?_toArray, List.getElem?_take_of_lt hi]
  have ga : l.toArray[n]? = some oa := by rw [hl, List.getElem?_toArray, List.getElem?_append_right (by omega)]; simp [hlen]
  have gs : l.toArray[n + 1]? = some os := by rw [hl, List.getElem?_toArray, List.getElem?_append_right (by omega)]; simp [hlen]
  have ga' : l'.toArray[n]? = some { oa with op := .assign (.const v) } := by rw [hl', List.getElem?_toArray, List.getElem?_append_right (by omega)]; simp [hlen]
  have gs' : l'.toArray[n + 1]? = some { os with op := .assign (.const undef) } := by rw [hl', List.getElem?_toArray, List.getElem?_append_right (by omega)]; simp [hlen]
  have hB' := hB
  simp only [Region.lexB, Bool.and_eq_true] at hB'
  have hq := wpAnyQ_lex (C := fun x => ∃ j, x = X j) (md := .any) hB'.1 l' 0 (Array.replicate l'.toArray.size false) a (by simp) (by simpa using hB'.2) h
  refine wp_region_any hm ?_
  rw [hsz]
  have hll : l'.length = n + 2 := by simpa using hsz'
  rw [hsz', hll] at hq
  refine sim (C := fun x => ∃ j, x = X j) (C0 := fun w' => ∃ k, w' = w.drewN k) (C1 := C1) (n := n) (oa := oa) (os := os) (v := v) hsz (by rw [hsz, hsz']) (fun i => ?_) hback (fun i hi => (gl i hi).trans (gl' i hi).symm) (fun i o ho => ?_) (fun i o hi ho => ?_) ga ga' rfl ?_ rfl gs gs' hds (fun j hj => ?_) (fun a w0 K hw0 hK => ?_) (fun a w0 hq hw0 => hq w0 hw0) ⟨w, 0, rfl⟩ (fun w0 hw0 => ?_) hX1 (n + 2) (Array.replicate (n + 2) false) a _ (by simp [hsz]) (fun _ => ⟨1, rfl⟩) (fun h => ?_) ?_ hq
  · by_cases hi : i < n
    · rw [gl i hi, gl' i hi]
    · by_cases h1 : i = n
      · subst h1; rw [ga, ga']; rfl
      · by_cases h2 : i = n + 1
        · subst h2; rw [gs, gs']; rfl
        · rw [Array.getElem?_eq_none (by omega), Array.getElem?_eq_none (by omega)]
  · have := List.all_eq_true.1 hgB o (by rw [List.getElem?_toArray] at ho; exact List.mem_of_getElem? ho)
    simpa using this
  · rw [gl i hi] at ho
    exact List.all_eq_true.1 hpB o (List.mem_of_getElem? ho)
  · have := List.all_eq_true.1 hgB oa (by rw [List.getElem?_toArray] at ga; exact List.mem_of_getElem? ga)
    simpa using this
  · have := List.all_eq_true.1 hdB j (List.mem_range.2 hj)
    obtain ⟨e, he, hh⟩ := Array.any_eq_true'.1 this
    simp only [Bool.and_eq_true, beq_iff_eq] at hh
    exact ⟨e, he, hh.1, hh.2⟩
  · obtain ⟨k, rfl⟩ := hw0
    exact halloc a k K hK
  · obtain ⟨k, rfl⟩ := hw0
    exact hX0 k
  · simp at h
  · simp
end Go.Proofs.YtfibdpfhfgnbiaaGreatDoor
namespace Go.Proofs.YtfibdpfhfgnbiaaGreatDoor
open Go Go.RowKit
attribute [local go_sem ↓] Go.wp_at_zero Go.wp_at_succ

def numZ (c : Int) : List Int := [c / 256, c % 256]
set_option maxRecDepth 100000 in
set_option maxHeartbeats 2000000 in
theorem c_num4 (u : Int) (w : World) (h0 : 0 ≤ u) (h1 : u < 4294967296) :
    Calls Tryz.prog 295 #[.int .i64 u, .int .i64 4] w fun e w' => ∃ g cap, e = .returned (.slice (some ⟨g, 0, none⟩) 4 cap) ∧ w'.ownsRow w.heap.size 5 1 (.slice (some ⟨g, 0, none⟩) 4 cap) 4 ((sumZ u).map (Value.int .u8)) ∧ Below w.heap.size w w' := by
  obtain ⟨i0, hi, hz0, hz1, hz2⟩ := info_parts infoB
  have hown0 : (w.alloc (.cells #[] 5)).ownsRow w.heap.size 5 1 (.slice (some ⟨w.heap.size, 0, none⟩) 0 0) 0 [] := World.ownsRow_lit w #[] 0 (Nat.le_refl _) (Nat.zero_le _) rfl
  go_enter Tryz.func295, Tryz.ntmps295
  go_wp2
  go_loopw [5, 6] (fun v i wr => ∃ j : Nat, j ≤ 4 ∧ i = .int .i64 (3 - (j : Int)) ∧ wr.ownsRow w.heap.size 5 1 v j (((sumZ u).take j).map (Value.int .u8)) ∧ (0 < j → ∃ g cap, v = .slice (some ⟨g, 0, none⟩) j cap) ∧ Below w.heap.size w wr) (fun _ i _ => (intOf i + 1).toNat)
  case atStart => exact ⟨0, by omega, rfl, hown0, fun h => absurd h (by omega), (Below.refl _ _).alloc (Nat.le_refl _) _⟩
  case round =>
    obtain ⟨j, hj, rfl, hown, hform, hb⟩ := hrel
    have hbs : w.heap.size ≤ wr.heap.size := hb.size
    clear hown0
    by_cases hlt : j < 4
    · obtain ⟨z, hz⟩ : ∃ z, (sumZ u).take (j + 1) = (sumZ u).take j ++ [z] ∧ z = (sumZ u).getD j 0 := by
        refine ⟨_, ?_, rfl⟩
        rw [List.take_succ_eq_append_getElem (by simp [sumZ]; omega), List.getD_eq_getElem?_getD, List.getElem?_eq_getElem (by simp [sumZ]; omega)]
        rfl
      have HZ : Hid ((sumZ u).take (j + 1) = (sumZ u).take j ++ [z]) := hz.1
      have hzv := hz.2
      clear hz
      obtain ⟨av, cv, hv⟩ : ∃ a cap, (_ : Value) = .slice a j cap := by
        rcases own_form hown with ⟨h, rfl⟩ | ⟨g, cap, h, _, _⟩
        · exact ⟨none, 0, h⟩
        · exact ⟨_, cap, h⟩
      subst hv
      clear hform
      rcases j with _ | _ | _ | _ | j
      all_goals try omega
      all_goals
        simp only [sumZ, List.getD_cons_zero, List.getD_cons_succ] at hzv
        subst hzv
        go_wp2_with (at_builtin; refine wpList_append_lies _ rfl (.tmp 14) (.tmp 21) 237 rfl w.heap.size 5 i0 (.int .u8 0) 1 1 Tryz.underlying237 hi hz0 hz1 hz2 rfl (by omega) _ _ _ rfl (hown.alloc _) ⟨wr.heap.size, 0, none⟩ 1 1 [_] rfl rfl (cell_one_new wr _ _) (by intro u hu; simp at hu; subst hu; rfl) (by omega) (by unfold maxLen; omega) (by omega) (by simp; omega) (wr.heap.size + 1) (by simp) ?_; intro g cp w1 hown1 hgr1 hat1 hlt1)
      all_goals
        have hb1 : Below w.heap.size w w1 := (hb.alloc hbs _).grown hgr1 (by simp; omega) (fun j hj => (hown.lt j hj).1)
        have hown2 := hown1
        rw [← List.map_singleton (f := Value.int IntKind.u8), ← List.map_append, ← HZ.out] at hown2
        clear hown1 hgr1 hat1 hlt1 hown
        go_roundw
        case rel => first | exact ⟨1, by omega, rfl, hown2, fun _ => ⟨g, cp, rfl⟩, hb1⟩ | exact ⟨2, by omega, rfl, hown2, fun _ => ⟨g, cp, rfl⟩, hb1⟩ | exact ⟨3, by omega, rfl, hown2, fun _ => ⟨g, cp, rfl⟩, hb1⟩ | exact ⟨4, by omega, rfl, hown2, fun _ => ⟨g, cp, rfl⟩, hb1⟩
        case measure => simp [intOf]
    · have e : j = 4 := by omega
      subst e
      obtain ⟨g, cap, rfl⟩ := hform (by omega)
      go_wp2
      go_ret
      exact ⟨g, cap, rfl, hown, hb⟩
set_option maxRecDepth 100000 in
set_option maxHeartbeats 2000000 in
theorem c_num2 (u : Int) (w : World) (h0 : 0 ≤ u) (h1 : u ≤ 1000) :
    Calls Tryz.prog 295 #[.int .i64 u, .int .i64 2] w fun e w' => ∃ g cap, e = .returned (.slice (some ⟨g, 0, none⟩) 2 cap) ∧ w'.ownsRow w.heap.size 5 1 (.slice (some ⟨g, 0, none⟩) 2 cap) 2 ((numZ u).map (Value.int .u8)) ∧ Below w.heap.size w w' := by
  obtain ⟨i0, hi, hz0, hz1, hz2⟩ := info_parts infoB
  have hown0 : (w.alloc (.cells #[] 5)).ownsRow w.heap.size 5 1 (.slice (some ⟨w.heap.size, 0, none⟩) 0 0) 0 [] := World.ownsRow_lit w #[] 0 (Nat.le_refl _) (Nat.zero_le _) rfl
  go_enter Tryz.func295, Tryz.ntmps295
  go_wp2
  go_loopw [5, 6] (fun v i wr => ∃ j : Nat, j ≤ 2 ∧ i = .int .i64 (1 - (j : Int)) ∧ wr.ownsRow w.heap.size 5 1 v j (((numZ u).take j).map (Value.int .u8)) ∧ (0 < j → ∃ g cap, v = .slice (some ⟨g, 0, none⟩) j cap) ∧ Below w.heap.size w wr) (fun _ i _ => (intOf i + 1).toNat)
  case atStart => exact ⟨0, by omega, rfl, hown0, fun h => absurd h (by omega), (Below.refl _ _).alloc (Nat.le_refl _) _⟩
  case round =>
    obtain ⟨j, hj, rfl, hown, hform, hb⟩ := hrel
    have hbs : w.heap.size ≤ wr.heap.size := hb.size
    clear hown0
    by_cases hlt : j < 2
    · obtain ⟨z, hz⟩ : ∃ z, (numZ u).take (j + 1) = (numZ u).take j ++ [z] ∧ z = (numZ u).getD j 0 := by
        refine ⟨_, ?_, rfl⟩
        rw [List.take_succ_eq_append_getElem (by simp [numZ]; omega), List.getD_eq_getElem?_getD, List.getElem?_eq_getElem (by simp [numZ]; omega)]
        rfl
      have HZ : Hid ((numZ u).take (j + 1) = (numZ u).take j ++ [z]) := hz.1
      have hzv := hz.2
      clear hz
      obtain ⟨av, cv, hv⟩ : ∃ a cap, (_ : Value) = .slice a j cap := by
        rcases own_form hown with ⟨h, rfl⟩ | ⟨g, cap, h, _, _⟩
        · exact ⟨none, 0, h⟩
        · exact ⟨_, cap, h⟩
      subst hv
      clear hform
      rcases j with _ | _ | j
      all_goals try omega
      all_goals
        simp only [numZ, List.getD_cons_zero, List.getD_cons_succ] at hzv
        subst hzv
        go_wp2_with (at_builtin; refine wpList_append_lies _ rfl (.tmp 14) (.tmp 21) 237 rfl w.heap.size 5 i0 (.int .u8 0) 1 1 Tryz.underlying237 hi hz0 hz1 hz2 rfl (by omega) _ _ _ rfl (hown.alloc _) ⟨wr.heap.size, 0, none⟩ 1 1 [_] rfl rfl (cell_one_new wr _ _) (by intro u hu; simp at hu; subst hu; rfl) (by omega) (by unfold maxLen; omega) (by omega) (by simp; omega) (wr.heap.size + 1) (by simp) ?_; intro g cp w1 hown1 hgr1 hat1 hlt1)
      all_goals
        have hb1 : Below w.heap.size w w1 := (hb.alloc hbs _).grown hgr1 (by simp; omega) (fun j hj => (hown.lt j hj).1)
        have hown2 := hown1
        rw [← List.map_singleton (f := Value.int IntKind.u8), ← List.map_append, ← HZ.out] at hown2
        clear hown1 hgr1 hat1 hlt1 hown
        go_roundw
        case rel => first | exact ⟨1, by omega, rfl, hown2, fun _ => ⟨g, cp, rfl⟩, hb1⟩ | exact ⟨2, by omega, rfl, hown2, fun _ => ⟨g, cp, rfl⟩, hb1⟩
        case measure => simp [intOf]
    · have e : j = 2 := by omega
      subst e
      obtain ⟨g, cap, rfl⟩ := hform (by omega)
      go_wp2
      go_ret
      exact ⟨g, cap, rfl, hown, hb⟩

end Go.Proofs.YtfibdpfhfgnbiaaGreatDoor
