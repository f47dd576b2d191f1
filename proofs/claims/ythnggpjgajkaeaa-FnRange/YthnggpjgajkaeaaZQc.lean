/-
  Marks of a tree are found again.
-/
import Derived.Test.YthnggpjgajkaeaaOb
import Derived.Test.YthnggpjgajkaeaaZQb
namespace Go.Proofs.Ythnggpjgajkaeaa
open Go Go.RowKit
attribute [local go_sem ↓] Go.wp_at_zero Go.wp_at_succ

/-- A copy with all that marks ask for. -/
structure TrO (w : World) (B x n : Nat) (bs : Nat → Nat) (vs gs : List TNode) : Prop where
  c : TrC w x n vs gs
  mks : MkT w B x n bs gs
theorem TrO.below {w w' : World} {B x n : Nat} {bs : Nat → Nat} {vs gs : List TNode} (h : TrO w B x n bs vs gs) (hb : Below w.heap.size w w') (hx : x < w.heap.size) (hE : bs n ≤ w.heap.size) : TrO w' B x n bs vs gs :=
  ⟨h.c.below hb, ⟨h.mks.row.same (hb.block x hx), fun i hi => (h.mks.lists i hi).same fun g _ h2 => hb.block g (by have := h.mks.le (show i + 1 ≤ n by omega) (Nat.le_refl _); omega), h.mks.mono, h.mks.first⟩⟩
set_option maxRecDepth 100000 in
set_option maxHeartbeats 8000000 in
theorem c_toTO (ro : Int) (a : Option Addr) (n c : Nat) (vs : List TNode) (w : World) (hr : RdN w a n vs) (hn : n ≤ 1048576) (hf : ∀ i, i < n → FitN (vs.getD i zeroN)) :
    Calls Try.prog 29 #[.agg #[.int .i64 ro, .slice a n c]] w fun e w' => (∃ (x : Nat) (gs : List TNode) (bs : Nat → Nat), e = .returned (.agg #[.int .i64 ro, .slice (some ⟨x, 0, none⟩) n n]) ∧ TrO w' w.heap.size x n bs vs gs ∧ w.heap.size ≤ x ∧ x < w'.heap.size ∧ bs n ≤ w'.heap.size) ∧ Below w.heap.size w w' := by
  refine (c_toTB ro a n c vs w hr hn hf).mono ?_
  rintro e w' ⟨⟨x, gs, bs, rfl, hs, ho, ⟨hof, h0, hE⟩, hx1, hx2⟩, hb⟩
  have hl : gs.length = n := by rw [← hs.len]; exact hr.1
  have hin : ∀ i, i < n → InN w' (gs.getD i zeroN) := fun i hi => (hof.own i (by omega)).inn
  exact ⟨⟨x, gs, bs, rfl, ⟨⟨hs, RdN.own ho hin, fun i hi => fit_same (hr.2.2 i hi) (hin i hi) (hs.at i) (hf i hi), fun i hi => own_src (hof.own i (by omega)).1⟩, ⟨RowW.of ho, fun i hi => AnyN1.of (hof.own i (by omega)), fun i hi => hof.mono i (by omega), h0⟩⟩, hx1, hx2, hE⟩, hb⟩

end Go.Proofs.Ythnggpjgajkaeaa
namespace Go.Proofs.Ythnggpjgajkaeaa
open Go Go.RowKit
attribute [local go_sem ↓] Go.wp_at_zero Go.wp_at_succ

theorem upM_mem {P : List Nat} {M : List ByteArray} (hp : ∀ d ∈ P, 0 < d) (hs : P.sum = M.length) : ∀ s ∈ upM P M, s ∈ M := by
  intro s h
  obtain ⟨i, hi⟩ := List.mem_iff_getElem?.1 h
  have hl : i < P.length := by have := (List.getElem?_eq_some_iff.1 hi).1; rwa [upM_len] at this
  have hd := List.getElem?_eq_getElem hl
  have hs1 := sum_at P i _ hd
  have h0 := hp _ (List.mem_of_getElem? hd)
  rw [upM_at hd] at hi
  have e := Option.some.inj hi
  have hlen : 0 < ((M.drop (P.take i).sum).take P[i]).length := by rw [List.length_take, List.length_drop]; omega
  rw [← e, List.getD_eq_getElem?_getD, List.getElem?_eq_getElem hlen]
  exact List.mem_of_mem_drop (List.mem_of_mem_take (List.getElem_mem hlen))
theorem Grown.mem {ps : List Nat} {M : List ByteArray} {qs : List Nat} {L : List BR} (h : Grown ps M qs L) : ps.length = M.length → ∀ v ∈ L, ∀ s ∈ v.1, s ∈ M := by
  induction h with
  | one h => intro _ v h; cases h
  | @more ps up qs M L h hl g ih =>
    intro hM v hv s hs
    have hP := parts_sum (most := 5) (by omega) ps.length ps.length (Nat.le_refl _)
    have hp := parts_pos (most := 5) (by omega) ps.length ps.length
    rcases List.mem_append.1 hv with hv | hv
    · obtain ⟨i, hi⟩ := List.mem_iff_getElem?.1 hv
      have hd : i < (parts 5 ps.length ps.length).length := by have := (List.getElem?_eq_some_iff.1 hi).1; rwa [upL_len] at this
      rw [upL_at (List.getElem?_eq_getElem hd)] at hi
      cases hi
      exact List.mem_of_mem_drop (List.mem_of_mem_take (List.mem_of_mem_drop hs))
    · exact upM_mem (fun d hd => (hp d hd).1) (by rw [hP, hM]) s (ih (by rw [hl, upM_len]) v hv s hs)
/-- Nodes of a tree of keys are small, and hold no other keys. -/
theorem TreeIs.small {keys : List ByteArray} {says : List (Bool × List ByteArray × List Int)} (h : TreeIs keys says) (hn : keys.length ≤ 61) : ∀ x ∈ says, x.2.1.length ≤ 61 ∧ x.2.2.length ≤ 5 ∧ ∀ s ∈ x.2.1, s ∈ keys := by
  obtain ⟨qs, L, g, _, rfl⟩ := h
  intro x hx
  obtain ⟨v, hv, rfl⟩ := List.mem_map.1 hx
  rcases List.mem_append.1 hv with hv | hv
  · unfold leavesL leafL at hv
    obtain ⟨cut, hc, rfl⟩ := List.mem_map.1 hv
    obtain ⟨i, hi⟩ := List.mem_iff_getElem?.1 hc
    have hl : i < (leafP keys.length).length := by have := (List.getElem?_eq_some_iff.1 hi).1; rwa [cuts_len] at this
    rw [cuts_at _ _ i _ (List.getElem?_eq_getElem hl)] at hi
    cases hi
    refine ⟨?_, by simp [sayB], fun s hs => List.mem_of_mem_drop (List.mem_of_mem_take hs)⟩
    show (List.take _ _).length ≤ 61
    rw [List.length_take, List.length_drop]; omega
  · have k := g.kids v hv
    refine ⟨?_, ?_, fun s hs => ?_⟩
    · show v.1.length ≤ 61; omega
    · show (v.2.map _).length ≤ 5; rw [List.length_map]; omega
    · by_cases h0 : keys.length = 0
      · unfold leafM at g
        rw [if_pos h0] at g
        unfold leafP at g
        rw [if_pos h0] at g
        cases g with
        | one _ => cases hv
        | more h2 _ _ => simp at h2
      · have hl : (List.range (leafP keys.length).length).length = (leafM keys).length := by
          rw [List.length_range, leafM_some (by omega), upM_len, leafP_some (by omega)]
        have h1 := g.mem hl v hv s hs
        rw [leafM_some (by omega)] at h1
        exact upM_mem (fun d hd => (parts_pos (by omega) _ _ d hd).1) (parts_sum (by omega) _ _ (Nat.le_refl _)) s h1
theorem own_crossP {X Y : World} {base base' e e' n c m c' : Nat} {a a' : Option Addr} {xs ys : List Value} (h : X.ownsRow base e 1 (.slice a n c) n xs) (h' : X.ownsRow base' e' 1 (.slice a' m c') m ys) (hg : X.grownBy Y (ob a')) (hne : e' ≠ e) : Y.ownsRow base e 1 (.slice a n c) n xs :=
  own_same h fun g eg => by
    rw [ob_slice] at eg
    obtain ⟨cs, x⟩ := own_box h eg
    exact hg.block g (own_blk h g eg).2 (fun ex => own_neT h' x hne ex.symm)
theorem OwnTr.below {w W : World} {B nc : Nat} {na : Option Addr} {bs : Nat → Nat} {vs : List TNode} (h : OwnTr w B na nc bs vs) (hb : Below w.heap.size w W) : OwnTr W B na nc bs vs :=
  ⟨own_below h.own hb, h.lists.same fun _ _ g _ hl => hb.block g hl, h.lo, Nat.le_trans h.hi hb.size, h.few⟩
theorem OwnTr.inn {w W : World} {B nc x E : Nat} {na : Option Addr} {bs : Nat → Nat} {vs : List TNode} (h : OwnTr w B na nc bs vs) (hi : Inn x E w W) (hg : ∀ g, B ≤ g → g < w.heap.size → g < x ∨ E ≤ g) : OwnTr W B na nc bs vs :=
  ⟨own_same h.own fun g e => by rw [ob_slice] at e; have := own_blk h.own g e; exact hi.block g this.2 (hg g this.1 this.2),
   ⟨h.lists.mono, fun i hi' => by
    have o := h.lists.own i hi'
    have l0 := h.lists.le (Nat.zero_le i) (by omega)
    have l1 := h.lists.le (show i + 1 ≤ vs.length by omega) (Nat.le_refl _)
    exact o.same fun g h1 h2 => hi.block g (by have := h.hi; omega) (hg g (by have := h.lo; omega) (by have := h.hi; omega))⟩, h.lo, Nat.le_trans h.hi hi.size, h.few⟩
theorem OwnTr.innU {w W : World} {B nc x E U : Nat} {na : Option Addr} {bs : Nat → Nat} {vs : List TNode} (h : OwnTr w B na nc bs vs) (hi : Inn x E w W) (h1 : ∀ g, ob na = some g → g < U) (h2 : bs vs.length ≤ U) (hU : U ≤ x) : OwnTr W B na nc bs vs :=
  ⟨own_same h.own fun g e => by rw [ob_slice] at e; exact hi.block g (own_blk h.own g e).2 (.inl (Nat.lt_of_lt_of_le (h1 g e) hU)),
   ⟨h.lists.mono, fun i hi' => by
    have o := h.lists.own i hi'
    have l1 := h.lists.le (show i + 1 ≤ vs.length by omega) (Nat.le_refl _)
    exact o.same fun g _ hg => hi.block g (by have := h.hi; omega) (.inl (by omega))⟩, h.lo, Nat.le_trans h.hi hi.size, h.few⟩
theorem OwnTr.rd {w : World} {B nc : Nat} {na : Option Addr} {bs : Nat → Nat} {vs : List TNode} (h : OwnTr w B na nc bs vs) : RdN w na vs.length vs := RdN.own h.own fun i hi => (h.lists.own i hi).inn
theorem OwnN1.lens {w : World} {B E : Nat} {v : TNode} (h : OwnN1 w B E v) : v.ks.length = v.kn ∧ v.js.length = v.im := by
  have h1 := h.1.1
  have h2 := h.2.1.1
  rw [List.length_map] at h1 h2
  omega
/-- What a tree of the call's own must keep to be compared and marked. -/
def FitT (vs : List TNode) : Prop := ∀ v ∈ vs, v.ks.length ≤ 61 ∧ v.js.length ≤ 5 ∧ ∀ s ∈ v.ks, s.size ≤ 1048576
theorem FitT.of {keys : List ByteArray} {vs : List TNode} (h : TreeIs keys (vs.map saysN)) (hn : keys.length ≤ 61) (hs : ∀ s ∈ keys, s.size ≤ 1048576) : FitT vs := by
  intro v hv
  have := h.small hn (saysN v) (List.mem_map_of_mem hv)
  exact ⟨this.1, this.2.1, fun s k => hs s (this.2.2 s k)⟩
theorem FitT.fit {w : World} {B nc : Nat} {na : Option Addr} {bs : Nat → Nat} {vs : List TNode} (f : FitT vs) (h : OwnTr w B na nc bs vs) : ∀ i, i < vs.length → FitN (vs.getD i zeroN) := by
  intro i hi
  have hv : vs.getD i zeroN ∈ vs := by rw [List.getD_eq_getElem?_getD, List.getElem?_eq_getElem hi]; exact List.getElem_mem _
  have l := (h.lists.own i hi).lens
  have q := f _ hv
  exact ⟨by omega, by omega, fun s hs => by have := q.2.2 s hs; omega⟩
theorem c_eqTr {w : World} {B B' nc nc' : Nat} {na na' : Option Addr} {bs bs' : Nat → Nat} {vs us : List TNode} (h : OwnTr w B na nc bs vs) (h' : OwnTr w B' na' nc' bs' us) (f : FitT vs) (hs : vs.map saysN = us.map saysN) :
    Calls Try.prog 24 #[.agg #[.int .i64 ((vs.length - 1 : Nat) : Int), .slice na vs.length nc], .agg #[.int .i64 ((us.length - 1 : Nat) : Int), .slice na' us.length nc']] w fun e w' => e = .returned (.bool true) ∧ Below w.heap.size w w' := by
  have hl : us.length = vs.length := by have := congrArg List.length hs; simpa using this.symm
  have r := h'.rd
  rw [hl] at r ⊢
  exact c_eqT2 _ na na' vs.length nc nc' vs us w h.rd r hs (by have := h.few; omega) (f.fit h)
/-- Marks of nodes. -/
def mkOne (k : Nat) (v : TNode) : TNode := ⟨(k : Int) % 3 == 0, v.ka, v.kn, v.kc, (List.range v.kn).map (fun i => mtext (k + 1 + i)), v.ia, v.im, v.ic, (List.range v.im).map fun i => ((k + 1 + v.kn + i : Nat) : Int)⟩
def mkAll : Nat → List TNode → List TNode
  | _, [] => []
  | k, v :: vs => mkOne k v :: mkAll (k + 1 + v.kn + v.im) vs
def endAll : Nat → List TNode → Nat
  | k, [] => k
  | k, v :: vs => endAll (k + 1 + v.kn + v.im) vs
theorem mkAll_len : ∀ (k : Nat) (vs : List TNode), (mkAll k vs).length = vs.length
  | _, [] => rfl
  | k, v :: vs => by rw [mkAll, List.length_cons, List.length_cons, mkAll_len]
theorem mkAll_app : ∀ (k : Nat) (vs : List TNode) (v : TNode), mkAll k (vs ++ [v]) = mkAll k vs ++ [mkOne (endAll k vs) v]
  | _, [], _ => rfl
  | k, u :: vs, v => by rw [List.cons_append, mkAll, mkAll_app, endAll]; rfl
theorem endAll_app : ∀ (k : Nat) (vs : List TNode) (v : TNode), endAll k (vs ++ [v]) = endAll k vs + 1 + v.kn + v.im
  | _, [], _ => rfl
  | k, u :: vs, v => by rw [List.cons_append, endAll, endAll_app, endAll]
theorem mkAll_at : ∀ (k : Nat) (vs : List TNode) (j : Nat) (v : TNode), vs[j]? = some v → (mkAll k vs)[j]? = some (mkOne (endAll k (vs.take j)) v)
  | _, [], j, v, h => by simp at h
  | k, u :: vs, 0, v, h => by simp at h; subst h; rfl
  | k, u :: vs, j + 1, v, h => by
    rw [mkAll, List.getElem?_cons_succ, List.take_succ_cons, endAll]
    exact mkAll_at _ vs j v (by simpa using h)
theorem cellsN_same {vs : List TNode} {j : Nat} {v v' : TNode} (h : vs[j]? = some v) (e : cN v' = cN v) : cellsN (vs.set j v') = cellsN vs := by
  induction vs generalizing j with
  | nil => simp at h
  | cons u vs ih =>
    cases j with
    | zero => simp at h; subst h; show cN v' ++ cellsN vs = cN u ++ cellsN vs; rw [e]
    | succ j =>
      show cN u ++ cellsN (vs.set j v') = cN u ++ cellsN vs
      rw [ih (by simpa using h)]
/-- One node's lists are changed. -/
theorem OwnTr.chg {w W : World} {B nc j : Nat} {na : Option Addr} {bs : Nat → Nat} {vs : List TNode} {v v' : TNode} {row : Option Nat} (h : OwnTr w B na nc bs vs) (hj : vs[j]? = some v) (hg : w.grownBy W row) (hr : ∀ g, row = some g → bs j ≤ g ∧ g < bs (j + 1)) (hna : ∀ g, ob na = some g → row ≠ some g) (ho : OwnN1 W (bs j) (bs (j + 1)) v') (hc : cN v' = cN v) : OwnTr W B na nc bs (vs.set j v') := by
  have hjl : j < vs.length := (List.getElem?_eq_some_iff.1 hj).1
  refine ⟨?_, ⟨fun i hi => h.lists.mono i (by simpa using hi), fun i hi => ?_⟩, h.lo, by rw [List.length_set]; exact Nat.le_trans h.hi hg.size, by rw [List.length_set]; exact h.few⟩
  · rw [List.length_set, cellsN_same hj hc]
    exact own_same h.own fun g e => by rw [ob_slice] at e; exact hg.block g (own_blk h.own g e).2 (fun ex => hna g e ex.symm)
  · rw [List.length_set] at hi
    by_cases e : i = j
    · subst e
      rw [List.getD_eq_getElem?_getD, List.getElem?_set_self hjl]
      exact ho
    · rw [List.getD_eq_getElem?_getD, List.getElem?_set_ne (Ne.symm e), ← List.getD_eq_getElem?_getD]
      have o := h.lists.own i hi
      have li := h.lists.le (show i + 1 ≤ vs.length by omega) (Nat.le_refl _)
      refine o.same fun g h1 h2 => hg.block g (by have := h.hi; omega) (fun ex => ?_)
      have q := hr g ex.symm
      rcases Nat.lt_or_gt_of_ne e with hlt | hgt
      · have := h.lists.le (show i + 1 ≤ j by omega) (by omega); omega
      · have := h.lists.le (show j + 1 ≤ i by omega) (by omega); omega
theorem set_leaf {vs : List TNode} {j : Nat} {v : TNode} (b : Bool) (h : vs[j]? = some v) : (cellsN vs).set (j * 3) (.bool b) = cellsN (vs.set j { v with lf := b }) := by
  induction vs generalizing j with
  | nil => simp at h
  | cons u vs ih =>
    cases j with
    | zero => simp at h; subst h; rfl
    | succ j =>
      show (.bool u.lf :: .slice u.ka u.kn u.kc :: .slice u.ia u.im u.ic :: cellsN vs).set ((j + 1) * 3) (.bool b) = .bool u.lf :: .slice u.ka u.kn u.kc :: .slice u.ia u.im u.ic :: cellsN (vs.set j _)
      rw [show (j + 1) * 3 = j * 3 + 1 + 1 + 1 by omega, List.set_cons_succ, List.set_cons_succ, List.set_cons_succ, ih (by simpa using h)]
theorem OwnTr.leaf {w : World} {B nc j x : Nat} {bs : Nat → Nat} {vs : List TNode} {v : TNode} (h : OwnTr w B (some ⟨x, 0, none⟩) nc bs vs) (hj : vs[j]? = some v) (b : Bool) : OwnTr (w.setCell ⟨x, j * 3, none⟩ (.bool b)) B (some ⟨x, 0, none⟩) nc bs (vs.set j { v with lf := b }) := by
  have hjl : j < vs.length := (List.getElem?_eq_some_iff.1 hj).1
  obtain ⟨cs, bx⟩ := own_box h.own rfl
  refine ⟨?_, ⟨fun i hi => h.lists.mono i (by simpa using hi), fun i hi => ?_⟩, h.lo, by rw [List.length_set]; simpa using h.hi, by rw [List.length_set]; exact h.few⟩
  · rw [List.length_set, ← set_leaf b hj]
    exact (h.own.stored (j * 3) (.bool b)).1
  · rw [List.length_set] at hi
    have o := (h.lists.own i hi).typed (Keep93.set (i := j * 3) (v := .bool b) bx)
    by_cases e : i = j
    · subst e
      rw [List.getD_eq_getElem?_getD, hj] at o
      rw [List.getD_eq_getElem?_getD, List.getElem?_set_self hjl]
      exact o
    · rw [List.getD_eq_getElem?_getD, List.getElem?_set_ne (Ne.symm e), ← List.getD_eq_getElem?_getD]
      exact o
theorem marks_split {k : Nat} {vs : List TNode} {j : Nat} {v : TNode} (h : vs[j]? = some v) : (mkAll k (vs.take j) ++ vs.drop j)[j]? = some v ∧ (mkAll k (vs.take j) ++ vs.drop j).set j (mkOne (endAll k (vs.take j)) v) = mkAll k (vs.take (j + 1)) ++ vs.drop (j + 1) := by
  have hjl : j < vs.length := (List.getElem?_eq_some_iff.1 h).1
  have e : v = vs[j] := by rw [List.getElem?_eq_getElem hjl] at h; exact (Option.some.inj h).symm
  have hd : vs.drop j = v :: vs.drop (j + 1) := by rw [List.drop_eq_getElem_cons hjl, e]
  have ht : vs.take (j + 1) = vs.take j ++ [v] := by rw [List.take_add_one, h]; rfl
  have hl : (mkAll k (vs.take j)).length = j := by rw [mkAll_len, List.length_take]; omega
  constructor
  · rw [List.getElem?_append_right (by omega), hl, Nat.sub_self, hd]; rfl
  · rw [hd, List.set_append_right _ _ (by omega), hl, Nat.sub_self, ht, mkAll_app]
    simp
set_option maxRecDepth 100000 in
set_option maxHeartbeats 8000000 in
theorem c_markNX (B nc : Nat) (na : Option Addr) (bs : Nat → Nat) (vs : List TNode) (w : World) (h : OwnTr w B na nc bs vs) (hf : FitT vs) (U : Nat) (hu1 : ∀ g, ob na = some g → g < U) (hu2 : bs vs.length ≤ U) :
    Calls Try.prog 53 #[.slice na vs.length nc, .int .i64 1] w fun e w' => e = .returned (.int .i64 (endAll 1 vs : Nat)) ∧ OwnTr w' B na nc bs (mkAll 1 vs) ∧ Inn B U w w' := by
  have HU1 : Hid (∀ g, ob na = some g → g < U) := hu1
  have HU2 : Hid (bs vs.length ≤ U) := hu2
  clear hu1 hu2
  have HF : Hid (∀ i, i < vs.length → (vs.getD i zeroN).kn ≤ 61 ∧ (vs.getD i zeroN).im ≤ 5) := fun i hi => by
    have hv : vs.getD i zeroN ∈ vs := by rw [List.getD_eq_getElem?_getD, List.getElem?_eq_getElem hi]; exact List.getElem_mem _
    have l := (h.lists.own i hi).lens
    have q := hf _ hv
    omega
  have HT : Hid (OwnTr w B na nc bs vs) := h
  have few := h.few
  obtain ⟨n, hn⟩ : ∃ n, vs.length = n := ⟨_, rfl⟩
  have HN : Hid (vs.length = n) := hn
  rw [hn] at few ⊢
  clear h hf hn
  go_enter Try.func53, Try.ntmps53
  go_wp2
  go_loopw [1, 5] (fun k i wr => ∃ (j m : Nat), j ≤ n ∧ i = .int .i64 j ∧ k = .int .i64 m ∧ 1 ≤ m ∧ m ≤ 1 + j * 67 ∧ Hid (endAll 1 (vs.take j) = m) ∧ Hid (OwnTr wr B na nc bs (mkAll 1 (vs.take j) ++ vs.drop j)) ∧ Hid (Inn B U w wr)) (fun _ i _ => n - (intOf i).toNat)
  case atStart => exact ⟨0, 1, by omega, rfl, rfl, by omega, by omega, rfl, HT.out, Inn.of_below (Below.refl _ _)⟩
  case round =>
    obtain ⟨j, m, hj, rfl, rfl, hm1, hm2, HE, MT, IW⟩ := hrel
    rename World => wr
    by_cases hlt : j < n
    · obtain ⟨v, hv⟩ : ∃ v, vs[j]? = some v := ⟨_, List.getElem?_eq_getElem (by have := HN.out; omega)⟩
      have hms := marks_split (k := 1) hv
      rw [HE.out] at hms
      have hvd : vs.getD j zeroN = v := by rw [List.getD_eq_getElem?_getD, hv]; rfl
      have hfj := HF.out j (by have := HN.out; omega)
      rw [hvd] at hfj
      obtain ⟨lf, ka, kn, kc, ks, ia, im, ic, js⟩ := v
      have f1 : kn ≤ 61 := hfj.1
      have f2 : im ≤ 5 := hfj.2
      obtain ⟨L, hL⟩ : ∃ L, mkAll 1 (vs.take j) ++ vs.drop j = L := ⟨_, rfl⟩
      rw [hL] at MT hms
      have hLl : L.length = n := by rw [← hL, List.length_append, mkAll_len, List.length_take, List.length_drop, HN.out]; omega
      have HLn : Hid (L.length = n) := hLl
      have hx0 : ∀ g, ob na = some g → g < w.heap.size := fun g e => (own_blk HT.out.own g e).2
      rcases own_form MT.out.own with ⟨e, h0⟩ | ⟨x, xcap, e, hx1, hx2⟩
      · omega
      simp only [Value.slice.injEq] at e
      obtain ⟨rfl, _, rfl⟩ := e
      have cc := fun q hq => (MT.out.own.cellAt (j * 3 + q) (by omega)).trans (cellsN_get L j (by omega) q hq)
      have gv : L.getD j zeroN = ⟨lf, ka, kn, kc, ks, ia, im, ic, js⟩ := by rw [List.getD_eq_getElem?_getD, hms.1]; rfl
      rw [gv] at cc
      have c0 : wr.cell? ⟨x, j * 3, none⟩ = some (.bool lf) := cc 0 (by omega)
      have t0 := MT.out.own.frozenAt (j * 3)
      have HX0 : Hid (x < U) := HU1.out x rfl
      have HJE : Hid (bs (j + 1) ≤ U) := by have l1 := HT.out.lists.le (show j + 1 ≤ vs.length by have := HN.out; omega) (Nat.le_refl _); have := HU2.out; unfold Hid; omega
      have MV0 := MT.out.leaf hms.1 ((m : Int) % 3 == 0)
      obtain ⟨V, hV⟩ : ∃ V, wr.setCell ⟨x, j * 3, none⟩ (.bool ((m : Int) % 3 == 0)) = V := ⟨_, rfl⟩
      rw [hV] at MV0
      have hgx : ∀ g, ob (some (⟨x, 0, none⟩ : Addr)) = some g → g = x := fun g e => (Option.some.inj e).symm
      have IV : Hid (Inn B U w V) := by
        unfold Hid
        rw [← hV]
        exact IW.out.setR _ _ (.inr ⟨hx1, by dsimp only; have := HX0.out; omega⟩)
      have HMS : Hid (L[j]? = some ⟨lf, ka, kn, kc, ks, ia, im, ic, js⟩) := hms.1
      have HMS2 : Hid (L.set j (mkOne m ⟨lf, ka, kn, kc, ks, ia, im, ic, js⟩) = mkAll 1 (vs.take (j + 1)) ++ vs.drop (j + 1)) := hms.2
      have HEE : Hid (endAll 1 (vs.take (j + 1)) = m + 1 + kn + im) := by
        unfold Hid
        rw [List.take_add_one, hv]
        show endAll 1 (_ ++ [_]) = _
        rw [endAll_app, HE.out]
      have MV : Hid (OwnTr V B (some ⟨x, 0, none⟩) nc bs (L.set j ⟨(m : Int) % 3 == 0, ka, kn, kc, ks, ia, im, ic, js⟩)) := MV0
      have hj1 : (L.set j ⟨(m : Int) % 3 == 0, ka, kn, kc, ks, ia, im, ic, js⟩)[j]? = some ⟨(m : Int) % 3 == 0, ka, kn, kc, ks, ia, im, ic, js⟩ := List.getElem?_set_self (by omega)
      have HJ1 : Hid ((L.set j ⟨(m : Int) % 3 == 0, ka, kn, kc, ks, ia, im, ic, js⟩)[j]? = some ⟨(m : Int) % 3 == 0, ka, kn, kc, ks, ia, im, ic, js⟩) := hj1
      have o1 := MV.out.lists.own j (by rw [List.length_set]; omega)
      rw [List.getD_eq_getElem?_getD, hj1] at o1
      have OO : Hid (OwnN1 V (bs j) (bs (j + 1)) ⟨(m : Int) % 3 == 0, ka, kn, kc, ks, ia, im, ic, js⟩) := o1
      have cd := fun q hq => (MV.out.own.cellAt (j * 3 + q) (by rw [List.length_set]; omega)).trans (cellsN_get _ j (by rw [List.length_set]; omega) q hq)
      have gv1 : (L.set j ⟨(m : Int) % 3 == 0, ka, kn, kc, ks, ia, im, ic, js⟩).getD j zeroN = ⟨(m : Int) % 3 == 0, ka, kn, kc, ks, ia, im, ic, js⟩ := by rw [List.getD_eq_getElem?_getD, hj1]; rfl
      rw [gv1] at cd
      have c1 : V.cell? ⟨x, j * 3 + 1, none⟩ = some (.slice ka kn kc) := cd 1 (by omega)
      have c2 : V.cell? ⟨x, j * 3 + 2, none⟩ = some (.slice ia im ic) := cd 2 (by omega)
      have C1 := c_markS (bs j) (.slice ka kn kc) kn (m + 1) _ V OO.out.1 (by omega) (by omega) (by omega)
      have w1 : ((m + 1 : Nat) : Int) = (m : Int) + 1 := by omega
      rw [w1] at C1
      have SV : Hid (w.heap.size ≤ V.heap.size) := IV.out.size
      clear hms hvd hfj hv hL gv cc MV0 hgx o1 gv1 cd hj1 w1 IW MT hLl
      go_wp2_with fail
      refine C1.mono ?_
      rintro e w2 ⟨rfl, ho1, hg1⟩
      rw [ob_slice] at hg1
      have k2 : OwnN1 w2 (bs j) (bs (j + 1)) ⟨(m : Int) % 3 == 0, ka, kn, kc, (List.range kn).map (fun i => mtext (m + 1 + i)), ia, im, ic, js⟩ := by
        refine ⟨?_, ?_, OO.out.2.2.1, OO.out.2.2.2⟩
        · show w2.ownsRow _ 9 1 _ _ (List.map Value.string (List.map _ _)); rw [List.map_map]; exact ho1
        · exact own_crossP OO.out.2.1 OO.out.1 hg1 (by decide)
      have M2' := MV.out.chg HJ1.out hg1 OO.out.2.2.1 (fun g e ex => by obtain ⟨cs, bx⟩ := own_box MV.out.own e; exact own_neT OO.out.1 bx (by decide) ex) k2 rfl
      rw [List.set_set] at M2'
      have M2 : Hid (OwnTr w2 B (some ⟨x, 0, none⟩) nc bs (L.set j ⟨(m : Int) % 3 == 0, ka, kn, kc, (List.range kn).map (fun i => mtext (m + 1 + i)), ia, im, ic, js⟩)) := M2'
      have HJ2 : Hid ((L.set j ⟨(m : Int) % 3 == 0, ka, kn, kc, (List.range kn).map (fun i => mtext (m + 1 + i)), ia, im, ic, js⟩)[j]? = some ⟨(m : Int) % 3 == 0, ka, kn, kc, (List.range kn).map (fun i => mtext (m + 1 + i)), ia, im, ic, js⟩) := List.getElem?_set_self (by have := HLn.out; omega)
      have K2 : Hid (OwnN1 w2 (bs j) (bs (j + 1)) ⟨(m : Int) % 3 == 0, ka, kn, kc, (List.range kn).map (fun i => mtext (m + 1 + i)), ia, im, ic, js⟩) := k2
      have hlo := MV.out.lists.le (Nat.zero_le j) (by rw [List.length_set]; have := HLn.out; omega)
      have hlo2 := MV.out.lo
      have I2 : Hid (Inn B U w w2) := IV.out.trans (Inn.of_grown hg1 fun g e => ⟨by have := OO.out.2.2.1 g e; omega, by have := OO.out.2.2.1 g e; have := HJE.out; omega⟩)
      have d2 : w2.cell? ⟨x, j * 3 + 2, none⟩ = some (.slice ia im ic) := by
        have := (M2.out.own.cellAt (j * 3 + 2) (by rw [List.length_set]; have := HLn.out; omega)).trans (cellsN_get _ j (by rw [List.length_set]; have := HLn.out; omega) 2 (by omega))
        rw [List.getD_eq_getElem?_getD, HJ2.out] at this
        exact this
      have C2 := c_markI (bs j) (.slice ia im ic) im (m + 1 + kn) _ w2 k2.2.1 (by omega) (by omega)
      clear ho1 hg1 k2 M2' C1 MV IV hV c0 t0 c1 c2 OO HJ1 hlo hlo2
      go_wp2_with fail
      refine C2.mono ?_
      rintro e w3 ⟨rfl, ho2, hg2⟩
      rw [ob_slice] at hg2
      have k3 : OwnN1 w3 (bs j) (bs (j + 1)) (mkOne m ⟨lf, ka, kn, kc, ks, ia, im, ic, js⟩) := by
        refine ⟨own_crossP K2.out.1 K2.out.2.1 hg2 (by decide), ?_, K2.out.2.2.1, K2.out.2.2.2⟩
        show w3.ownsRow _ 3 1 _ _ (List.map (Value.int .i64) (List.map _ _)); rw [List.map_map]; exact ho2
      have M3' := M2.out.chg HJ2.out hg2 K2.out.2.2.2 (fun g e ex => by obtain ⟨cs, bx⟩ := own_box M2.out.own e; exact own_neT K2.out.2.1 bx (by decide) ex) k3 rfl
      rw [List.set_set, HMS2.out] at M3'
      have M3 : Hid (OwnTr w3 B (some ⟨x, 0, none⟩) nc bs (mkAll 1 (vs.take (j + 1)) ++ vs.drop (j + 1))) := M3'
      have hlo := M2.out.lists.le (Nat.zero_le j) (by rw [List.length_set]; have := HLn.out; omega)
      have hlo2 := M2.out.lo
      have I3 : Hid (Inn B U w w3) := I2.out.trans (Inn.of_grown hg2 fun g e => ⟨by have := K2.out.2.2.2 g e; omega, by have := K2.out.2.2.2 g e; have := HJE.out; omega⟩)
      clear ho2 hg2 k3 M3' C2 M2 I2 d2 K2 HJ2 hlo hlo2 HMS HMS2
      go_wp2
      go_roundw
      case rel => exact ⟨j + 1, m + 1 + kn + im, by omega, by go_num, rfl, by omega, by omega, HEE.out, M3.out, I3.out⟩
      case measure => simp [intOf]; omega
    · have e : j = n := by omega
      subst e
      go_wp2
      go_ret
      have e1 : vs.take j = vs := List.take_of_length_le (by have := HN.out; omega)
      have m1 := MT.out
      have h1 := HE.out
      rw [e1] at m1 h1
      rw [List.drop_eq_nil_of_le (by have := HN.out; omega), List.append_nil] at m1
      exact ⟨by rw [h1]; rfl, m1, IW.out⟩

end Go.Proofs.Ythnggpjgajkaeaa
namespace Go.Proofs.Ythnggpjgajkaeaa
open Go Go.RowKit
attribute [local go_sem ↓] Go.wp_at_zero Go.wp_at_succ

set_option maxRecDepth 100000 in
set_option maxHeartbeats 4000000 in
theorem c_heldI (a : Option Addr) (n cap k0 : Nat) (w : World) (hr : RdV w a n (marksI k0 n)) (hn : n ≤ 2097152) (hk : k0 ≤ 1048576) :
    Calls Try.prog 81 #[.slice a n cap, .int .i64 k0] w fun e w' => e = .returned (.int .i64 (k0 + n : Nat)) ∧ Below w.heap.size w w' := by
  obtain ⟨hl, hcs⟩ := hr
  go_enter Try.func81, Try.ntmps81
  go_wp2
  go_loopw [1, 5] (fun m i wr => ∃ k : Nat, k ≤ n ∧ i = .int .i64 k ∧ m = .int .i64 ((k0 + k : Nat) : Int) ∧ Hid (Below w.heap.size w wr)) (fun _ i _ => n - (intOf i).toNat)
  case atStart => exact ⟨0, by omega, rfl, rfl, Below.refl _ _⟩
  case round =>
    obtain ⟨k, hk, rfl, rfl, HB⟩ := hrel
    rename World => wr
    by_cases hlt : k < n
    · obtain ⟨b, off, rfl, hbl, hc⟩ := hcs (by omega)
      have hck : wr.cell? ⟨b, off + k, none⟩ = some (.int .i64 ((k0 + k : Nat) : Int)) := by rw [HB.out.cell (p := ⟨b, off + k, none⟩) hbl, hc k hlt, marksI_get _ _ _ hlt]
      have g1 : (0 : Int) ≤ (k : Int) := by omega
      have g2 : (k : Int) < (n : Int) := by omega
      clear hc hcs
      go_wp2
      go_roundw
      case rel => exact ⟨k + 1, by omega, by go_num, by go_num, HB.out⟩
      case measure => simp [intOf]; omega
    · have e : k = n := by omega
      subst e
      clear hcs
      go_wp2
      go_ret
      exact ⟨rfl, HB.out⟩
set_option maxRecDepth 100000 in
set_option maxHeartbeats 8000000 in
theorem c_heldNX (na : Option Addr) (nc : Nat) (vs : List TNode) (w : World) (hr : RdN w na vs.length (mkAll 1 vs)) (few : vs.length ≤ 200) (hf : ∀ v ∈ vs, v.kn ≤ 61 ∧ v.im ≤ 5) :
    Calls Try.prog 54 #[.slice na vs.length nc, .int .i64 1] w fun e w' => e = .returned (.int .i64 (endAll 1 vs : Nat)) ∧ Below w.heap.size w w' := by
  have HF : Hid (∀ v ∈ vs, v.kn ≤ 61 ∧ v.im ≤ 5) := hf
  have HR : Hid (RdN w na vs.length (mkAll 1 vs)) := hr
  obtain ⟨n, hn⟩ : ∃ n, vs.length = n := ⟨_, rfl⟩
  have HN : Hid (vs.length = n) := hn
  rw [hn] at few ⊢
  clear hr hf hn
  go_enter Try.func54, Try.ntmps54
  go_wp2
  go_loopw [1, 5] (fun k i wr => ∃ (j m : Nat), j ≤ n ∧ i = .int .i64 j ∧ k = .int .i64 m ∧ 1 ≤ m ∧ m ≤ 1 + j * 67 ∧ Hid (endAll 1 (vs.take j) = m) ∧ Hid (Below w.heap.size w wr)) (fun _ i _ => n - (intOf i).toNat)
  case atStart => exact ⟨0, 1, by omega, rfl, rfl, by omega, by omega, rfl, Below.refl _ _⟩
  case round =>
    obtain ⟨j, m, hj, rfl, rfl, hm1, hm2, HE, BW⟩ := hrel
    rename World => wr
    by_cases hlt : j < n
    · obtain ⟨v, hv⟩ : ∃ v, vs[j]? = some v := ⟨_, List.getElem?_eq_getElem (by have := HN.out; omega)⟩
      have hmk := mkAll_at 1 vs j v hv
      rw [HE.out] at hmk
      have hfj := HF.out v (List.mem_of_getElem? hv)
      have HEE : Hid (endAll 1 (vs.take (j + 1)) = m + 1 + v.kn + v.im) := by
        unfold Hid
        rw [List.take_add_one, hv]
        show endAll 1 (_ ++ [_]) = _
        rw [endAll_app, HE.out]
      obtain ⟨lf, ka, kn, kc, ks, ia, im, ic, js⟩ := v
      have f1 : kn ≤ 61 := hfj.1
      have f2 : im ≤ 5 := hfj.2
      obtain ⟨hl, hcs, hin⟩ := HR.out.below BW.out
      obtain ⟨b, off, rfl, hbl, hc⟩ := hcs (by have := HN.out; omega)
      have gv : (mkAll 1 vs).getD j zeroN = mkOne m ⟨lf, ka, kn, kc, ks, ia, im, ic, js⟩ := by rw [List.getD_eq_getElem?_getD, hmk]; rfl
      have cj := hc j (by have := HN.out; omega)
      have ij := hin j (by have := HN.out; omega)
      rw [gv] at cj ij
      obtain ⟨d0, d1, d2⟩ := cj
      have c0 : wr.cell? ⟨b, off + j * 3, none⟩ = some (.bool ((m : Int) % 3 == 0)) := d0
      have c1 : wr.cell? ⟨b, off + j * 3 + 1, none⟩ = some (.slice ka kn kc) := d1
      have c2 : wr.cell? ⟨b, off + j * 3 + 2, none⟩ = some (.slice ia im ic) := d2
      have r1 : RdV wr ka kn (marksS (m + 1) kn) := by
        have := ij.1
        show RdV wr ka kn ((List.range kn).map fun i => Value.string (mtext (m + 1 + i)))
        have e : (mkOne m ⟨lf, ka, kn, kc, ks, ia, im, ic, js⟩).ks.map Value.string = (List.range kn).map fun i => Value.string (mtext (m + 1 + i)) := by show List.map _ (List.map _ _) = _; rw [List.map_map]; rfl
        rw [e] at this; exact this
      have r2 : RdV wr ia im (marksI (m + 1 + kn) im) := by
        have := ij.2
        have e : (mkOne m ⟨lf, ka, kn, kc, ks, ia, im, ic, js⟩).js.map (Value.int .i64) = marksI (m + 1 + kn) im := by show List.map _ (List.map _ _) = _; rw [List.map_map]; rfl
        rw [e] at this; exact this
      have C1 := c_heldS ka kn kc (m + 1) wr r1 (by omega) (by omega) (by omega)
      have w1 : ((m + 1 : Nat) : Int) = (m : Int) + 1 := by omega
      rw [w1] at C1
      have HR2 : Hid (RdV wr ia im (marksI (m + 1 + kn) im)) := r2
      have g1 : (0 : Int) ≤ (j : Int) := by omega
      have g2 : (j : Int) < (n : Int) := by omega
      clear hv hmk hfj hl hcs hin hc gv ij d0 d1 d2 r1 r2 w1
      go_wp2_with fail
      refine C1.mono ?_
      rintro e w2 ⟨rfl, hb2⟩
      have B2 : Hid (Below w.heap.size w w2) := BW.out.trans (hb2.mono BW.out.size)
      have e2 : w2.cell? ⟨b, off + j * 3 + 2, none⟩ = some (.slice ia im ic) := far6 hb2 c2
      have C2 := c_heldI ia im ic (m + 1 + kn) w2 (HR2.out.below hb2) (by omega) (by omega)
      clear hb2 C1 BW HR2 c0 c1 c2
      go_wp2_with fail
      refine C2.mono ?_
      rintro e w3 ⟨rfl, hb3⟩
      have B3 : Hid (Below w.heap.size w w3) := B2.out.trans (hb3.mono B2.out.size)
      clear hb3 C2 B2 e2
      go_wp2
      go_roundw
      case rel => exact ⟨j + 1, m + 1 + kn + im, by omega, by go_num, rfl, by omega, by omega, HEE.out, B3.out⟩
      case measure => simp [intOf]; omega
    · have e : j = n := by omega
      subst e
      go_wp2
      go_ret
      have e1 : vs.take j = vs := List.take_of_length_le (by have := HN.out; omega)
      have h1 := HE.out
      rw [e1] at h1
      exact ⟨by rw [h1]; rfl, BW.out⟩
set_option maxRecDepth 100000 in
set_option maxHeartbeats 8000000 in
theorem c_markTX (ro : Int) (B nc : Nat) (na : Option Addr) (bs : Nat → Nat) (vs : List TNode) (w : World) (h : OwnTr w B na nc bs vs) (hf : FitT vs) (U : Nat) (hu1 : ∀ g, ob na = some g → g < U) (hu2 : bs vs.length ≤ U) :
    Calls Try.prog 25 #[.agg #[.int .i64 ro, .slice na vs.length nc], .int .i64 1] w fun e w' => e = .returned (.int .i64 (endAll 1 vs : Nat)) ∧ OwnTr w' B na nc bs (mkAll 1 vs) ∧ Inn B U w w' := by
  obtain ⟨V, hV⟩ : ∃ V, w.alloc (.cells #[.int .i64 ro, .slice na vs.length nc] 27) = V := ⟨_, rfl⟩
  have bV : Below w.heap.size w V := by rw [← hV]; exact (Below.refl _ _).alloc (Nat.le_refl _) _
  have XV : Box V w.heap.size 27 #[.int .i64 ro, .slice na vs.length nc] := by rw [← hV]; exact Box.new _ _ _
  have x1 : V.cell? ⟨w.heap.size, 1, none⟩ = some (.slice na vs.length nc) := XV.cell 1
  have C := c_markNX B nc na bs vs V (h.below bV) hf U hu1 hu2
  have BV : Hid (Below w.heap.size w V) := bV
  obtain ⟨n, hn⟩ : ∃ n, vs.length = n := ⟨_, rfl⟩
  rw [hn] at C x1 hV ⊢
  obtain ⟨q, hq⟩ : ∃ q, endAll 1 vs = q := ⟨_, rfl⟩
  rw [hq] at C ⊢
  clear h hf bV XV hn hq hu1 hu2
  go_enter Try.func25, Try.ntmps25
  go_wp2_with fail
  refine C.mono ?_
  rintro e w2 ⟨rfl, hm, hi⟩
  have HM : Hid (OwnTr w2 B na nc bs (mkAll 1 vs)) := hm
  have HB : Hid (Inn B U w w2) := (Inn.of_below BV.out).trans hi
  clear hm hi C BV hV x1
  go_wp2
  go_ret
  exact ⟨rfl, HM.out, HB.out⟩
set_option maxRecDepth 100000 in
set_option maxHeartbeats 8000000 in
theorem c_heldTX (ro : Int) (nc : Nat) (na : Option Addr) (vs : List TNode) (w : World) (hr : RdN w na vs.length (mkAll 1 vs)) (few : vs.length ≤ 200) (hf : ∀ v ∈ vs, v.kn ≤ 61 ∧ v.im ≤ 5) :
    Calls Try.prog 26 #[.agg #[.int .i64 ro, .slice na vs.length nc], .int .i64 1] w fun e w' => e = .returned (.int .i64 (endAll 1 vs : Nat)) ∧ Below w.heap.size w w' := by
  obtain ⟨V, hV⟩ : ∃ V, w.alloc (.cells #[.int .i64 ro, .slice na vs.length nc] 27) = V := ⟨_, rfl⟩
  have bV : Below w.heap.size w V := by rw [← hV]; exact (Below.refl _ _).alloc (Nat.le_refl _) _
  have XV : Box V w.heap.size 27 #[.int .i64 ro, .slice na vs.length nc] := by rw [← hV]; exact Box.new _ _ _
  have x1 : V.cell? ⟨w.heap.size, 1, none⟩ = some (.slice na vs.length nc) := XV.cell 1
  have C := c_heldNX na nc vs V (hr.below bV) few hf
  have BV : Hid (Below w.heap.size w V) := bV
  obtain ⟨n, hn⟩ : ∃ n, vs.length = n := ⟨_, rfl⟩
  rw [hn] at C x1 hV ⊢
  obtain ⟨q, hq⟩ : ∃ q, endAll 1 vs = q := ⟨_, rfl⟩
  rw [hq] at C ⊢
  clear hr hf few bV XV hn hq
  go_enter Try.func26, Try.ntmps26
  go_wp2_with fail
  refine C.mono ?_
  rintro e w2 ⟨rfl, hb⟩
  have HB : Hid (Below w.heap.size w w2) := BV.out.trans (hb.mono BV.out.size)
  have q0 : ¬ ((q : Nat) : Int) < 0 := by omega
  clear hb C BV hV x1
  go_wp2
  go_ret
  exact ⟨rfl, HB.out⟩

end Go.Proofs.Ythnggpjgajkaeaa
