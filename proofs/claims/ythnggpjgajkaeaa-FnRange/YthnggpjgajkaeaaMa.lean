/-
  Trees as forests of nodes: how they are climbed, how deep they are, what their keys are.
-/
import Derived.Test.YthnggpjgajkaeaaTr
namespace Go.Proofs.Ythnggpjgajkaeaa
open Go Go.RowKit

abbrev ND := Bool × List ByteArray × List Int
def zND : ND := (false, [], [])
inductive Fo where
  | nil
  | node (ks : List ByteArray) (kids rest : Fo)
def Fo.isNil : Fo → Bool
  | .nil => true
  | .node _ _ _ => false
def Fo.len : Fo → Nat
  | .nil => 0
  | .node _ _ r => r.len + 1
def Fo.app : Fo → Fo → Fo
  | .nil, g => g
  | .node ks k r, g => .node ks k (r.app g)
theorem Fo.app_nil : ∀ f : Fo, f.app .nil = f
  | .nil => rfl
  | .node ks k r => by rw [Fo.app, Fo.app_nil r]
theorem Fo.app_assoc : ∀ f g h : Fo, (f.app g).app h = f.app (g.app h)
  | .nil, _, _ => rfl
  | .node ks k r, g, h => by rw [Fo.app, Fo.app, Fo.app, Fo.app_assoc r]
theorem Fo.len_app : ∀ f g : Fo, (f.app g).len = f.len + g.len
  | .nil, _ => by simp [Fo.app, Fo.len]
  | .node ks k r, g => by rw [Fo.app, Fo.len, Fo.len, Fo.len_app r]; omega
theorem Fo.isNil_len (f : Fo) : f.isNil = true ↔ f.len = 0 := by cases f <;> simp [Fo.isNil, Fo.len]
theorem Fo.nil_of_len {f : Fo} (h : f.len = 0) : f = .nil := by cases f with | nil => rfl | node _ _ _ => simp [Fo.len] at h
def isTN (v : ND) : Bool := decide (v.2.1.length ≤ 4) && (if v.1 then decide (v.2.2.length = 0) else (decide (v.2.2.length = v.2.1.length + 1) && decide (2 ≤ v.2.2.length)))
def at' (L : List ND) (j : Int) : ND := L.getD j.toNat zND
/-- A place that may be climbed: it is there, was not met, and its node is one. -/
def inM (L : List ND) (m : List Bool) (j : Int) : Bool := decide (0 ≤ j) && decide (j < L.length) && !(m.getD j.toNat true)
def okN (L : List ND) (m : List Bool) (j : Int) : Bool := inM L m j && isTN (at' L j)
def cl (L : List ND) : Nat → List Bool → List Int → Option (Fo × List Bool)
  | _, m, [] => some (.nil, m)
  | 0, _, _ :: _ => none
  | n + 1, m, j :: js =>
    if okN L m j then
      match cl L n (m.set j.toNat true) (at' L j).2.2 with
      | none => none
      | some (f, m2) => if (at' L j).2.1 = [] then none else
        match cl L n m2 js with
        | none => none
        | some (g, m3) => some (.node (at' L j).2.1 f g, m3)
    else none
def cnt (m : List Bool) : Nat := m.count false
theorem cnt_set : ∀ (m : List Bool) (i : Nat), m.getD i true = false → cnt (m.set i true) + 1 = cnt m
  | [], i, h => by simp at h
  | b :: m, 0, h => by
    simp at h; subst h; simp [cnt]
  | b :: m, i + 1, h => by
    have := cnt_set m i (by simpa using h)
    unfold cnt at *
    rw [List.set_cons_succ, List.count_cons, List.count_cons]
    omega
theorem okN_met {L : List ND} {m : List Bool} {j : Int} (h : okN L m j = true) : m.getD j.toNat true = false := by
  simp only [okN, inM, Bool.and_eq_true, Bool.not_eq_true'] at h
  exact h.1.2
theorem cl_facts (L : List ND) : ∀ (n : Nat) (m : List Bool) (js : List Int) (f : Fo) (m' : List Bool), cl L n m js = some (f, m') → m'.length = m.length ∧ cnt m' ≤ cnt m ∧ f.len = js.length ∧ ∀ i, m.getD i true = true → m'.getD i true = true := by
  intro n
  induction n with
  | zero =>
    intro m js f m' h
    cases js with
    | nil => simp only [cl, Option.some.injEq, Prod.mk.injEq] at h; obtain ⟨rfl, rfl⟩ := h; exact ⟨rfl, Nat.le_refl _, rfl, fun _ h => h⟩
    | cons j js => simp [cl] at h
  | succ n ih =>
    intro m js f m' h
    cases js with
    | nil => simp only [cl, Option.some.injEq, Prod.mk.injEq] at h; obtain ⟨rfl, rfl⟩ := h; exact ⟨rfl, Nat.le_refl _, rfl, fun _ h => h⟩
    | cons j js =>
      rw [cl] at h
      by_cases ho : okN L m j = true
      · rw [if_pos ho] at h
        cases h1 : cl L n (m.set j.toNat true) (at' L j).2.2 with
        | none => rw [h1] at h; simp at h
        | some p =>
          obtain ⟨f1, m2⟩ := p
          rw [h1] at h
          dsimp only at h
          by_cases hk : (at' L j).2.1 = []
          · rw [if_pos hk] at h; simp at h
          · rw [if_neg hk] at h
            cases h2 : cl L n m2 js with
            | none => rw [h2] at h; simp at h
            | some p =>
              obtain ⟨g, m3⟩ := p
              rw [h2] at h
              simp only [Option.some.injEq, Prod.mk.injEq] at h
              obtain ⟨rfl, rfl⟩ := h
              have q1 := ih _ _ _ _ h1
              have q2 := ih _ _ _ _ h2
              have c := cnt_set m j.toNat (okN_met ho)
              refine ⟨by rw [q2.1, q1.1, List.length_set], by omega, by simp [Fo.len, q2.2.2.1], fun i hi => q2.2.2.2 i (q1.2.2.2 i ?_)⟩
              rw [List.getD_eq_getElem?_getD, List.getElem?_set]
              by_cases e : j.toNat = i
              · rw [if_pos e]; split <;> rfl
              · rw [if_neg e, ← List.getD_eq_getElem?_getD]; exact hi
      · rw [if_neg ho] at h; simp at h
theorem cl_fuel (L : List ND) : ∀ (n n' : Nat) (m : List Bool) (js : List Int), cnt m ≤ n → cnt m ≤ n' → cl L n m js = cl L n' m js := by
  intro n
  induction n with
  | zero =>
    intro n' m js h h'
    cases js with
    | nil => cases n' <;> rfl
    | cons j js =>
      have hb : ¬ okN L m j = true := fun ho => by have := cnt_set m j.toNat (okN_met ho); omega
      cases n' with
      | zero => rfl
      | succ k => rw [cl, cl, if_neg hb]
  | succ n ih =>
    intro n' m js h h'
    cases js with
    | nil => cases n' <;> rfl
    | cons j js =>
      by_cases ho : okN L m j = true
      · have c := cnt_set m j.toNat (okN_met ho)
        obtain ⟨k, rfl⟩ : ∃ k, n' = k + 1 := ⟨n' - 1, by omega⟩
        rw [cl, cl, if_pos ho, if_pos ho, ih k (m.set j.toNat true) (at' L j).2.2 (by omega) (by omega)]
        cases h1 : cl L k (m.set j.toNat true) (at' L j).2.2 with
        | none => rfl
        | some p =>
          obtain ⟨f1, m2⟩ := p
          have q := cl_facts L _ _ _ _ _ h1
          dsimp only
          rw [ih k m2 js (by omega) (by omega)]
      · cases n' with
        | zero => rw [cl, cl, if_neg ho]
        | succ k => rw [cl, cl, if_neg ho, if_neg ho]
def CL (L : List ND) (m : List Bool) (js : List Int) : Option (Fo × List Bool) := cl L (cnt m) m js
/-- One node with all below it. -/
def C1 (L : List ND) (m : List Bool) (j : Int) : Option (Fo × List Bool) := if okN L m j then CL L (m.set j.toNat true) (at' L j).2.2 else none
def joinC (ks : List ByteArray) (f : Fo) : Option (Fo × List Bool) → Option (Fo × List Bool)
  | none => none
  | some (g, m3) => some (.node ks f g, m3)
theorem CL_nil (L : List ND) (m : List Bool) : CL L m [] = some (.nil, m) := by unfold CL; cases cnt m <;> rfl
theorem CL_none {L : List ND} {m : List Bool} {j : Int} (js : List Int) (h : C1 L m j = none) : CL L m (j :: js) = none := by
  unfold C1 at h
  unfold CL
  cases hc : cnt m with
  | zero => rfl
  | succ n =>
    rw [cl]
    by_cases ho : okN L m j = true
    · rw [if_pos ho] at h ⊢
      have c := cnt_set m j.toNat (okN_met ho)
      rw [cl_fuel L n (cnt (m.set j.toNat true)) _ _ (by omega) (by omega)]
      unfold CL at h
      rw [h]
    · rw [if_neg ho]
theorem CL_some {L : List ND} {m : List Bool} {j : Int} {f : Fo} {m2 : List Bool} (js : List Int) (h : C1 L m j = some (f, m2)) : CL L m (j :: js) = if (at' L j).2.1 = [] then none else joinC (at' L j).2.1 f (CL L m2 js) := by
  unfold C1 at h
  by_cases ho : okN L m j = true
  · rw [if_pos ho] at h
    have c := cnt_set m j.toNat (okN_met ho)
    unfold CL at h
    have q := cl_facts L _ _ _ _ _ h
    unfold CL
    obtain ⟨n, hn⟩ : ∃ n, cnt m = n + 1 := ⟨cnt m - 1, by omega⟩
    rw [hn, cl, if_pos ho, cl_fuel L n (cnt (m.set j.toNat true)) _ _ (by omega) (by omega), h]
    dsimp only
    split
    · rfl
    · rw [cl_fuel L n (cnt m2) _ _ (by omega) (by omega)]
      cases cl L (cnt m2) m2 js with
      | none => rfl
      | some p => rfl
  · rw [if_neg ho] at h; cases h
theorem C1_ok {L : List ND} {m : List Bool} {j : Int} {f : Fo} {m2 : List Bool} (h : C1 L m j = some (f, m2)) : okN L m j = true := by
  unfold C1 at h
  by_cases ho : okN L m j = true
  · exact ho
  · rw [if_neg ho] at h; cases h
theorem C1_facts {L : List ND} {m : List Bool} {j : Int} {f : Fo} {m2 : List Bool} (h : C1 L m j = some (f, m2)) : m2.length = m.length ∧ cnt m2 < cnt m ∧ f.len = (at' L j).2.2.length ∧ (∀ i, m.getD i true = true → m2.getD i true = true) := by
  have ho := C1_ok h
  unfold C1 at h
  rw [if_pos ho] at h
  have q := cl_facts L _ _ _ _ _ h
  have c := cnt_set m j.toNat (okN_met ho)
  refine ⟨by rw [q.1, List.length_set], by omega, q.2.2.1, fun i hi => q.2.2.2 i ?_⟩
  rw [List.getD_eq_getElem?_getD, List.getElem?_set]
  by_cases e : j.toNat = i
  · rw [if_pos e]; split <;> rfl
  · rw [if_neg e, ← List.getD_eq_getElem?_getD]; exact hi
/-! ### What forests are -/
def Fo.wf : Fo → Prop
  | .nil => True
  | .node ks k r => ks ≠ [] ∧ ks.length ≤ 4 ∧ (k.len = 0 ∨ k.len = ks.length + 1) ∧ k.wf ∧ r.wf
theorem isTN_facts {v : ND} (h : isTN v = true) : v.2.1.length ≤ 4 ∧ (v.1 = true → v.2.2.length = 0) ∧ (v.1 = false → v.2.2.length = v.2.1.length + 1 ∧ 2 ≤ v.2.2.length) := by
  unfold isTN at h
  simp only [Bool.and_eq_true, decide_eq_true_eq] at h
  refine ⟨h.1, fun e => ?_, fun e => ?_⟩
  · rw [e] at h; simpa using h.2
  · rw [e] at h; simpa using h.2
theorem isTN_len {v : ND} (h : isTN v = true) : v.2.2.length = 0 ∨ v.2.2.length = v.2.1.length + 1 := by
  have q := isTN_facts h
  cases e : v.1
  · exact .inr (q.2.2 e).1
  · exact .inl (q.2.1 e)
theorem cl_wf (L : List ND) : ∀ (n : Nat) (m : List Bool) (js : List Int) (f : Fo) (m' : List Bool), cl L n m js = some (f, m') → f.wf := by
  intro n
  induction n with
  | zero =>
    intro m js f m' h
    cases js with
    | nil => simp only [cl, Option.some.injEq, Prod.mk.injEq] at h; obtain ⟨rfl, rfl⟩ := h; trivial
    | cons j js => simp [cl] at h
  | succ n ih =>
    intro m js f m' h
    cases js with
    | nil => simp only [cl, Option.some.injEq, Prod.mk.injEq] at h; obtain ⟨rfl, rfl⟩ := h; trivial
    | cons j js =>
      rw [cl] at h
      by_cases ho : okN L m j = true
      · rw [if_pos ho] at h
        cases h1 : cl L n (m.set j.toNat true) (at' L j).2.2 with
        | none => rw [h1] at h; simp at h
        | some p =>
          obtain ⟨f1, m2⟩ := p
          rw [h1] at h
          dsimp only at h
          by_cases hk : (at' L j).2.1 = []
          · rw [if_pos hk] at h; simp at h
          · rw [if_neg hk] at h
            cases h2 : cl L n m2 js with
            | none => rw [h2] at h; simp at h
            | some p =>
              obtain ⟨g, m3⟩ := p
              rw [h2] at h
              simp only [Option.some.injEq, Prod.mk.injEq] at h
              obtain ⟨rfl, rfl⟩ := h
              have hT : isTN (at' L j) = true := by unfold okN at ho; exact (Bool.and_eq_true _ _ ▸ ho).2
              have q := cl_facts L _ _ _ _ _ h1
              exact ⟨hk, (isTN_facts hT).1, by rw [q.2.2.1]; exact isTN_len hT, ih _ _ _ _ h1, ih _ _ _ _ h2⟩
      · rw [if_neg ho] at h; simp at h
theorem CL_wf {L : List ND} {m : List Bool} {js : List Int} {f : Fo} {m' : List Bool} (h : CL L m js = some (f, m')) : f.wf := cl_wf L _ _ _ _ _ h
theorem C1_wf {L : List ND} {m : List Bool} {j : Int} {f : Fo} {m2 : List Bool} (h : C1 L m j = some (f, m2)) : f.wf ∧ (at' L j).2.1.length ≤ 4 ∧ (f.len = 0 ∨ f.len = (at' L j).2.1.length + 1) := by
  have ho := C1_ok h
  have hl := (C1_facts h).2.2.1
  unfold C1 at h
  rw [if_pos ho] at h
  have hT : isTN (at' L j) = true := by unfold okN at ho; exact (Bool.and_eq_true _ _ ▸ ho).2
  exact ⟨CL_wf h, (isTN_facts hT).1, by rw [hl]; exact isTN_len hT⟩
def Fo.sz : Fo → Nat
  | .nil => 0
  | .node _ k r => k.sz + r.sz + 1
theorem cl_sz (L : List ND) : ∀ (n : Nat) (m : List Bool) (js : List Int) (f : Fo) (m' : List Bool), cl L n m js = some (f, m') → f.sz + cnt m' = cnt m := by
  intro n
  induction n with
  | zero =>
    intro m js f m' h
    cases js with
    | nil => simp only [cl, Option.some.injEq, Prod.mk.injEq] at h; obtain ⟨rfl, rfl⟩ := h; simp [Fo.sz]
    | cons j js => simp [cl] at h
  | succ n ih =>
    intro m js f m' h
    cases js with
    | nil => simp only [cl, Option.some.injEq, Prod.mk.injEq] at h; obtain ⟨rfl, rfl⟩ := h; simp [Fo.sz]
    | cons j js =>
      rw [cl] at h
      by_cases ho : okN L m j = true
      · rw [if_pos ho] at h
        cases h1 : cl L n (m.set j.toNat true) (at' L j).2.2 with
        | none => rw [h1] at h; simp at h
        | some p =>
          obtain ⟨f1, m2⟩ := p
          rw [h1] at h
          dsimp only at h
          by_cases hk : (at' L j).2.1 = []
          · rw [if_pos hk] at h; simp at h
          · rw [if_neg hk] at h
            cases h2 : cl L n m2 js with
            | none => rw [h2] at h; simp at h
            | some p =>
              obtain ⟨g, m3⟩ := p
              rw [h2] at h
              simp only [Option.some.injEq, Prod.mk.injEq] at h
              obtain ⟨rfl, rfl⟩ := h
              have q1 := ih _ _ _ _ h1
              have q2 := ih _ _ _ _ h2
              have c := cnt_set m j.toNat (okN_met ho)
              rw [Fo.sz]
              omega
      · rw [if_neg ho] at h; simp at h
theorem C1_sz {L : List ND} {m : List Bool} {j : Int} {f : Fo} {m2 : List Bool} (h : C1 L m j = some (f, m2)) : f.sz + 1 + cnt m2 = cnt m := by
  have ho := C1_ok h
  unfold C1 at h
  rw [if_pos ho] at h
  have q := cl_sz L _ _ _ _ _ h
  have c := cnt_set m j.toNat (okN_met ho)
  omega
/-! ### Levels, keys, signs -/
/-- All trees of a forest have their leaves at depth d. -/
def Fo.lv : Fo → Nat → Prop
  | .nil, _ => True
  | .node _ k r, d => ((k.isNil = true ∧ d = 1) ∨ (k.isNil = false ∧ ∃ e, d = e + 1 ∧ k.lv e)) ∧ r.lv d
def lvT (k : Fo) (d : Nat) : Prop := (k.isNil = true ∧ d = 1) ∨ (k.isNil = false ∧ ∃ e, d = e + 1 ∧ k.lv e)
theorem Fo.lv_node (ks : List ByteArray) (k r : Fo) (d : Nat) : (Fo.node ks k r).lv d ↔ lvT k d ∧ r.lv d := Iff.rfl
theorem Fo.lv_app : ∀ (f g : Fo) (d : Nat), (f.app g).lv d ↔ f.lv d ∧ g.lv d
  | .nil, g, d => by simp [Fo.app, Fo.lv]
  | .node ks k r, g, d => by rw [Fo.app, Fo.lv_node, Fo.lv_node, Fo.lv_app r g d, and_assoc]
theorem Fo.lv_uniq : ∀ (f : Fo) (d e : Nat), f.isNil = false → f.lv d → f.lv e → d = e
  | .nil, _, _, h, _, _ => by simp [Fo.isNil] at h
  | .node ks k r, d, e, _, h1, h2 => by
    rw [Fo.lv_node] at h1 h2
    rcases h1.1 with ⟨hk, rfl⟩ | ⟨hk, d', rfl, hd⟩
    · rcases h2.1 with ⟨_, rfl⟩ | ⟨hk', _⟩
      · rfl
      · rw [hk] at hk'; cases hk'
    · rcases h2.1 with ⟨hk', _⟩ | ⟨_, e', rfl, he⟩
      · rw [hk] at hk'; cases hk'
      · rw [Fo.lv_uniq k d' e' hk hd he]
theorem lvT_uniq {k : Fo} {d e : Nat} (h1 : lvT k d) (h2 : lvT k e) : d = e := Fo.lv_uniq (.node [] k .nil) d e rfl ⟨h1, trivial⟩ ⟨h2, trivial⟩
theorem lvT_pos {k : Fo} {d : Nat} (h : lvT k d) : 0 < d := by rcases h with ⟨_, rfl⟩ | ⟨_, e, rfl, _⟩ <;> omega
theorem Fo.lv_pos : ∀ {f : Fo} {d : Nat}, f.isNil = false → f.lv d → 0 < d
  | .nil, _, h, _ => by simp [Fo.isNil] at h
  | .node ks k r, d, _, h => lvT_pos h.1
/-- All keys of the leaves, in their order. -/
def Fo.all : Fo → List ByteArray
  | .nil => []
  | .node ks k r => (if k.isNil then ks else k.all) ++ r.all
def allT (ks : List ByteArray) (k : Fo) : List ByteArray := if k.isNil then ks else k.all
theorem Fo.all_node (ks : List ByteArray) (k r : Fo) : (Fo.node ks k r).all = allT ks k ++ r.all := rfl
theorem Fo.all_app : ∀ f g : Fo, (f.app g).all = f.all ++ g.all
  | .nil, g => by simp [Fo.app, Fo.all]
  | .node ks k r, g => by rw [Fo.app, Fo.all_node, Fo.all_node, Fo.all_app r g, List.append_assoc]
def zS : ByteArray := ⟨#[]⟩
/-- The least key of the first tree. -/
def Fo.least : Fo → ByteArray
  | .nil => zS
  | .node ks k _ => if k.isNil then ks.getD 0 zS else k.least
def leastT (ks : List ByteArray) (k : Fo) : ByteArray := if k.isNil then ks.getD 0 zS else k.least
theorem Fo.all_ne : ∀ f : Fo, f.wf → f.isNil = false → f.all ≠ []
  | .nil, _, h => by simp [Fo.isNil] at h
  | .node ks k r, h, _ => by
    rw [Fo.all_node, allT]
    cases hk : k.isNil
    · simp [Fo.all_ne k h.2.2.2.1 hk]
    · simp [h.1]
theorem allT_ne {ks : List ByteArray} {k : Fo} (h : k.wf) (hk : ks ≠ []) : allT ks k ≠ [] := by
  unfold allT
  cases e : k.isNil
  · simpa using Fo.all_ne k h e
  · simpa using hk
theorem getD_left {a b : List ByteArray} (h : a ≠ []) : (a ++ b).getD 0 zS = a.getD 0 zS := by cases a with | nil => exact absurd rfl h | cons x a => rfl
theorem Fo.least_all : ∀ f : Fo, f.wf → f.all.getD 0 zS = f.least
  | .nil, _ => rfl
  | .node ks k r, h => by
    rw [Fo.all_node, allT, Fo.least]
    cases hk : k.isNil
    · simp only [Bool.false_eq_true, if_false]
      rw [getD_left (Fo.all_ne k h.2.2.2.1 hk), Fo.least_all k h.2.2.2.1]
    · simp only [if_true]
      rw [getD_left h.1]
theorem leastT_all {ks : List ByteArray} {k : Fo} (h : k.wf) : (allT ks k).getD 0 zS = leastT ks k := by
  unfold allT leastT
  cases e : k.isNil
  · simpa using Fo.least_all k h
  · rfl
/-- Kids from the i-th on under the keys ks: each but the first has its key, and below them all is so, too. -/
def Fo.sg : Fo → List ByteArray → Nat → Prop
  | .nil, _, _ => True
  | .node ks k r, us, i => (0 < i → us.getD (i - 1) zS = leastT ks k) ∧ k.sg ks 0 ∧ r.sg us (i + 1)
theorem Fo.sg_app : ∀ (f g : Fo) (us : List ByteArray) (i : Nat), (f.app g).sg us i ↔ f.sg us i ∧ g.sg us (i + f.len)
  | .nil, g, us, i => by simp [Fo.app, Fo.sg, Fo.len]
  | .node ks k r, g, us, i => by
    rw [Fo.app, Fo.sg, Fo.sg, Fo.sg_app r g us (i + 1), Fo.len, show i + 1 + r.len = i + (r.len + 1) by omega]
    constructor
    · rintro ⟨a, b, c, d⟩; exact ⟨⟨a, b, c⟩, d⟩
    · rintro ⟨⟨a, b, c⟩, d⟩; exact ⟨a, b, c, d⟩
/-- Where a node stands, and what goes ahead: the forest so far, then the rest. -/
def preC (f : Fo) : Option (Fo × List Bool) → Option (Fo × List Bool)
  | none => none
  | some (g, m3) => some (f.app g, m3)
theorem preC_join (f : Fo) (ks : List ByteArray) (k : Fo) (o : Option (Fo × List Bool)) : preC f (joinC ks k o) = preC (f.app (.node ks k .nil)) o := by
  cases o with
  | none => rfl
  | some p => simp only [preC, joinC, Fo.app_assoc, Fo.app]
/-- Keys that rise, each of 1 to 30 bytes, 60 at most. -/
def kOK (s : ByteArray) : Bool := decide (1 ≤ s.size) && decide (s.size ≤ 30)
def KOK (K : List ByteArray) : Prop := K.length ≤ 60 ∧ (∀ i, i < K.length → kOK (K.getD i zS) = true) ∧ ∀ i, 0 < i → i < K.length → Op.bytesLess (K.getD (i - 1) zS).toList (K.getD i zS).toList = true
/-- A right tree: its root's keys, what is below, its depth. -/
structure TGood (L : List ND) (ro : Int) (ks : List ByteArray) (f : Fo) (d : Nat) : Prop where
  few : L.length ≤ 200
  climb : ∃ m', C1 L (List.replicate L.length false) ro = some (f, m') ∧ cnt m' = 0
  root : ks = (at' L ro).2.1
  lev : lvT f d
  sig : f.sg ks 0
  keys : KOK (allT ks f)
def TG (L : List ND) (ro : Int) : Prop := ∃ ks f d, TGood L ro ks f d

end Go.Proofs.Ythnggpjgajkaeaa
