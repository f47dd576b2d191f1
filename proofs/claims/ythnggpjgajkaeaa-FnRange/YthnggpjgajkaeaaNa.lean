/-
  Keys that rise: their order, a key's place among them, in which kid it can be.
-/
import Derived.Test.YthnggpjgajkaeaaMe
namespace Go.Proofs.Ythnggpjgajkaeaa
open Go Go.RowKit

theorem bl_trans : ∀ a b c : List UInt8, Op.bytesLess a b = true → Op.bytesLess b c = true → Op.bytesLess a c = true
  | _, _, [], _, h2 => by simp [Op.bytesLess] at h2
  | _, [], _ :: _, h1, _ => by simp [Op.bytesLess] at h1
  | [], _ :: _, _ :: _, _, _ => by simp [Op.bytesLess]
  | a :: x, b :: y, c :: z, h1, h2 => by
    simp only [Op.bytesLess, Bool.or_eq_true, Bool.and_eq_true, decide_eq_true_eq, beq_iff_eq] at h1 h2 ⊢
    rcases h1 with h1 | ⟨rfl, h1⟩
    · rcases h2 with h2 | ⟨rfl, h2⟩
      · left; rw [UInt8.lt_iff_toNat_lt] at *; omega
      · left; exact h1
    · rcases h2 with h2 | ⟨rfl, h2⟩
      · left; exact h2
      · right; exact ⟨rfl, bl_trans x y z h1 h2⟩
def lt' (a b : ByteArray) : Prop := Op.bytesLess a.toList b.toList = true
theorem lt'_irr (a : ByteArray) : ¬ lt' a a := by unfold lt'; rw [bl_irr]; simp
theorem lt'_trans {a b c : ByteArray} (h1 : lt' a b) (h2 : lt' b c) : lt' a c := bl_trans _ _ _ h1 h2
theorem lt'_tri {a b : ByteArray} (h1 : ¬ lt' a b) (h2 : a ≠ b) : lt' b a := by
  unfold lt' at *
  rw [bl_tri a.toList b.toList]
  have e : (a.toList == b.toList) = false := beq_eq_false_iff_ne.2 fun e => h2 (toList_inj e)
  have : Op.bytesLess a.toList b.toList = false := by simpa using h1
  rw [this, e]; rfl
def Rise (K : List ByteArray) : Prop := K.Pairwise lt'
theorem getD_get {K : List ByteArray} {i : Nat} (h : i < K.length) : K.getD i zS = K[i] := by rw [List.getD_eq_getElem?_getD, List.getElem?_eq_getElem h]; rfl
theorem rise_of_adj {K : List ByteArray} (h : ∀ i, 0 < i → i < K.length → lt' (K.getD (i - 1) zS) (K.getD i zS)) : Rise K := by
  have key : ∀ d i, i + d + 1 < K.length → lt' (K.getD i zS) (K.getD (i + d + 1) zS) := by
    intro d
    induction d with
    | zero => intro i hi; have := h (i + 1) (by omega) (by omega); rwa [Nat.add_sub_cancel] at this
    | succ d ih =>
      intro i hi
      have h1 := ih i (by omega)
      have h2 := h (i + (d + 1) + 1) (by omega) hi
      rw [Nat.add_sub_cancel] at h2
      exact lt'_trans h1 (by rw [show i + d + 1 = i + (d + 1) by omega]; exact h2)
  unfold Rise
  rw [List.pairwise_iff_getElem]
  intro i j hi hj hij
  have := key (j - i - 1) i (by omega)
  rw [show i + (j - i - 1) + 1 = j by omega, getD_get hi, getD_get hj] at this
  exact this
theorem KOK.rise {K : List ByteArray} (h : KOK K) : Rise K := rise_of_adj fun i h0 h1 => h.2.2 i h0 h1
theorem Rise.at {K : List ByteArray} (h : Rise K) {i j : Nat} (hij : i < j) (hj : j < K.length) : lt' (K.getD i zS) (K.getD j zS) := by
  rw [getD_get (by omega), getD_get hj]
  exact List.pairwise_iff_getElem.1 h i j (by omega) hj hij
/-- A key's place: how many come ahead of it. -/
def posK (key : ByteArray) : List ByteArray → Nat
  | [] => 0
  | x :: r => if Op.bytesLess x.toList key.toList then posK key r + 1 else 0
theorem posK_le (key : ByteArray) : ∀ K : List ByteArray, posK key K ≤ K.length
  | [] => Nat.le_refl _
  | x :: r => by unfold posK; have := posK_le key r; split <;> simp; omega
theorem posK_is {key : ByteArray} : ∀ {K : List ByteArray} {i : Nat}, i ≤ K.length → (∀ k, k < i → lt' (K.getD k zS) key) → (i < K.length → ¬ lt' (K.getD i zS) key) → posK key K = i
  | [], i, h, _, _ => by simp at h; subst h; rfl
  | x :: r, 0, _, _, h2 => by
    have := h2 (by simp)
    unfold posK
    rw [if_neg]
    simpa [lt'] using this
  | x :: r, i + 1, h, h1, h2 => by
    have h0 := h1 0 (by omega)
    unfold posK
    rw [if_pos (by simpa [lt'] using h0), posK_is (K := r) (i := i) (by simpa using h) (fun k hk => by have := h1 (k + 1) (by omega); simpa using this) (fun hi => by have := h2 (by simpa using hi); simpa using this)]
theorem posK_lt {key : ByteArray} : ∀ {K : List ByteArray} {k : Nat}, k < posK key K → lt' (K.getD k zS) key
  | [], k, h => by simp [posK] at h
  | x :: r, k, h => by
    unfold posK at h
    split at h
    · rename_i hx
      cases k with
      | zero => simpa [lt'] using hx
      | succ k => have := posK_lt (key := key) (K := r) (k := k) (by omega); simpa using this
    · omega
theorem posK_not {key : ByteArray} : ∀ {K : List ByteArray}, posK key K < K.length → ¬ lt' (K.getD (posK key K) zS) key
  | [], h => by simp [posK] at h
  | x :: r, h => by
    unfold posK at h ⊢
    split at h
    · rename_i hx
      rw [if_pos hx]
      have := posK_not (K := r) (by simpa using h)
      simpa using this
    · rename_i hx
      rw [if_neg hx]
      simpa [lt'] using hx
def inK (key : ByteArray) (K : List ByteArray) : Bool := decide (posK key K < K.length) && decide (K.getD (posK key K) zS = key)
theorem inK_iff {key : ByteArray} {K : List ByteArray} (h : Rise K) : inK key K = true ↔ key ∈ K := by
  unfold inK
  rw [Bool.and_eq_true, decide_eq_true_eq, decide_eq_true_eq]
  constructor
  · rintro ⟨h1, h2⟩
    rw [getD_get h1] at h2
    rw [← h2]; exact List.getElem_mem h1
  · intro hm
    obtain ⟨i, hi, e⟩ := List.getElem_of_mem hm
    have hp : posK key K = i := posK_is (by omega) (fun k hk => by have := h.at hk hi; rw [getD_get hi, e] at this; exact this) (fun _ => by rw [getD_get hi, e]; exact lt'_irr key)
    rw [hp]
    exact ⟨hi, by rw [getD_get hi, e]⟩
/-! ### Least keys -/
def Fo.leasts : Fo → List ByteArray
  | .nil => []
  | .node ks k r => leastT ks k :: r.leasts
theorem Fo.leasts_len : ∀ f : Fo, f.leasts.length = f.len
  | .nil => rfl
  | .node ks k r => by rw [Fo.leasts, List.length_cons, Fo.leasts_len r, Fo.len]
theorem cons_head {K : List ByteArray} (h : K ≠ []) : K = K.getD 0 zS :: K.tail := by cases K with | nil => exact absurd rfl h | cons a b => rfl
theorem allT_cons {ks : List ByteArray} {k : Fo} (h : k.wf) (hk : ks ≠ []) : allT ks k = leastT ks k :: (allT ks k).tail := by
  rw [← leastT_all h]; exact cons_head (allT_ne h hk)
theorem Fo.leasts_sub : ∀ f : Fo, f.wf → f.leasts.Sublist f.all
  | .nil, _ => List.Sublist.refl _
  | .node ks k r, h => by
    rw [Fo.leasts, Fo.all_node, allT_cons h.2.2.2.1 h.1, List.cons_append]
    exact ((Fo.leasts_sub r h.2.2.2.2).trans (List.sublist_append_right _ _)).cons_cons _
theorem Fo.sg_leasts : ∀ (f : Fo) (us : List ByteArray) (i : Nat), f.sg us (i + 1) → ∀ j, j < f.len → us.getD (i + j) zS = f.leasts.getD j zS
  | .nil, _, _, _, j, h => absurd h (by simp [Fo.len])
  | .node ks k r, us, i, hs, 0, _ => by have := hs.1 (by omega); simpa [Fo.leasts] using this
  | .node ks k r, us, i, hs, j + 1, h => by
    have := Fo.sg_leasts r us (i + 1) hs.2.2 j (by simpa [Fo.len] using h)
    rw [show i + (j + 1) = i + 1 + j by omega, this]
    rfl
theorem keys_leasts {ks : List ByteArray} {a : List ByteArray} {b r : Fo} (hs : (Fo.node a b r).sg ks 0) (hl : (Fo.node a b r).len = ks.length + 1) : ks = r.leasts := by
  have h := Fo.sg_leasts r ks 0 hs.2.2
  have hl' : ks.length = r.leasts.length := by rw [Fo.leasts_len]; rw [Fo.len] at hl; omega
  apply List.ext_getElem hl'
  intro i h1 h2
  have := h i (by rw [← Fo.leasts_len]; exact h2)
  rwa [Nat.zero_add, getD_get h1, getD_get h2] at this
theorem rise_keys {ks : List ByteArray} {f : Fo} (hw : f.wf) (hs : f.sg ks 0) (hl : f.len = ks.length + 1) (hr : Rise f.all) : Rise ks := by
  cases f with
  | nil => simp [Fo.len] at hl
  | node a b r =>
    rw [keys_leasts hs hl]
    rw [Fo.all_node] at hr
    exact (List.pairwise_append.1 hr).2.1.sublist (Fo.leasts_sub r hw.2.2.2.2)
theorem rise_tree {ks : List ByteArray} {f : Fo} (hw : f.wf) (hs : f.sg ks 0) (hl : f.len = 0 ∨ f.len = ks.length + 1) (hr : Rise (allT ks f)) : Rise ks := by
  cases hk : f.isNil
  · rw [allT_kids hk] at hr
    exact rise_keys hw hs (hl.resolve_left fun e => by rw [(Fo.isNil_len f).2 e] at hk; cases hk) hr
  · rw [allT_leaf hk] at hr; exact hr
/-- What lies ahead of a kid and behind it, in a row of kids whose keys part them. -/
theorem partsN {ks : List ByteArray} {g r : Fo} {us : List ByteArray} {l : Fo} (hw : (g.app (.node us l r)).wf) (hs : (g.app (.node us l r)).sg ks 0) (hl : (g.app (.node us l r)).len = ks.length + 1) (hr : Rise (g.app (.node us l r)).all) :
    Rise (allT us l) ∧ l.sg us 0 ∧ l.wf ∧ us ≠ [] ∧ us.length ≤ 4 ∧ (l.len = 0 ∨ l.len = us.length + 1) ∧ (∀ x ∈ allT us l, g.len < ks.length → lt' x (ks.getD g.len zS)) ∧ (∀ x ∈ allT us l, 0 < g.len → x = ks.getD (g.len - 1) zS ∨ lt' (ks.getD (g.len - 1) zS) x) ∧ (∀ x ∈ g.all, 0 < g.len → lt' x (ks.getD (g.len - 1) zS)) ∧ (∀ x ∈ r.all, g.len < ks.length → x = ks.getD g.len zS ∨ lt' (ks.getD g.len zS) x) ∧ (ks.length ≤ g.len → r.all = []) ∧ (g.len < ks.length → ks.getD g.len zS ∈ r.all) := by
  rw [Fo.wf_app] at hw
  rw [Fo.sg_app, Nat.zero_add] at hs
  rw [Fo.len_app, Fo.len] at hl
  rw [Fo.all_app, Fo.all_node] at hr
  obtain ⟨hwg, hne, h4, hll, hwl, hwr⟩ := hw
  obtain ⟨hsg, hs1, hsl, hsr⟩ := hs
  obtain ⟨_, hr2, hr3⟩ := List.pairwise_append.1 hr
  obtain ⟨hra, hrb, hrc⟩ := List.pairwise_append.1 hr2
  have hc := allT_cons (ks := us) hwl hne
  have hfirst : ∀ x ∈ allT us l, x = leastT us l ∨ lt' (leastT us l) x := fun x hx => by
    rw [hc] at hx hra
    rcases List.mem_cons.1 hx with h | h
    · exact .inl h
    · exact .inr ((List.pairwise_cons.1 hra).1 x h)
  have hmem : leastT us l ∈ allT us l := by rw [hc]; exact List.mem_cons_self
  have hrest : g.len < ks.length → ∃ K', r.all = ks.getD g.len zS :: K' := fun h => by
    cases r with
    | nil => simp only [Fo.len] at hl; omega
    | node a b q =>
      have e := hsr.1 (by omega)
      rw [Nat.add_sub_cancel] at e
      exact ⟨_, by rw [Fo.all_node, allT_cons hwr.2.2.2.1 hwr.1, List.cons_append, ← e]⟩
  refine ⟨hra, hsl, hwl, hne, h4, hll, fun x hx h => ?_, fun x hx h => ?_, fun x hx h => ?_, fun x hx h => ?_, fun h => ?_, fun h => ?_⟩
  · obtain ⟨K', e⟩ := hrest h
    exact hrc x hx _ (by rw [e]; exact List.mem_cons_self)
  · rw [hs1 h]; exact hfirst x hx
  · rw [hs1 h]; exact hr3 x hx _ (List.mem_append_left _ hmem)
  · obtain ⟨K', e⟩ := hrest h
    rw [e] at hx hrb
    rcases List.mem_cons.1 hx with h | h
    · exact .inl h
    · exact .inr ((List.pairwise_cons.1 hrb).1 x h)
  · have : r.len = 0 := by omega
    rw [Fo.nil_of_len this]; rfl
  · obtain ⟨K', e⟩ := hrest h
    rw [e]; exact List.mem_cons_self
theorem rise_mono {A B : List ByteArray} (h : Rise (A ++ B)) : Rise A ∧ Rise B := ⟨(List.pairwise_append.1 h).1, (List.pairwise_append.1 h).2.1⟩
/-- A key that is not among an inner node's can only be in one kid. -/
theorem find_kid {ks : List ByteArray} {g r : Fo} {us : List ByteArray} {l : Fo} {key : ByteArray} (hw : (g.app (.node us l r)).wf) (hs : (g.app (.node us l r)).sg ks 0) (hl : (g.app (.node us l r)).len = ks.length + 1) (hr : Rise (g.app (.node us l r)).all) (hg : g.len = posK key ks) (hk : inK key ks = false) : inK key (g.app (.node us l r)).all = inK key (allT us l) := by
  obtain ⟨hra, _, _, _, _, _, p1, p2, p3, p4, p5, _⟩ := partsN hw hs hl hr
  rw [Bool.eq_iff_iff, inK_iff hr, inK_iff hra, Fo.all_app, Fo.all_node, List.mem_append, List.mem_append]
  have hle := posK_le key ks
  constructor
  · rintro (h | h | h)
    · exfalso
      have h0 : 0 < g.len := by
        rcases Nat.eq_zero_or_pos g.len with e | e
        · rw [Fo.nil_of_len e] at h; cases h
        · exact e
      have q1 := p3 key h h0
      have q2 := posK_lt (K := ks) (key := key) (k := g.len - 1) (by omega)
      exact lt'_irr _ (lt'_trans q1 q2)
    · exact h
    · exfalso
      by_cases h0 : g.len < ks.length
      · have q := posK_not (K := ks) (key := key) (by omega)
        have hne : ks.getD (posK key ks) zS ≠ key := fun e => by
          unfold inK at hk
          rw [decide_eq_true (show posK key ks < ks.length by omega), decide_eq_true e] at hk
          cases hk
        have q2 := lt'_tri q hne
        rw [← hg] at q2
        rcases p4 key h h0 with e | e
        · rw [hg] at e; exact hne e.symm
        · exact lt'_irr _ (lt'_trans q2 e)
      · rw [p5 (by omega)] at h; cases h
  · exact fun h => .inr (.inl h)
theorem find_here {ks : List ByteArray} {f : Fo} {key : ByteArray} (hw : f.wf) (hs : f.sg ks 0) (hl : f.len = ks.length + 1) (hr : Rise f.all) (hk : inK key ks = true) : inK key f.all = true := by
  rw [inK_iff (rise_keys hw hs hl hr)] at hk
  rw [inK_iff hr]
  cases f with
  | nil => simp [Fo.len] at hl
  | node a b r =>
    rw [keys_leasts hs hl] at hk
    rw [Fo.all_node]
    exact List.mem_append_right _ ((Fo.leasts_sub r hw.2.2.2.2).subset hk)
theorem Fo.cut_at : ∀ (f : Fo) (n : Nat), n < f.len → ∃ (g : Fo) (us : List ByteArray) (l r : Fo), f = g.app (.node us l r) ∧ g.len = n
  | .nil, n, h => absurd h (by simp [Fo.len])
  | .node us l r, 0, _ => ⟨.nil, us, l, r, rfl, rfl⟩
  | .node us l r, n + 1, h => by
    obtain ⟨g, us', l', r', e, hg⟩ := Fo.cut_at r n (by simpa [Fo.len] using h)
    exact ⟨.node us l g, us', l', r', by rw [Fo.app, ← e], by rw [Fo.len, hg]⟩

end Go.Proofs.Ythnggpjgajkaeaa
