/-
  A tree of known keys in memory, and what each call of the program tells of it.
-/
import Derived.Test.YthnggpjgajkaeaaQv
import Derived.Test.YthnggpjgajkaeaaZQb
import Derived.Test.YthnggpjgajkaeaaZQc
import Derived.Test.YthnggpjgajkaeaaNf
import Derived.Test.YthnggpjgajkaeaaMl
import Derived.Test.YthnggpjgajkaeaaTc
namespace Go.Proofs.Ythnggpjgajkaeaa
open Go Go.RowKit
attribute [local go_sem ↓] Go.wp_at_zero Go.wp_at_succ
set_option linter.unusedVariables false

def insK (key : ByteArray) (K : List ByteArray) : List ByteArray := K.take (posK key K) ++ key :: K.drop (posK key K)
def delK (key : ByteArray) (K : List ByteArray) : List ByteArray := K.take (posK key K) ++ K.drop (posK key K + 1)
theorem insK_mem {key x : ByteArray} {K : List ByteArray} : x ∈ insK key K ↔ x = key ∨ x ∈ K := by
  have h : x ∈ K ↔ x ∈ K.take (posK key K) ∨ x ∈ K.drop (posK key K) := by rw [← List.mem_append, List.take_append_drop]
  unfold insK
  rw [List.mem_append, List.mem_cons, h]
  constructor
  · rintro (h | h | h)
    · exact .inr (.inl h)
    · exact .inl h
    · exact .inr (.inr h)
  · rintro (h | h | h)
    · exact .inr (.inl h)
    · exact .inl h
    · exact .inr (.inr h)
theorem insK_len (key : ByteArray) (K : List ByteArray) : (insK key K).length = K.length + 1 := by
  have := posK_le key K
  unfold insK
  rw [List.length_append, List.length_cons, List.length_take, List.length_drop]; omega
theorem insK_rise {key : ByteArray} {K : List ByteArray} (h : Rise K) (hk : key ∉ K) : Rise (insK key K) := by
  obtain ⟨p, hp⟩ : ∃ p, posK key K = p := ⟨_, rfl⟩
  have hT : ∀ x ∈ K.take p, lt' x key := by
    intro x hx
    obtain ⟨i, hi, e⟩ := List.mem_take_iff_getElem.1 hx
    have hi' : i < p ∧ i < K.length := by omega
    have := posK_lt (key := key) (K := K) (k := i) (by omega)
    rw [getD_get hi'.2] at this
    rw [← e]; exact this
  have hD : ∀ x ∈ K.drop p, lt' key x := by
    intro x hx
    obtain ⟨i, hi⟩ := List.mem_iff_getElem?.1 hx
    rw [List.getElem?_drop] at hi
    have hl := (List.getElem?_eq_some_iff.1 hi).1
    have hg : K.getD (p + i) zS = x := by rw [List.getD_eq_getElem?_getD, hi]; rfl
    have hpl : posK key K < K.length := by omega
    have h0 := posK_not hpl
    rw [hp] at h0
    have hx' : x ∈ K := by rw [← hg, getD_get hl]; exact List.getElem_mem _
    have hne : x ≠ key := fun e => hk (e ▸ hx')
    refine lt'_tri (fun hlt => ?_) hne
    by_cases e0 : i = 0
    · subst e0; rw [Nat.add_zero] at hg; rw [hg] at h0; exact h0 hlt
    · have h1 := h.at (i := p) (j := p + i) (by omega) hl
      rw [hg] at h1
      exact h0 (lt'_trans h1 hlt)
  have hKK : Rise (K.take p ++ K.drop p) := by rw [List.take_append_drop]; exact h
  obtain ⟨a, b, c⟩ := List.pairwise_append.1 hKK
  unfold insK
  rw [hp]
  refine List.pairwise_append.2 ⟨a, List.pairwise_cons.2 ⟨hD, b⟩, fun x hx y hy => ?_⟩
  rcases List.mem_cons.1 hy with rfl | hy
  · exact hT x hx
  · exact c x hx y hy
theorem delK_split {key : ByteArray} {K : List ByteArray} (h : Rise K) (hk : key ∈ K) : K = K.take (posK key K) ++ key :: K.drop (posK key K + 1) := by
  have h1 := (inK_iff h).2 hk
  unfold inK at h1
  rw [Bool.and_eq_true, decide_eq_true_eq, decide_eq_true_eq] at h1
  obtain ⟨h1, h2⟩ := h1
  rw [getD_get h1] at h2
  have := List.drop_eq_getElem_cons h1
  rw [h2] at this
  rw [← this, List.take_append_drop]
theorem delK_len {key : ByteArray} {K : List ByteArray} (h : Rise K) (hk : key ∈ K) : (delK key K).length + 1 = K.length := by
  have h1 := congrArg List.length (delK_split h hk)
  rw [List.length_append, List.length_cons] at h1
  unfold delK
  rw [List.length_append]; omega
theorem delK_rise {key : ByteArray} {K : List ByteArray} (h : Rise K) (hk : key ∈ K) : Rise (delK key K) := by
  have h1 : Rise (K.take (posK key K) ++ key :: K.drop (posK key K + 1)) := by rw [← delK_split h hk]; exact h
  obtain ⟨a, b, c⟩ := List.pairwise_append.1 h1
  exact List.pairwise_append.2 ⟨a, (List.pairwise_cons.1 b).2, fun x hx y hy => c x hx y (List.mem_cons_of_mem _ hy)⟩
theorem delK_mem {key x : ByteArray} {K : List ByteArray} (h : Rise K) (hk : key ∈ K) : x ∈ delK key K ↔ x ∈ K ∧ x ≠ key := by
  have h1 : Rise (K.take (posK key K) ++ key :: K.drop (posK key K + 1)) := by rw [← delK_split h hk]; exact h
  obtain ⟨a, b, c⟩ := List.pairwise_append.1 h1
  have hb := (List.pairwise_cons.1 b).1
  have e : x ∈ K ↔ x ∈ K.take (posK key K) ∨ x = key ∨ x ∈ K.drop (posK key K + 1) := by
    conv => lhs; rw [delK_split h hk]
    rw [List.mem_append, List.mem_cons]
  unfold delK
  rw [List.mem_append, e]
  constructor
  · rintro (hx | hx)
    · exact ⟨.inl hx, fun e => lt'_irr _ (e ▸ c x hx key (by simp))⟩
    · exact ⟨.inr (.inr hx), fun e => lt'_irr _ (e ▸ hb x hx)⟩
  · rintro ⟨hx | hx | hx, hn⟩
    · exact .inl hx
    · exact absurd hx hn
    · exact .inr hx
theorem rise_ext : ∀ {A B : List ByteArray}, Rise A → Rise B → (∀ x, x ∈ A ↔ x ∈ B) → A = B
  | [], [], _, _, _ => rfl
  | [], b :: B, _, _, h => absurd ((h b).2 (by simp)) (by simp)
  | a :: A, [], _, _, h => absurd ((h a).1 (by simp)) (by simp)
  | a :: A, b :: B, ha, hb, h => by
    obtain ⟨a1, a2⟩ := List.pairwise_cons.1 ha
    obtain ⟨b1, b2⟩ := List.pairwise_cons.1 hb
    have e : a = b := by
      rcases List.mem_cons.1 ((h a).1 (by simp)) with e | e
      · exact e
      · rcases List.mem_cons.1 ((h b).2 (by simp)) with e' | e'
        · exact e'.symm
        · exact absurd (lt'_trans (b1 a e) (a1 b e')) (lt'_irr _)
    subst e
    rw [rise_ext a2 b2 fun x => ?_]
    constructor
    · intro hx
      rcases List.mem_cons.1 ((h x).1 (List.mem_cons_of_mem _ hx)) with e | e
      · exact absurd (e ▸ a1 x hx) (lt'_irr _)
      · exact e
    · intro hx
      rcases List.mem_cons.1 ((h x).2 (List.mem_cons_of_mem _ hx)) with e | e
      · exact absurd (e ▸ b1 x hx) (lt'_irr _)
      · exact e
theorem KOK.of {K : List ByteArray} (h1 : K.length ≤ 60) (h2 : ∀ s ∈ K, kOK s = true) (h3 : Rise K) : KOK K :=
  ⟨h1, fun i hi => by rw [getD_get hi]; exact h2 _ (List.getElem_mem _), fun i h0 hi => h3.at (by omega) hi⟩
theorem KOK.mem {K : List ByteArray} (h : KOK K) : ∀ s ∈ K, kOK s = true := by
  intro s hs
  obtain ⟨i, hi⟩ := List.mem_iff_getElem?.1 hs
  have hl := (List.getElem?_eq_some_iff.1 hi).1
  have := h.2.1 i hl
  rw [List.getD_eq_getElem?_getD, hi] at this
  exact this
theorem kOK_sz {s : ByteArray} (h : kOK s = true) : s.size ≤ 30 := by unfold kOK at h; simp at h; omega
theorem KOK.ins {K : List ByteArray} {key : ByteArray} (h : KOK K) (hk : kOK key = true) (hn : key ∉ K) (h60 : K.length < 60) : KOK (insK key K) :=
  KOK.of (by rw [insK_len]; omega) (fun s hs => by rcases insK_mem.1 hs with rfl | hs; exact hk; exact h.mem s hs) (insK_rise h.rise hn)
theorem KOK.del {K : List ByteArray} {key : ByteArray} (h : KOK K) (hn : key ∈ K) : KOK (delK key K) :=
  KOK.of (by have := delK_len h.rise hn; have := h.1; omega) (fun s hs => h.mem s ((delK_mem h.rise hn).1 hs).1) (delK_rise h.rise hn)
/-- The tree of the right keys K lies in memory. -/
def TreeAt (w : World) (r : Int) (a : Option Addr) (n c : Nat) (K : List ByteArray) : Prop := ∃ vs : List TNode, vs.length = n ∧ r = ((n - 1 : Nat) : Int) ∧ RdN w a n vs ∧ n ≤ 1048576 ∧ (∀ i, i < n → FitN (vs.getD i zeroN)) ∧ (∀ i, i < n → (vs.getD i zeroN).ka = none → (vs.getD i zeroN).kc = 0) ∧ TreeIs K (vs.map saysN) ∧ KOK K
theorem TreeAt.below {w w' : World} {r : Int} {a : Option Addr} {n c : Nat} {K : List ByteArray} (h : TreeAt w r a n c K) (hb : Below w.heap.size w w') : TreeAt w' r a n c K := by
  obtain ⟨vs, h1, h2, h3, h4⟩ := h
  exact ⟨vs, h1, h2, h3.below hb, h4⟩
theorem TreeAt.keys {w : World} {r : Int} {a : Option Addr} {n c : Nat} {K : List ByteArray} (h : TreeAt w r a n c K) : KOK K := by obtain ⟨vs, h⟩ := h; exact h.2.2.2.2.2.2.2
theorem TreeAt.own {w : World} {B nc : Nat} {na : Option Addr} {bs : Nat → Nat} {us : List TNode} {K : List ByteArray} (ho : OwnTr w B na nc bs us) (hs : TreeIs K (us.map saysN)) (hk : KOK K) : TreeAt w ((us.length - 1 : Nat) : Int) na us.length nc K := by
  have hf : FitT us := FitT.of hs (by have := hk.1; omega) fun s hm => by have := kOK_sz (hk.mem s hm); omega
  exact ⟨us, rfl, rfl, ho.rd, by have := ho.few; omega, hf.fit ho, fun i hi => own_src (ho.lists.own i hi).1, hs, hk⟩
theorem TreeAt.len {w : World} {r r' : Int} {a a' : Option Addr} {n n' c c' : Nat} {K : List ByteArray} {w' : World} (h : TreeAt w r a n c K) (h' : TreeAt w' r' a' n' c' K) : n' = n := by
  obtain ⟨vs, h1, _, _, _, _, _, h2, _⟩ := h
  obtain ⟨us, k1, _, _, _, _, _, k2, _⟩ := h'
  have := congrArg List.length (h2.det k2)
  rw [List.length_map, List.length_map] at this
  omega
theorem OwnTr.agree {w W : World} {B nc : Nat} {na : Option Addr} {bs : Nat → Nat} {vs : List TNode} (h : OwnTr w B na nc bs vs) (hs : w.heap.size ≤ W.heap.size) (hk : ∀ k, B ≤ k → k < w.heap.size → W.heap[k]? = w.heap[k]?) : OwnTr W B na nc bs vs :=
  ⟨own_same h.own fun g e => by rw [ob_slice] at e; have := own_blk h.own g e; exact hk g this.1 this.2,
   ⟨h.lists.mono, fun i hi' => by
    have o := h.lists.own i hi'
    have l0 := h.lists.le (Nat.zero_le i) (by omega)
    have l1 := h.lists.le (show i + 1 ≤ vs.length by omega) (Nat.le_refl _)
    exact o.same fun g h1 h2 => hk g (by have := h.lo; omega) (by have := h.hi; omega)⟩, h.lo, Nat.le_trans h.hi hs, h.few⟩
/-- The tree lies in memory, and in blocks of S alone. -/
def TreeS (w : World) (S : Nat → Prop) (r : Int) (a : Option Addr) (n c : Nat) (K : List ByteArray) : Prop := ∀ W : World, w.heap.size ≤ W.heap.size → (∀ k, S k → k < w.heap.size → W.heap[k]? = w.heap[k]?) → TreeAt W r a n c K
theorem TreeS.at {w : World} {S : Nat → Prop} {r : Int} {a : Option Addr} {n c : Nat} {K : List ByteArray} (h : TreeS w S r a n c K) : TreeAt w r a n c K := h w (Nat.le_refl _) fun _ _ _ => rfl
theorem TreeS.mono {w : World} {S S' : Nat → Prop} {r : Int} {a : Option Addr} {n c : Nat} {K : List ByteArray} (h : TreeS w S r a n c K) (hs : ∀ k, k < w.heap.size → S k → S' k) : TreeS w S' r a n c K := fun W h1 h2 => h W h1 fun k hk hl => h2 k (hs k hl hk) hl
theorem TreeS.step {w w' : World} {S : Nat → Prop} {r : Int} {a : Option Addr} {n c : Nat} {K : List ByteArray} (h : TreeS w S r a n c K) (h1 : w.heap.size ≤ w'.heap.size) (h2 : ∀ k, S k → k < w.heap.size → w'.heap[k]? = w.heap[k]?) : TreeS w' S r a n c K := fun W k1 k2 => h W (Nat.le_trans h1 k1) fun k hk hl => (k2 k hk (Nat.lt_of_lt_of_le hl h1)).trans (h2 k hk hl)
theorem TreeS.below {w w' : World} {S : Nat → Prop} {r : Int} {a : Option Addr} {n c : Nat} {K : List ByteArray} (h : TreeS w S r a n c K) (hb : Below w.heap.size w w') : TreeS w' S r a n c K := h.step hb.size fun k _ hl => hb.block k hl
theorem TreeS.set {w : World} {S : Nat → Prop} {r : Int} {a : Option Addr} {n c g i : Nat} {v : Value} {K : List ByteArray} (h : TreeS w S r a n c K) (hg : ¬ S g) : TreeS (w.setCell ⟨g, i, none⟩ v) S r a n c K := h.step (by simp) fun k hk _ => Below.heap_setCell w ⟨g, i, none⟩ v k (fun e => hg (by have e' : k = g := e; rw [← e']; exact hk))
theorem TreeS.keys {w : World} {S : Nat → Prop} {r : Int} {a : Option Addr} {n c : Nat} {K : List ByteArray} (h : TreeS w S r a n c K) : KOK K := h.at.keys
theorem TreeS.own {w : World} {B nc : Nat} {na : Option Addr} {bs : Nat → Nat} {us : List TNode} {K : List ByteArray} (ho : OwnTr w B na nc bs us) (hs : TreeIs K (us.map saysN)) (hk : KOK K) : TreeS w (fun k => B ≤ k) ((us.length - 1 : Nat) : Int) na us.length nc K := fun W h1 h2 => TreeAt.own (ho.agree h1 fun k hk hl => h2 k hk hl) hs hk
theorem TreeAt.nb {w : World} {b c : Nat} (hn : NB w b true) : TreeAt w 0 (some ⟨b, 0, none⟩) 1 c [] := by
  obtain ⟨z0, z1, z2⟩ := hn.cells
  refine ⟨[⟨true, none, 0, 0, [], none, 0, 0, []⟩], rfl, rfl, ⟨rfl, fun _ => ⟨b, 0, rfl, hn.lt, fun k hk => ?_⟩, fun i hi => ?_⟩, by omega, fun i hi => ?_, fun i hi => ?_, ?_, ⟨by simp, fun i hi => absurd hi (by simp), fun i _ hi => absurd hi (by simp)⟩⟩
  · obtain rfl : k = 0 := by omega
    exact ⟨z0, z1, z2⟩
  · obtain rfl : i = 0 := by omega
    exact ⟨⟨rfl, fun h => absurd h (Nat.lt_irrefl 0)⟩, ⟨rfl, fun h => absurd h (Nat.lt_irrefl 0)⟩⟩
  · obtain rfl : i = 0 := by omega
    exact ⟨by show 0 ≤ 1048576; omega, by show 0 ≤ 1048576; omega, fun s hs => by cases hs⟩
  · obtain rfl : i = 0 := by omega
    intro _; rfl
  · exact ⟨[], [], Grown.one (by decide), by rfl, by rfl⟩
theorem rise_len {A B : List ByteArray} (ha : Rise A) (hb : Rise B) (h : ∀ x ∈ A, x ∈ B) : A.length ≤ B.length := by
  classical
  have e : A = B.filter (fun x => decide (x ∈ A)) := rise_ext ha (hb.filter _) fun x => by
    rw [List.mem_filter, decide_eq_true_eq]
    exact ⟨fun hx => ⟨h x hx, hx⟩, fun hx => hx.2⟩
  have := List.length_filter_le (fun x => decide (x ∈ A)) B
  rw [← e] at this
  exact this
theorem c_tI (r : Int) (a : Option Addr) (n c : Nat) (K : List ByteArray) (key : ByteArray) (w : World) (h : TreeAt w r a n c K) (hk : kOK key = true) (h60 : K.length < 60) :
    Calls Try.prog 15 #[.agg #[.int .i64 r, .slice a n c], .string key] w fun e w' => (∃ r' a' n' c' co, e = .returned (.tuple #[.agg #[.int .i64 r', .slice a' n' c'], .int .i64 co]) ∧ ((key ∈ K ∧ co = 9) ∨ (key ∉ K ∧ co = 0 ∧ TreeS w' (fun k => w.heap.size ≤ k) r' a' n' c' (insK key K)))) ∧ Below w.heap.size w w' := by
  obtain ⟨vs, hl, hr, h1, h2, h3, h4, h5, h6⟩ := h
  have hks := kOK_sz hk
  refine (c_implTI r a n c vs key w h1 h2 h3 h4 (by omega)).mono ?_
  rintro e w' ⟨⟨na, nc, us, bs, co, K', rfl, ho, hi, hs⟩, hb⟩
  obtain ⟨ks, f, d, g, he⟩ := h5.good h6
  rw [List.length_map, hl, ← hr] at g
  have h0 : AskC (vs.map saysN) r key 0 := .inr (.inr (.inr ⟨by omega, ⟨ks, f, d, g⟩, hk, rfl⟩))
  refine ⟨⟨_, na, _, nc, co, rfl, ?_⟩, hb⟩
  rcases hi with ⟨h', hne, _⟩ | ⟨_, ks', f', d', g', hi⟩
  · exact absurd (h0.uniq h') hne
  · have hK : allT ks' f' = K := by rw [← he]; first | exact g.keysUniq g' | exact (g.keysUniq g').symm
    rw [hK] at hi
    rcases hi with ⟨hin, rfl, _⟩ | ⟨_, hf, _⟩ | ⟨hin, _, rfl, rfl⟩
    · exact .inl ⟨(inK_iff h6.rise).1 hin, rfl⟩
    · omega
    · have hn : key ∉ K := fun hm => by rw [(inK_iff h6.rise).2 hm] at hin; cases hin
      exact .inr ⟨hn, rfl, TreeS.own ho hs (h6.ins hk hn h60)⟩
theorem c_tD (r : Int) (a : Option Addr) (n c : Nat) (K : List ByteArray) (key : ByteArray) (w : World) (h : TreeAt w r a n c K) (hm : key ∈ K) :
    Calls Try.prog 19 #[.agg #[.int .i64 r, .slice a n c], .string key] w fun e w' => (∃ r' a' n' c', e = .returned (.tuple #[.agg #[.int .i64 r', .slice a' n' c'], .int .i64 0]) ∧ TreeS w' (fun k => w.heap.size ≤ k) r' a' n' c' (delK key K)) ∧ Below w.heap.size w w' := by
  obtain ⟨vs, hl, hr, h1, h2, h3, h4, h5, h6⟩ := h
  have hk := h6.mem key hm
  have hks := kOK_sz hk
  refine (c_implTD r a n c vs key w h1 h2 h3 h4 (by omega)).mono ?_
  rintro e w' ⟨⟨na, nc, us, bs, co, K', rfl, ho, hi, hs⟩, hb⟩
  obtain ⟨ks, f, d, g, he⟩ := h5.good h6
  rw [List.length_map, hl, ← hr] at g
  have h0 : AskC (vs.map saysN) r key 0 := .inr (.inr (.inr ⟨by omega, ⟨ks, f, d, g⟩, hk, rfl⟩))
  rcases hi with ⟨h', hne, _⟩ | ⟨_, ks', f', d', g', hi⟩
  · exact absurd (h0.uniq h') hne
  · have hK : allT ks' f' = K := by rw [← he]; first | exact g.keysUniq g' | exact (g.keysUniq g').symm
    rw [hK] at hi
    rcases hi with ⟨hin, _⟩ | ⟨hin, rfl, rfl⟩
    · rw [(inK_iff h6.rise).2 hm] at hin; cases hin
    · exact ⟨⟨_, na, _, nc, rfl, TreeS.own ho hs (h6.del hm)⟩, hb⟩
theorem c_tF (r : Int) (a : Option Addr) (n c : Nat) (K : List ByteArray) (key : ByteArray) (w : World) (h : TreeAt w r a n c K) (hk : kOK key = true) :
    Calls Try.prog 20 #[.agg #[.int .i64 r, .slice a n c], .string key] w fun e w' => (∃ b : Bool, e = .returned (.tuple #[.bool b, .int .i64 0]) ∧ (b = true ↔ key ∈ K)) ∧ Below w.heap.size w w' := by
  obtain ⟨vs, hl, hr, h1, h2, h3, h4, h5, h6⟩ := h
  have hks := kOK_sz hk
  refine (c_implFind r a n c vs key w h1 h2 h3 h4 (by omega)).mono ?_
  rintro e w' ⟨⟨b, co, rfl, hi⟩, hb⟩
  obtain ⟨ks, f, d, g, he⟩ := h5.good h6
  rw [List.length_map, hl, ← hr] at g
  have h0 : AskC (vs.map saysN) r key 0 := .inr (.inr (.inr ⟨by omega, ⟨ks, f, d, g⟩, hk, rfl⟩))
  have hc : co = 0 := h0.uniq hi.1
  subst hc
  obtain ⟨ks', f', d', g', rfl⟩ := hi.2.2 rfl
  have hK : allT ks' f' = K := by rw [← he]; first | exact g.keysUniq g' | exact (g.keysUniq g').symm
  rw [hK]
  exact ⟨⟨_, rfl, inK_iff h6.rise⟩, hb⟩
theorem c_tR (r : Int) (a : Option Addr) (n c : Nat) (K : List ByteArray) (fr to : ByteArray) (w : World) (h : TreeAt w r a n c K) (hf : fr.size ≤ 65536) (ht : to.size ≤ 65536) :
    Calls Try.prog 16 #[.agg #[.int .i64 r, .slice a n c], .string fr, .string to] w fun e w' => (∃ a' c', e = .returned (.tuple #[.slice a' (rgL fr to K).length c', .int .i64 0]) ∧ RdV w' a' (rgL fr to K).length ((rgL fr to K).map Value.string)) ∧ Below w.heap.size w w' := by
  obtain ⟨vs, hl, hr, h1, h2, h3, h4, h5, h6⟩ := h
  refine (c_implRange r a n c vs fr to w h1 h2 h3 h4 (by omega) (by omega)).mono ?_
  rintro e w' ⟨a', m, cp, R, co, rfl, hRl, hm, ho, hi, hb⟩
  obtain ⟨ks, f, d, g, he⟩ := h5.good h6
  rw [List.length_map, hl, ← hr] at g
  rcases hi with ⟨h', _⟩ | ⟨_, _, h', _⟩ | ⟨_, _, ks', f', d', g', rfl, rfl⟩
  · omega
  · exact absurd ⟨ks, f, d, g⟩ h'
  · have hK : allT ks' f' = K := by rw [← he]; first | exact g.keysUniq g' | exact (g.keysUniq g').symm
    rw [hK] at hRl ho
    subst hRl
    exact ⟨⟨a', cp, rfl, RdV.own ho⟩, hb⟩
theorem c_tP (r : Int) (a : Option Addr) (n c : Nat) (K : List ByteArray) (w : World) (h : TreeAt w r a n c K) :
    Calls Try.prog 18 #[.agg #[.int .i64 r, .slice a n c]] w fun e w' => e = .returned (.bool true) ∧ Below w.heap.size w w' := by
  obtain ⟨vs, hl, hr, h1, h2, h3, h4, h5, h6⟩ := h
  refine (c_implOK r a n c vs w h1 h2 h3 h4).mono ?_
  rintro e w' ⟨⟨b, rfl, hb'⟩, hb⟩
  obtain ⟨ks, f, d, g, he⟩ := h5.good h6
  rw [List.length_map, hl, ← hr] at g
  rw [hb'.2 ⟨ks, f, d, g⟩]
  exact ⟨rfl, hb⟩
theorem c_tN (w : World) : Calls Try.prog 13 #[] w fun e w' => (∃ r a n c, e = .returned (.agg #[.int .i64 r, .slice a n c]) ∧ TreeS w' (fun k => k < w'.heap.size) r a n c []) ∧ Below w.heap.size w w' := by
  refine (c_implNT w).mono ?_
  rintro e w' ⟨⟨b, c, rfl, hn, _⟩, hb⟩
  refine ⟨⟨0, _, 1, c, rfl, fun W h1 h2 => TreeAt.nb ?_⟩, hb⟩
  have hl := hn.lt
  obtain ⟨cur, hx, h3⟩ := hn
  exact ⟨cur, (h2 b hl hl).trans hx, h3⟩
theorem c_tDp (r : Int) (a : Option Addr) (n c : Nat) (K : List ByteArray) (w : World) (h : TreeAt w r a n c K) :
    Calls Try.prog 22 #[.agg #[.int .i64 r, .slice a n c]] w fun e w' => (∃ (d : Nat) (L : List ND) (ks : List ByteArray) (f : Fo), e = .returned (.tuple #[.int .i64 d, .int .i64 0]) ∧ TGood L r ks f d ∧ allT ks f = K) ∧ Below w.heap.size w w' := by
  obtain ⟨vs, hl, hr, h1, h2, h3, h4, h5, h6⟩ := h
  refine (c_implDepth r a n c vs w h1 h2 h3 h4).mono ?_
  rintro e w' ⟨⟨d, co, rfl, hi⟩, hb⟩
  obtain ⟨ks, f, d', g, he⟩ := h5.good h6
  rw [List.length_map, hl, ← hr] at g
  rcases hi with ⟨ks', f', g', rfl⟩ | ⟨hn, _⟩
  · exact ⟨⟨d, _, ks', f', rfl, g', by rw [← he]; first | exact g.keysUniq g' | exact (g.keysUniq g').symm⟩, hb⟩
  · exact absurd ⟨ks, f, d', g⟩ hn

end Go.Proofs.Ythnggpjgajkaeaa
