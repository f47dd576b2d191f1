/-
  The program's treeOf.
-/
import Derived.Test.YthnggpjgajkaeaaQb
import Derived.Test.YthnggpjgajkaeaaPg
import Derived.Test.YthnggpjgajkaeaaTb
namespace Go.Proofs.Ythnggpjgajkaeaa
open Go Go.RowKit
attribute [local go_sem ↓] Go.wp_at_zero Go.wp_at_succ

theorem places_of : ∀ (LS : List Nat), LS.Nodup → ∃ π : Nat → Nat, ∀ j q, LS[j]? = some q → π q = j
  | [], _ => ⟨fun _ => 0, fun j q h => by simp at h⟩
  | x :: xs, h => by
    obtain ⟨h1, h2⟩ := List.nodup_cons.1 h
    obtain ⟨π, hπ⟩ := places_of xs h2
    refine ⟨fun q => if q = x then 0 else π q + 1, fun j q hq => ?_⟩
    cases j with
    | zero => simp at hq; simp [hq]
    | succ j =>
      simp at hq
      have hne : q ≠ x := fun e => h1 (e ▸ List.mem_of_getElem? hq)
      dsimp only
      rw [if_neg hne, hπ j q hq]
theorem map_places {LS : List Nat} {π : Nat → Nat} {k : Nat} (h : ∀ j q, LS[j]? = some q → π q = k + j) : LS.map π = List.range' k LS.length := by
  apply List.ext_getElem?
  intro i
  rw [List.getElem?_map]
  rcases Nat.lt_or_ge i LS.length with hi | hi
  · rw [List.getElem?_eq_getElem hi, List.getElem?_range' hi]
    show some (π _) = _
    rw [h i _ (List.getElem?_eq_getElem hi)]
    simp
  · rw [List.getElem?_eq_none hi, List.getElem?_eq_none (by rw [List.length_range']; exact hi)]
    rfl
/-- All levels, and what stands in them. -/
structure LvIn (w w2 : World) (keys : List ByteArray) (b off : Nat) (LS : List Nat) (F : List BR) : Prop where
  rd : RdS w2 (fun _ => True) (some ⟨b, off, none⟩) LS.length (LS.map ptr)
  pos : 0 < LS.length
  few : LS.length ≤ 122
  nodup : LS.Nodup
  new : ∀ q ∈ LS, w.heap.size ≤ q
  flat : ∃ z, FlL w2 z LS F
  low : ∀ (i : Nat) (v : BR), F[i]? = some v → ∀ u ∈ v.2, u ∈ LS.take i
  small : ∀ v ∈ F, v.1.length ≤ 61 ∧ v.2.length ≤ 5
  is : ∀ π : Nat → Nat, (∀ j q, LS[j]? = some q → π q = j) → TreeIs keys ((F.map (mapK π)).map sayB)
theorem leafL_map (π : Nat → Nat) (ds : List Nat) (keys : List ByteArray) : (leafL ds keys).map (mapK π) = leafL ds keys := by
  unfold leafL
  rw [List.map_map]
  rfl
theorem leafP_some {n : Nat} (h : 0 < n) : leafP n = parts 4 n n := by unfold leafP; rw [if_neg (by omega)]
theorem leafM_some {keys : List ByteArray} (h : 0 < keys.length) : leafM keys = upM (parts 4 keys.length keys.length) keys := by unfold leafM; rw [if_neg (by omega), leafP_some h]
theorem LvIn.of {w w1 w2 : World} {keys : List ByteArray} {ps qs : List Nat} {L : List BR} {b' off' c2 : Nat} (h0 : 0 < keys.length) (hn : keys.length ≤ 61) (hl : ps.length = (parts 4 keys.length keys.length).length) (hp : ∀ p ∈ ps, w.heap.size ≤ p) (hd : ps.Nodup) (hs : w.heap.size ≤ w1.heap.size) (fl : FlL w1 w.heap.size ps (leafL (parts 4 keys.length keys.length) keys)) (g : AnsG ps (leafM keys) w1 w2 b' off' c2 qs L) (hb : Below w1.heap.size w1 w2) : LvIn w w2 keys b' off' (ps ++ qs) (leavesL keys ++ L) := by
  have e1 : leavesL keys = leafL (parts 4 keys.length keys.length) keys := by unfold leavesL; rw [leafP_some h0]
  have e2 : (leavesL keys).length = ps.length := by rw [e1, leafL_len, hl]
  have hP := parts_len 4 keys.length keys.length
  have hPs := parts_some (most := 4) h0 (Nat.le_refl _)
  have hgl := g.is.lenL
  obtain ⟨z, fz⟩ := g.flat
  refine ⟨g.rd, by rw [List.length_append]; omega, by rw [List.length_append]; have := g.few; omega, ?_, ?_, ⟨max w.heap.size z, ?_⟩, ?_, ?_, ?_⟩
  · rw [List.nodup_append]
    refine ⟨hd, g.nodup, fun a ha b hb' e => ?_⟩
    have q1 := fl.lt a ha
    have q2 := g.new b hb'
    omega
  · intro q hq
    rcases List.mem_append.1 hq with h | h
    · exact hp q h
    · exact Nat.le_trans hs (g.new q h)
  · rw [e1]
    exact ((fl.below hb).up (Nat.le_max_left _ _)).join (fz.up (Nat.le_max_right _ _))
  · intro i v hv u hu
    rcases Nat.lt_or_ge i ps.length with hi | hi
    · rw [List.getElem?_append_left (by omega), e1] at hv
      obtain ⟨d, hdd⟩ : ∃ d, (parts 4 keys.length keys.length)[i]? = some d := ⟨_, List.getElem?_eq_getElem (by omega)⟩
      rw [leafL_at hdd] at hv
      cases hv
      cases hu
    · rw [List.getElem?_append_right (by omega), e2] at hv
      have := g.is.low _ v hv u hu
      rwa [show ps.length + (i - ps.length) = i by omega] at this
  · intro v hv
    rcases List.mem_append.1 hv with h | h
    · rw [e1] at h
      obtain ⟨i, hi⟩ := List.mem_iff_getElem?.1 h
      obtain ⟨d, hdd⟩ : ∃ d, (parts 4 keys.length keys.length)[i]? = some d := ⟨_, List.getElem?_eq_getElem (by have := (List.getElem?_eq_some_iff.1 hi).1; rwa [leafL_len] at this)⟩
      rw [leafL_at hdd] at hi
      cases hi
      refine ⟨?_, by simp⟩
      dsimp only
      rw [List.length_take, List.length_drop]
      omega
    · have := g.is.kids v h; omega
  · intro π hπ
    have m1 : ps.map π = List.range ps.length := by
      rw [List.range_eq_range']
      exact map_places fun j q h => by rw [Nat.zero_add]; exact hπ j q (by rw [List.getElem?_append_left (List.getElem?_eq_some_iff.1 h).1]; exact h)
    have m2 : qs.map π = List.range' ps.length qs.length := map_places fun j q h => hπ (ps.length + j) q (by rw [List.getElem?_append_right (by omega), Nat.add_sub_cancel_left]; exact h)
    have gm := g.is.map π
    rw [m1, m2, hl] at gm
    rw [← leafP_some h0] at gm
    refine ⟨_, L.map (mapK π), gm, by rw [List.length_map, hgl], ?_⟩
    rw [List.map_append]
    congr 2
    unfold leavesL
    exact leafL_map π _ _
theorem LvIn.empty {w w2 : World} {b off p z : Nat} (rd : RdS w2 (fun _ => True) (some ⟨b, off, none⟩) 1 [ptr p]) (hp : w.heap.size ≤ p) (hB : FlB w2 z p [] []) : LvIn w w2 [] b off [p] [([], [])] := by
  refine ⟨rd, by simp, by simp, by simp, by simpa using hp, ⟨z, rfl, ?_⟩, ?_, by simp, ?_⟩
  · intro i p' v h1 h2
    cases i with
    | zero => simp at h1 h2; subst h1; subst h2; exact hB
    | succ i => simp at h1
  · intro i v hv u hu
    cases i with
    | zero => simp at hv; subst hv; cases hu
    | succ i => simp at hv
  · intro π hπ
    exact ⟨[], [], .one rfl, rfl, rfl⟩
set_option maxRecDepth 100000 in
set_option maxHeartbeats 2000000 in
theorem c_leaves00 (a : Option Addr) (c : Nat) (w : World) :
    Calls Try.prog 63 #[.slice a 0 c] w fun e w' => e = .returned (.slice (some ⟨w.heap.size + 1, 0, none⟩) 1 1) ∧ w' = (w.alloc (.cells #[.slice none 0 0, .slice none 0 0, .int .i64 0] 88)).alloc (.cells #[.pointer (some ⟨w.heap.size, 0, none⟩)] 57) := by
  go_enter Try.func63, Try.ntmps63
  go_wp2
  go_ret
  exact ⟨by simp, rfl⟩
/-- What leavesOf hands on to grown. -/
def LvL (w w1 : World) (keys : List ByteArray) (a : Option Addr) (m c : Nat) : Prop :=
  (keys = [] ∧ a = some ⟨w.heap.size + 1, 0, none⟩ ∧ m = 1 ∧ Box w1 w.heap.size 88 #[.slice none 0 0, .slice none 0 0, .int .i64 0] ∧ Box w1 (w.heap.size + 1) 57 #[.pointer (some ⟨w.heap.size, 0, none⟩)]) ∨ (0 < keys.length ∧ keys.length ≤ 61 ∧ w.heap.size ≤ w1.heap.size ∧ ∃ ps : List Nat, m = (parts 4 keys.length keys.length).length ∧ w1.ownsRow w.heap.size 57 1 (.slice a m c) m (ps.map ptr) ∧ ps.length = m ∧ (∀ p ∈ ps, w.heap.size ≤ p) ∧ ps.Nodup ∧ FlL w1 w.heap.size ps (leafL (parts 4 keys.length keys.length) keys))
theorem c_lv1 (a : Option Addr) (n c : Nat) (keys : List ByteArray) (w : World) (hn : n ≤ 61) (hnc : n ≤ c) (hc : c ≤ 9223372036854775807) (hr : RdS w (NP w) a n (keys.map Value.string)) :
    Calls Try.prog 63 #[.slice a n c] w fun e w' => (∃ a' m c', e = .returned (.slice a' m c') ∧ LvL w w' keys a' m c') ∧ Below w.heap.size w w' := by
  have hkl : keys.length = n := by have := hr.1; rwa [List.length_map] at this
  rcases Nat.eq_zero_or_pos n with rfl | h0
  · refine (c_leaves00 a c w).mono ?_
    rintro e w' ⟨rfl, rfl⟩
    refine ⟨⟨_, _, _, rfl, .inl ⟨List.eq_nil_of_length_eq_zero hkl, rfl, rfl, (Box.new _ _ _).alloc _, Box.new2 _ _ _ _⟩⟩, ((Below.refl _ _).alloc (Nat.le_refl _) _).alloc (by simp) _⟩
  · obtain ⟨b, off, rfl, _⟩ := hr.2 h0
    subst hkl
    refine (c_leaves b off keys.length c keys w h0 hn hnc hc hr).mono ?_
    rintro e w' ⟨⟨a', c', ps, rfl, h1, h2, h3, h4, h5⟩, hb⟩
    exact ⟨⟨a', _, c', rfl, .inr ⟨h0, hn, hb.size, ps, rfl, h1, h2, h3, h4, h5⟩⟩, hb⟩
theorem c_lv2 (a : Option Addr) (m c : Nat) (keys : List ByteArray) (w w1 : World) (h : LvL w w1 keys a m c) :
    Calls Try.prog 62 #[.slice a m c] w1 fun e w' => (∃ b off c2 LS F, e = .returned (.slice (some ⟨b, off, none⟩) LS.length c2) ∧ LvIn w w' keys b off LS F) ∧ Below w1.heap.size w1 w' := by
  rcases h with ⟨rfl, rfl, rfl, h1, h2⟩ | ⟨h0, hn, hs, ps, rfl, ho, hl, hp, hd, hf⟩
  · refine (c_grown1 _ c w1).mono ?_
    rintro e w' ⟨rfl, rfl⟩
    refine ⟨⟨w.heap.size + 1, 0, c, [w.heap.size], _, rfl, LvIn.empty (z := 0) ?_ (Nat.le_refl _) ?_⟩, Below.refl _ _⟩
    · refine ⟨rfl, fun _ => ⟨_, _, rfl, h2.lt, trivial, fun i hi => ?_⟩⟩
      obtain rfl : i = 0 := by omega
      exact h2.cell 0
    · exact ⟨none, 0, none, 0, 0, h1, ⟨rfl, fun h => absurd h (by simp)⟩, fun _ => rfl, ⟨rfl, fun h => absurd h (by simp)⟩⟩
  · have hPs := parts_some (most := 4) h0 (Nat.le_refl keys.length)
    have hPl := parts_len 4 keys.length keys.length
    rcases own_form ho with ⟨e, _⟩ | ⟨b, cap, e, _, _⟩
    · simp only [Value.slice.injEq] at e; omega
    simp only [Value.slice.injEq] at e
    obtain ⟨rfl, _, rfl⟩ := e
    have hcap := own_cap ho
    have hrd := RdS.own ho (A := NP w1) (NP.own ho (by decide))
    rw [← hl] at hrd hcap ⊢
    refine (c_grown ps.length b 0 c w.heap.size ps (leafM keys) 0 w1 (Nat.le_refl _) (by omega) (by omega) (by omega) (by have := hcap.2; unfold maxLen at this; omega) hrd ⟨?_, ?_⟩).mono ?_
    · rw [leafM_some h0, upM_len, hl]
    · intro i p hi
      obtain ⟨d, hdd⟩ : ∃ d, (parts 4 keys.length keys.length)[i]? = some d := ⟨_, List.getElem?_eq_getElem (by have := (List.getElem?_eq_some_iff.1 hi).1; omega)⟩
      have hB := hf.2 i p _ hi (leafL_at hdd)
      have hdp := parts_pos (most := 4) (by omega) _ _ d (List.mem_of_getElem? hdd)
      have s1 := sum_at _ i d hdd
      rw [parts_sum (by omega) _ _ (Nat.le_refl _)] at s1
      have eM : (leafM keys).getD i ⟨#[]⟩ = ((keys.drop ((parts 4 keys.length keys.length).take i).sum).take d).getD 0 ⟨#[]⟩ := by
        rw [List.getD_eq_getElem?_getD, leafM_some h0, upM_at hdd]; rfl
      rw [eM]
      have hlen : ((keys.drop ((parts 4 keys.length keys.length).take i).sum).take d).length = d := by rw [List.length_take, List.length_drop]; omega
      generalize (keys.drop ((parts 4 keys.length keys.length).take i).sum).take d = cut at hB hlen ⊢
      cases cut with
      | nil => simp at hlen; omega
      | cons s ks => exact ⟨ks, hB⟩
    · rintro e w' ⟨⟨b', off', c', qs, L, rfl, g⟩, hb⟩
      exact ⟨⟨b', off', c', ps ++ qs, _, rfl, LvIn.of h0 hn hl hp hd hs hf g hb⟩, hb⟩

end Go.Proofs.Ythnggpjgajkaeaa
namespace Go.Proofs.Ythnggpjgajkaeaa
open Go Go.RowKit
attribute [local go_sem ↓] Go.wp_at_zero Go.wp_at_succ

theorem infoN : (Try.prog.info? 72).map (fun i => (i.zero, i.size, i.bytes)) = some (some (Value.agg #[.bool false, .slice none 0 0, .slice none 0 0]), 3, 56) := by kernel_rfl
theorem own_box {w : World} {base e size n m c g : Nat} {a : Option Addr} {xs : List Value} (h : w.ownsRow base e size (.slice a m c) n xs) (hg : ob a = some g) : ∃ cs, Box w g e cs := by
  rcases h.2 with ⟨h1, _⟩ | ⟨g', cp, cur, h1, _, h3, _⟩
  · cases h1; cases hg
  · cases h1; cases hg; exact ⟨cur, h3⟩
/-- Blocks of strings and of ints stay. -/
def Keep93 (w W : World) : Prop := ∀ g cs, (Box w g 9 cs ∨ Box w g 3 cs) → W.heap[g]? = w.heap[g]?
theorem OwnN1.typed {w W : World} {B E : Nat} {v : TNode} (h : OwnN1 w B E v) (hT : Keep93 w W) : OwnN1 W B E v :=
  ⟨own_same h.1 fun g e => by rw [ob_slice] at e; obtain ⟨cs, x⟩ := own_box h.1 e; exact hT g cs (.inl x), own_same h.2.1 fun g e => by rw [ob_slice] at e; obtain ⟨cs, x⟩ := own_box h.2.1 e; exact hT g cs (.inr x), h.2.2⟩
theorem OwnB.typed {w W : World} {bs : Nat → Nat} {gs : List TNode} (h : OwnB w bs gs) (hT : Keep93 w W) : OwnB W bs gs := ⟨h.mono, fun i hi => (h.own i hi).typed hT⟩
theorem OwnB.push {W : World} {bs : Nat → Nat} {gs : List TNode} {new : TNode} {lo E : Nat} (h : OwnB W bs gs) (hk : bs gs.length ≤ lo) (og : OwnN1 W lo E new) (hE : lo ≤ E) : ∃ bs' : Nat → Nat, OwnB W bs' (gs ++ [new]) ∧ bs' 0 = (if gs.length = 0 then bs 0 else bs 0) ∧ bs' (gs.length + 1) = E := by
  refine ⟨fun j => if j ≤ gs.length then bs j else E, ⟨fun i hi => ?_, fun i hi => ?_⟩, by simp, by dsimp only; rw [if_neg (by omega)]⟩
  · rw [List.length_append, List.length_singleton] at hi
    by_cases e : i < gs.length
    · rw [if_pos (by omega), if_pos (by omega)]; exact h.mono i e
    · have e' : i = gs.length := by omega
      rw [if_pos (by omega), if_neg (by omega), e']; omega
  · rw [List.length_append, List.length_singleton] at hi
    rw [getD_appN]
    by_cases e : i < gs.length
    · rw [if_pos e, if_pos (by omega), if_pos (by omega)]
      exact h.own i e
    · have e' : i = gs.length := by omega
      rw [if_neg e, if_pos e', if_pos (by omega), if_neg (by omega), e']
      exact og.wide hk (Nat.le_refl _)
theorem Keep93.below {w W : World} (h : Below w.heap.size w W) : Keep93 w W := fun g cs x => h.block g (by rcases x with x | x <;> exact x.lt)
theorem Keep93.trans {a b c : World} (h : Keep93 a b) (k : Keep93 b c) : Keep93 a c := fun g cs x => by
  have e := h g cs x
  exact (k g cs (by unfold Box at *; rw [e]; exact x)).trans e
theorem Keep93.set {w : World} {g i : Nat} {t : TypeId} {c : Array Value} {v : Value} (hb : Box w g t c) (h9 : t ≠ 9 := by decide) (h3 : t ≠ 3 := by decide) : Keep93 w (w.setCell ⟨g, i, none⟩ v) := fun k cs x => Below.heap_setCell w _ _ k (fun e => by
  change k = g at e
  subst e
  unfold Box at *
  rw [hb] at x
  simp only [Option.some.injEq, Obj.cells.injEq] at x
  rcases x with x | x
  · exact h9 x.2.1
  · exact h3 x.2.1)
theorem Keep93.grown {w W : World} {base size n m c : Nat} {t : TypeId} {a : Option Addr} {xs : List Value} (ho : w.ownsRow base t size (.slice a m c) n xs) (hg : w.grownBy W (ob a)) (h9 : t ≠ 9 := by decide) (h3 : t ≠ 3 := by decide) : Keep93 w W := fun k cs x => hg.block k (by rcases x with x | x <;> exact x.lt) (fun e => by
  obtain ⟨cs', y⟩ := own_box ho e.symm
  unfold Box at *
  rw [y] at x
  simp only [Option.some.injEq, Obj.cells.injEq] at x
  rcases x with x | x
  · exact h9 x.2.1
  · exact h3 x.2.1)
theorem rd_in {w : World} {A : Nat → Prop} {b off n : Nat} {t : TypeId} {c : Array Value} {xs : List Value} {u : Value} (h : RdS w A (some ⟨b, off, none⟩) n xs) (h0 : xs[0]? = some u) (hb : Box w b t c) : u ∈ c.toList := by
  have hn : 0 < n := by rw [← h.1]; exact (List.getElem?_eq_some_iff.1 h0).1
  obtain ⟨b', off', e, _, _, hc⟩ := h.2 hn
  cases e
  have := hc 0 hn
  rw [hb.cell, h0] at this
  exact List.mem_of_getElem? (by rw [Array.getElem?_toList]; exact this)
/-- The branches' places are set, up to the k-th. -/
structure Plc (w2 wr : World) (tb : Nat) (LS : List Nat) (k : Nat) : Prop where
  size : w2.heap.size ≤ wr.heap.size
  same : ∀ g, g < w2.heap.size → g ∉ LS → g ≠ tb → wr.heap[g]? = w2.heap[g]?
  box : ∀ (j p : Nat), LS[j]? = some p → ∀ c, Box w2 p 88 c → Box wr p 88 (if j < k then c.setIfInBounds 2 (.int .i64 (j : Int)) else c)
theorem Plc.start (w2 : World) (tb : Nat) (LS : List Nat) : Plc w2 w2 tb LS 0 := ⟨Nat.le_refl _, fun _ _ _ _ => rfl, fun j p _ c h => by rw [if_neg (by omega)]; exact h⟩
theorem Plc.below {w2 wr W : World} {tb k : Nat} {LS : List Nat} (h : Plc w2 wr tb LS k) (hb : Below wr.heap.size wr W) : Plc w2 W tb LS k :=
  ⟨Nat.le_trans h.size hb.size, fun g hg h1 h2 => (hb.block g (Nat.lt_of_lt_of_le hg h.size)).trans (h.same g hg h1 h2), fun j p hj c hc => (h.box j p hj c hc).belowS hb⟩
theorem Plc.grown {w2 wr W : World} {tb k : Nat} {LS : List Nat} {row : Option Nat} (h : Plc w2 wr tb LS k) (hl : ∀ p ∈ LS, p < w2.heap.size) (hb : wr.grownBy W row) (hr : ∀ g, row = some g → w2.heap.size ≤ g) : Plc w2 W tb LS k :=
  ⟨Nat.le_trans h.size hb.size, fun g hg h1 h2 => (hb.block g (Nat.lt_of_lt_of_le hg h.size) (fun e => by have := hr g e.symm; omega)).trans (h.same g hg h1 h2), fun j p hj c hc => (h.box j p hj c hc).grown hb (fun e => by have := hr p e; have := hl p (List.mem_of_getElem? hj); omega)⟩
theorem Plc.setTb {w2 wr : World} {tb k i : Nat} {LS : List Nat} {v : Value} (h : Plc w2 wr tb LS k) (ht : tb ∉ LS) : Plc w2 (wr.setCell ⟨tb, i, none⟩ v) tb LS k :=
  ⟨by have := h.size; simpa using this, fun g hg h1 h2 => (Below.heap_setCell _ _ _ g h2).trans (h.same g hg h1 h2), fun j p hj c hc => (h.box j p hj c hc).setOther _ _ (fun e => ht (by change p = tb at e; rw [← e]; exact List.mem_of_getElem? hj))⟩
theorem Plc.place {w2 wr : World} {tb k p : Nat} {LS : List Nat} (h : Plc w2 wr tb LS k) (hd : LS.Nodup) (hp : LS[k]? = some p) : Plc w2 (wr.setCell ⟨p, 2, none⟩ (.int .i64 (k : Int))) tb LS (k + 1) := by
  refine ⟨by have := h.size; simpa using this, fun g hg h1 h2 => (Below.heap_setCell _ _ _ g (fun e => h1 (by change g = p at e; rw [e]; exact List.mem_of_getElem? hp))).trans (h.same g hg h1 h2), fun j q hj c hc => ?_⟩
  by_cases e : j = k
  · subst e
    obtain rfl : p = q := Option.some.inj (hp.symm.trans hj)
    have := h.box j p hj c hc
    rw [if_neg (by omega)] at this
    rw [if_pos (by omega)]
    exact this.set 2 _
  · have hne : q ≠ p := fun ex => e (by
      obtain ⟨π, hπ⟩ := places_of LS hd
      have e1 := hπ j q hj
      have e2 := hπ k p hp
      rw [ex] at e1; omega)
    have := (h.box j q hj c hc).setOther ⟨p, 2, none⟩ (.int .i64 (k : Int)) hne
    by_cases h1 : j < k
    · rw [if_pos h1] at this; rw [if_pos (by omega)]; exact this
    · rw [if_neg h1] at this; rw [if_neg (by omega)]; exact this
theorem FlL.mem {w : World} {z : Nat} {ps : List Nat} {L : List BR} (h : FlL w z ps L) {p : Nat} (hp : p ∈ ps) : ∃ a m c a' m' c' pl, Box w p 88 #[.slice a m c, .slice a' m' c', .int .i64 pl] := by
  obtain ⟨i, hi⟩ := List.mem_iff_getElem?.1 hp
  have hl : i < L.length := by rw [← h.1]; exact (List.getElem?_eq_some_iff.1 hi).1
  obtain ⟨ka, kc, ia, ic, pl, x, _⟩ := h.2 i p _ hi (List.getElem?_eq_getElem hl)
  exact ⟨_, _, _, _, _, _, _, x⟩
/-- A slice of strings or of places is in no branch, and not in the tree that is made. -/
theorem rd_off {w : World} {A : Nat → Prop} {z tb b off n : Nat} {ps : List Nat} {L : List BR} {xs : List Value} {u : Value} {ro : Int} {na : Option Addr} {nn nc : Nat} (h : RdS w A (some ⟨b, off, none⟩) n xs) (h0 : xs[0]? = some u) (hu : (∃ s, u = .string s) ∨ ∃ q, u = ptr q) (hf : FlL w z ps L) (ht : Box w tb 27 #[.int .i64 ro, .slice na nn nc]) : b ∉ ps ∧ b ≠ tb := by
  constructor
  · intro hp
    obtain ⟨a, m, c, a', m', c', pl, x⟩ := hf.mem hp
    have := rd_in h h0 x
    simp at this
    rcases hu with ⟨s, rfl⟩ | ⟨q, rfl⟩ <;> simp [ptr] at this
  · rintro rfl
    have := rd_in h h0 ht
    simp at this
    rcases hu with ⟨s, rfl⟩ | ⟨q, rfl⟩ <;> simp [ptr] at this
theorem Plc.rd {w2 wr : World} {A : Nat → Prop} {z tb k n : Nat} {a : Option Addr} {LS : List Nat} {F : List BR} {xs : List Value} {ro : Int} {na : Option Addr} {nn nc : Nat} (h : Plc w2 wr tb LS k) (hr : RdS w2 A a n xs) (hu : ∀ u ∈ xs, (∃ s, u = .string s) ∨ ∃ q, u = ptr q) (hf : FlL w2 z LS F) (ht : Box w2 tb 27 #[.int .i64 ro, .slice na nn nc]) : RdV wr a n xs := by
  refine ⟨hr.1, fun hn => ?_⟩
  obtain ⟨b, off, rfl, hl, _, hc⟩ := hr.2 hn
  have hx : xs[0]? = some (xs[0]'(by rw [hr.1]; exact hn)) := List.getElem?_eq_getElem _
  have ho := rd_off hr hx (hu _ (List.getElem_mem _)) hf ht
  exact ⟨b, off, rfl, Nat.lt_of_lt_of_le hl h.size, fun i hi => (cell_same (p := ⟨b, off + i, none⟩) (h.same b hl ho.1 ho.2)).trans (hc i hi)⟩
theorem NodeIn.below {w W : World} {p : Nat} {ks : List ByteArray} {us : List Nat} {π : Nat → Nat} (h : NodeIn w p ks us π) (hb : Below w.heap.size w W) : NodeIn W p ks us π := by
  obtain ⟨h1, h2, ⟨ka, kc, ia, ic, pl, x, r1, e, r2⟩, h4⟩ := h
  exact ⟨h1, h2, ⟨ka, kc, ia, ic, pl, x.belowS hb, r1.below hb, e, r2.below hb⟩, fun u hu => far6 hb (h4 u hu)⟩
theorem node_in {w2 wr : World} {z tb k p : Nat} {LS : List Nat} {F : List BR} {v : BR} {π : Nat → Nat} {ro : Int} {na : Option Addr} {nn nc : Nat} (h : Plc w2 wr tb LS (k + 1)) (hf : FlL w2 z LS F) (ht : Box w2 tb 27 #[.int .i64 ro, .slice na nn nc]) (hp : LS[k]? = some p) (hv : F[k]? = some v) (hlow : ∀ u ∈ v.2, u ∈ LS.take k) (hs : v.1.length ≤ 61 ∧ v.2.length ≤ 5) (hπ : ∀ j q, LS[j]? = some q → π q = j) : NodeIn wr p v.1 v.2 π := by
  obtain ⟨ka, kc, ia, ic, pl, x, r1, e, r2⟩ := hf.2 k p v hp hv
  refine ⟨hs.2, by omega, ⟨ka, kc, ia, ic, k, ?_, h.rd r1 (fun u hu => .inl ?_) hf ht, e, h.rd r2 (fun u hu => .inr ?_) hf ht⟩, fun u hu => ?_⟩
  · have := h.box k p hp _ x
    rw [if_pos (by omega)] at this
    exact this
  · obtain ⟨s, _, rfl⟩ := List.mem_map.1 hu; exact ⟨s, rfl⟩
  · obtain ⟨s, _, rfl⟩ := List.mem_map.1 hu; exact ⟨s, rfl⟩
  · obtain ⟨j, hj⟩ := List.mem_iff_getElem?.1 (hlow u hu)
    have hjk : j < k := by have := (List.getElem?_eq_some_iff.1 hj).1; rw [List.length_take] at this; omega
    rw [List.getElem?_take_of_lt hjk] at hj
    obtain ⟨a, m, c, a', m', c', pl', y⟩ := hf.mem (List.mem_of_getElem? hj)
    have := h.box j u hj _ y
    rw [if_pos (by omega)] at this
    rw [this.cell, hπ j u hj]
    rfl
theorem newsV {w : World} {g : Nat} {v : TNode} (h : Box w g 72 #[.bool v.lf, .slice v.ka v.kn v.kc, .slice v.ia v.im v.ic]) : ∀ ad, some (⟨g, 0, none⟩ : Addr) = some ad → ∀ j u, (cN v)[j]? = some u → w.cell? (ad.add j) = some u := by
  intro ad ea j u hj
  cases ea
  rw [addr_add, Nat.zero_add, h.cell j, ← hj]
  simp [cN]
theorem oneV (v : TNode) : ∀ u ∈ cN v, u.oneCell' = true := by
  intro u hu
  simp [cN] at hu
  rcases hu with rfl | rfl | rfl <;> rfl
theorem cellsN_app (vs : List TNode) (v : TNode) : cellsN (vs ++ [v]) = cellsN vs ++ cN v := by unfold cellsN; rw [List.flatMap_append]; simp
/-- A tree that is the call's own. -/
structure OwnTr (w : World) (B : Nat) (na : Option Addr) (nc : Nat) (bs : Nat → Nat) (vs : List TNode) : Prop where
  own : w.ownsRow B 72 3 (.slice na vs.length nc) vs.length (cellsN vs)
  lists : OwnB w bs vs
  lo : B ≤ bs 0
  hi : bs vs.length ≤ w.heap.size
  few : vs.length ≤ 200
def AnsTr (w : World) (keys : List ByteArray) (e : Ending) (w' : World) : Prop := ∃ na nc vs bs, e = .returned (.agg #[.int .i64 ((vs.length - 1 : Nat) : Int), .slice na vs.length nc]) ∧ OwnTr w' w.heap.size na nc bs vs ∧ TreeIs keys (vs.map saysN)

end Go.Proofs.Ythnggpjgajkaeaa
namespace Go.Proofs.Ythnggpjgajkaeaa
open Go Go.RowKit
attribute [local go_sem ↓] Go.wp_at_zero Go.wp_at_succ

set_option maxRecDepth 100000 in
set_option maxHeartbeats 8000000 in
theorem c_treeOf (a : Option Addr) (n c : Nat) (keys : List ByteArray) (w : World) (hn : n ≤ 61) (hnc : n ≤ c) (hc : c ≤ 9223372036854775807) (hr : RdS w (NP w) a n (keys.map Value.string)) :
    Calls Try.prog 39 #[.slice a n c] w fun e w' => AnsTr w keys e w' ∧ Below w.heap.size w w' := by
  obtain ⟨iN, hi, hz0, hz1, hz2⟩ := info_parts infoN
  have HI : Hid (Try.prog.info? 72 = some iN) := hi
  have HZ0 : Hid (iN.zero = some (Value.agg #[.bool false, .slice none 0 0, .slice none 0 0])) := hz0
  have HZ1 : Hid (iN.size = 3) := hz1
  have HZ2 : Hid (iN.bytes = 56) := hz2
  clear hi hz0 hz1 hz2
  obtain ⟨V0, hV0⟩ : ∃ Q, w.alloc (.cells #[.int .i64 0, .slice none 0 0] 27) = Q := ⟨_, rfl⟩
  have bV0 : Below w.heap.size w V0 := by rw [← hV0]; exact (Below.refl _ _).alloc (Nat.le_refl _) _
  have XV0 : Hid (Box V0 w.heap.size 27 #[.int .i64 0, .slice none 0 0]) := by unfold Hid; rw [← hV0]; exact Box.new _ _ _
  have S0 : V0.heap.size = w.heap.size + 1 := by rw [← hV0]; simp
  obtain ⟨V, hV⟩ : ∃ Q, V0.alloc (.cells #[.int .i64 0, .slice none 0 0] 27) = Q := ⟨_, rfl⟩
  have bV : Below V0.heap.size V0 V := by rw [← hV]; exact (Below.refl _ _).alloc (Nat.le_refl _) _
  have XV : Hid (Box V (w.heap.size + 1) 27 #[.int .i64 0, .slice none 0 0]) := by unfold Hid; rw [← hV, ← S0]; exact Box.new _ _ _
  have SV : V.heap.size = w.heap.size + 2 := by rw [← hV]; simp [S0]
  have BV : Hid (Below w.heap.size w V) := bV0.trans (bV.mono bV0.size)
  have YV : Hid (Box V w.heap.size 27 #[.int .i64 0, .slice none 0 0]) := XV0.out.belowS bV
  have CL := c_lv1 a n c keys V hn hnc hc (hr.keep BV.out.size (NP.keep BV.out))
  have SVh : Hid (V.heap.size = w.heap.size + 2) := SV
  clear bV0 bV XV0 hr
  go_enter Try.func39, Try.ntmps39
  go_wp2_with fail
  refine CL.mono ?_
  rintro e w1 ⟨⟨a1, m1, c1, rfl, hL⟩, hb1⟩
  have C2 := c_lv2 a1 m1 c1 keys V w1 hL
  have B1 : Hid (Below V.heap.size V w1) := hb1
  clear hL hb1 CL hV hV0 S0 SV
  go_wp2_with fail
  refine C2.mono ?_
  rintro e w2 ⟨⟨b, off, c2, LS, F, rfl, hl⟩, hb2⟩
  have B2 : Hid (Below w.heap.size w w2) := BV.out.trans ((B1.out.trans (hb2.mono B1.out.size)).mono BV.out.size)
  have X2 : Hid (Box w2 (w.heap.size + 1) 27 #[.int .i64 0, .slice none 0 0]) := (XV.out.belowS B1.out).belowS hb2
  have Y2 : Hid (Box w2 w.heap.size 27 #[.int .i64 0, .slice none 0 0]) := (YV.out.belowS B1.out).belowS hb2
  obtain ⟨tb, htb⟩ : ∃ tb, w.heap.size + 1 = tb := ⟨_, rfl⟩
  have TB : Hid (w.heap.size + 1 = tb) := htb
  obtain ⟨hrd, hpos, hfew, hnd, hnew, ⟨z, hfl⟩, hlow, hsm, his⟩ := hl
  obtain ⟨π, hπ⟩ := places_of LS hnd
  obtain ⟨N, hN⟩ : ∃ N, LS.length = N := ⟨_, rfl⟩
  have HN : Hid (LS.length = N) := hN
  have HF : Hid (FlL w2 z LS F) := hfl
  have HRD : Hid (RdS w2 (fun _ => True) (some ⟨b, off, none⟩) N (LS.map ptr)) := by rw [hN] at hrd; exact hrd
  have HND : Hid LS.Nodup := hnd
  have HPI : Hid (∀ j q, LS[j]? = some q → π q = j) := hπ
  have HLOW : Hid (∀ (i : Nat) (v : BR), F[i]? = some v → ∀ u ∈ v.2, u ∈ LS.take i) := hlow
  have HSM : Hid (∀ v ∈ F, v.1.length ≤ 61 ∧ v.2.length ≤ 5) := hsm
  have HIS : Hid (TreeIs keys ((F.map (mapK π)).map sayB)) := his π hπ
  have HNEW : Hid (∀ q ∈ LS, w.heap.size + 2 ≤ q) := fun q hq => by have := hnew q hq; have := SVh.out; omega
  have HLT : Hid (∀ q ∈ LS, q < w2.heap.size) := hfl.lt
  have HTL : Hid (tb ∉ LS) := fun h => by have := HNEW.out tb h; omega
  rw [hN] at hpos hfew ⊢
  rw [htb] at X2
  clear hrd hnd hnew hfl hlow hsm his hπ hN B1 XV YV BV hb2 C2 SVh
  go_wp2_with fail
  go_loopw [10] (fun i wr => ∃ (k : Nat) (vs : List TNode) (na : Option Addr) (nc : Nat) (bs : Nat → Nat), k ≤ N ∧ i = .int .i64 k ∧ Hid (vs.length = k) ∧ Hid (Plc w2 wr tb LS k) ∧ Hid (Box wr tb 27 #[.int .i64 ((k - 1 : Nat) : Int), .slice na k nc]) ∧ Hid (wr.ownsRow w2.heap.size 72 3 (.slice na k nc) k (cellsN vs)) ∧ Hid (OwnB wr bs vs ∧ w2.heap.size ≤ bs 0 ∧ bs k ≤ wr.heap.size) ∧ Hid (vs.map saysN = ((F.map (mapK π)).map sayB).take k) ∧ Hid (Box wr w.heap.size 27 #[.int .i64 0, .slice none 0 0]) ∧ Hid (Below w.heap.size w wr)) (fun i _ => N - (intOf i).toNat)
  case atStart => exact ⟨0, [], none, 0, fun _ => w2.heap.size, by omega, rfl, rfl, Plc.start _ _ _, X2.out, World.ownsRow_nil _ _ _ _, ⟨⟨fun i h => absurd h (by simp), fun i h => absurd h (by simp)⟩, Nat.le_refl _, Nat.le_refl _⟩, rfl, Y2.out, B2.out⟩
  case round =>
    obtain ⟨k, vs, na, nc, bs, hk, rfl, HVL, HP, XT, ON, OB, HSY, YR, BW⟩ := hrel
    rename World => wr
    by_cases hlt : k < N
    · obtain ⟨p, hp⟩ : ∃ p, LS[k]? = some p := ⟨_, List.getElem?_eq_getElem (by have := HN.out; omega)⟩
      obtain ⟨f, hf⟩ : ∃ f, F[k]? = some f := ⟨_, List.getElem?_eq_getElem (by have := HN.out; have := HF.out.1; omega)⟩
      have d0 : wr.cell? ⟨b, off + k, none⟩ = some (.pointer (some ⟨p, 0, none⟩)) := by
        have r := HP.out.rd HRD.out (fun u hu => .inr (by obtain ⟨s, _, rfl⟩ := List.mem_map.1 hu; exact ⟨s, rfl⟩)) HF.out X2.out
        obtain ⟨b', off', e, _, hc⟩ := r.2 (by omega)
        cases e
        rw [hc k hlt]; exact map_ptr hp
      obtain ⟨ba, bm, bc, ba', bm', bc', bpl, hbx⟩ := HF.out.mem (List.mem_of_getElem? hp)
      have XP : Box wr p 88 #[.slice ba bm bc, .slice ba' bm' bc', .int .i64 bpl] := by
        have := HP.out.box k p hp _ hbx
        rw [if_neg (by omega)] at this; exact this
      have q2 : wr.cell? ⟨p, 2, none⟩ = some (.int .i64 bpl) := XP.cell 2
      have qt := XP.thaw 2
      have pw : w.heap.size + 2 ≤ p := HNEW.out p (List.mem_of_getElem? hp)
      have hpt : p ≠ tb := by omega
      have htw : w.heap.size ≠ tb := by omega
      obtain ⟨P, hP⟩ : ∃ P, (wr.setCell ⟨p, 2, none⟩ (.int .i64 (k : Int))).setCell ⟨tb, 0, none⟩ (.int .i64 (k : Int)) = P := ⟨_, rfl⟩
      have u0 : wr.cell? ⟨tb, 0, none⟩ = some (.int .i64 ((k - 1 : Nat) : Int)) := XT.out.cell 0
      have ut := XT.out.thaw 0
      have PP : Hid (Plc w2 P tb LS (k + 1)) := by unfold Hid; rw [← hP]; exact (HP.out.place HND.out hp).setTb HTL.out
      have PT : Hid (Box P tb 27 #[.int .i64 (k : Int), .slice na k nc]) := by unfold Hid; rw [← hP]; exact (XT.out.setOther _ _ (Ne.symm hpt)).set 0 _
      have PY : Hid (Box P w.heap.size 27 #[.int .i64 0, .slice none 0 0]) := by unfold Hid; rw [← hP]; exact (YR.out.setOther _ _ (by show w.heap.size ≠ p; omega)).setOther _ _ htw
      have PO : Hid (P.ownsRow w2.heap.size 72 3 (.slice na k nc) k (cellsN vs)) := by unfold Hid; rw [← hP]; exact own_setT (own_setT ON.out XP) (XT.out.setOther _ _ (Ne.symm hpt))
      have KP : Hid (Keep93 wr P) := by unfold Hid; rw [← hP]; exact (Keep93.set XP).trans (Keep93.set (XT.out.setOther _ _ (Ne.symm hpt)))
      have BP : Hid (Below w.heap.size w P) := by unfold Hid; rw [← hP]; exact (BW.out.setCell (by show w.heap.size ≤ p; omega) _).setCell (by show w.heap.size ≤ tb; omega) _
      have SP : Hid (P.heap.size = wr.heap.size) := by unfold Hid; rw [← hP]; simp
      have NI : NodeIn P p f.1 f.2 π := node_in PP.out HF.out X2.out hp hf (HLOW.out k f hf) (HSM.out f (List.mem_of_getElem? hf)) HPI.out
      have CN : Hid (∀ W, Below P.heap.size P W → Calls Try.prog 64 #[.pointer (some ⟨p, 0, none⟩)] W fun e w' => AnsNd W f.1 (f.2.map π) e w' ∧ Below W.heap.size W w') := fun W hW => c_nodeN p f.1 f.2 π W (NI.below hW)
      have p1 : P.cell? ⟨tb, 1, none⟩ = some (.slice na k nc) := PT.out.cell 1
      have HFK : Hid (F[k]? = some f) := hf
      clear hp hf hbx XP NI XT YR ON HP BW
      go_wp2_with fail
      go_region_law (first
        | (rw [if_pos (by simp [Region.wanted])]
           go_simp
           go_at_call 64
           refine (CN.out _ (by first | exact Below.refl _ _ | exact (Below.refl _ _).drew)).mono ?_
           rintro e w3 ⟨⟨v, rfl, hv, ov⟩, hb3⟩
           have HB3 : Hid (Below P.heap.size P w3) := by first | exact (Below.refl _ _).drew.trans hb3 | exact hb3
           have HV3 : Hid (saysN v = sayB (mapK π f)) := by rw [hv]; rfl
           have OV3 : Hid (OwnN1 w3 P.heap.size w3.heap.size v) := ov
           have p3 : w3.cell? ⟨tb, 1, none⟩ = some (.slice na k nc) := far6 HB3.out p1
           obtain ⟨VA, hVA⟩ : ∃ VA, w3.alloc (.cells #[.bool v.lf, .slice v.ka v.kn v.kc, .slice v.ia v.im v.ic] 72) = VA := ⟨_, rfl⟩
           have b3A : Below w3.heap.size w3 VA := by rw [← hVA]; exact (Below.refl _ _).alloc (Nat.le_refl _) _
           have pA : VA.cell? ⟨tb, 1, none⟩ = some (.slice na k nc) := far6 b3A p3
           have HA3 : Hid (Below w3.heap.size w3 VA) := b3A
           have HA : Hid (Below P.heap.size P VA) := HB3.out.trans (b3A.mono HB3.out.size)
           have XA : Hid (Box VA w3.heap.size 72 #[.bool v.lf, .slice v.ka v.kn v.kc, .slice v.ia v.im v.ic]) := by unfold Hid; rw [← hVA]; exact Box.new _ _ _
           have OA : Hid (VA.ownsRow w2.heap.size 72 3 (.slice na k nc) k (cellsN vs)) := own_below PO.out HA.out
           have SA : w2.heap.size ≤ VA.heap.size := Nat.le_trans PP.out.size HA.out.size
           clear hb3 ov b3A hv
           go_simp)
        | (refine step_app_any _ (by rfl) (.tmp 22) (.tmp 25) 25 (by rfl) w2.heap.size 72 iN (.agg #[.bool false, .slice none 0 0, .slice none 0 0]) 3 56 Try.underlying25 HI.out HZ0.out HZ1.out HZ2.out rfl (by omega) (.slice na k nc) k (cellsN vs) (by rfl) OA.out (some ⟨w3.heap.size, 0, none⟩) 1 1 (cN v) (by rfl) (fun ex => by cases ex) rfl (by exact newsV XA.out) (oneV v) (by unfold maxLen; omega) (by omega) SA ?_
           intro l2 lc2 w5 ho hgx hax
           rw [ob_slice] at hgx
           have HO5 : Hid (w5.ownsRow w2.heap.size 72 3 (.slice l2 (k + 1) lc2) (k + 1) (cellsN (vs ++ [v]))) := by unfold Hid; rw [cellsN_app]; exact ho
           have hrow : ∀ g, ob na = some g → w2.heap.size ≤ g := fun g hg => (own_blk OA.out g hg).1
           have X5 : Box w5 tb 27 #[.int .i64 (k : Int), .slice na k nc] := (PT.out.belowS HA.out).grown hgx (own_neT OA.out (PT.out.belowS HA.out))
           have HX5 : Hid (Box w5 tb 27 #[.int .i64 (k : Int), .slice na k nc]) := X5
           have HY5 : Hid (Box w5 w.heap.size 27 #[.int .i64 0, .slice none 0 0]) := (PY.out.belowS HA.out).grown hgx (own_neT OA.out (PY.out.belowS HA.out))
           have HP5 : Hid (Plc w2 w5 tb LS (k + 1)) := (PP.out.below HA.out).grown HLT.out hgx hrow
           have HK5 : Hid (Keep93 VA w5) := Keep93.grown OA.out hgx
           have HB5 : Hid (Below w.heap.size w w5) := (BP.out.trans (HA.out.mono BP.out.size)).grown hgx (Nat.le_trans BP.out.size HA.out.size) (fun g hg => Nat.le_trans B2.out.size (hrow g hg))
           have HS5 : Hid (w3.heap.size ≤ w5.heap.size) := Nat.le_trans HA3.out.size hgx.size
           have c51 : w5.cell? ⟨tb, 1, none⟩ = some (.slice na k nc) := X5.cell 1
           have t51 := X5.thaw 1
           clear ho hgx hax X5 hrow))
      all_goals
        obtain ⟨w6, hw6⟩ : ∃ w6, w5.setCell ⟨tb, 1, none⟩ (.slice l2 (k + 1) lc2) = w6 := ⟨_, rfl⟩
        have K6 : Keep93 w5 w6 := by rw [← hw6]; exact Keep93.set HX5.out
        have S6 : w6.heap.size = w5.heap.size := by rw [← hw6]; simp
        have R1 : Hid (Box w6 tb 27 #[.int .i64 (k : Int), .slice l2 (k + 1) lc2]) := by unfold Hid; rw [← hw6]; exact HX5.out.set 1 _
        have R2 : Hid (Box w6 w.heap.size 27 #[.int .i64 0, .slice none 0 0]) := by unfold Hid; rw [← hw6]; exact HY5.out.setOther _ _ htw
        have R3 : Hid (w6.ownsRow w2.heap.size 72 3 (.slice l2 (k + 1) lc2) (k + 1) (cellsN (vs ++ [v]))) := by unfold Hid; rw [← hw6]; exact own_setT HO5.out HX5.out
        have R4 : Hid (Plc w2 w6 tb LS (k + 1)) := by unfold Hid; rw [← hw6]; exact HP5.out.setTb HTL.out
        have R5 : Hid (Below w.heap.size w w6) := by unfold Hid; rw [← hw6]; exact HB5.out.setCell (by show w.heap.size ≤ tb; omega) _
        have R6 : Hid (∃ bs' : Nat → Nat, OwnB w6 bs' (vs ++ [v]) ∧ w2.heap.size ≤ bs' 0 ∧ bs' (k + 1) ≤ w6.heap.size) := by
          obtain ⟨o1, o2, o3⟩ := OB.out
          have kk : Keep93 w3 w6 := ((Keep93.below HA3.out).trans HK5.out).trans K6
          have o4 := o1.typed ((KP.out.trans (Keep93.below HB3.out)).trans kk)
          have o5 := OV3.out.typed kk
          rw [SP.out] at o5
          obtain ⟨bs', q1, q2, q3⟩ := o4.push (by rw [HVL.out]; exact o3) o5 (by rw [← SP.out]; exact HB3.out.size)
          rw [HVL.out] at q3
          refine ⟨bs', q1, by rw [q2, ite_self]; exact o2, by rw [q3, S6]; exact HS5.out⟩
        have R7 : Hid ((vs ++ [v]).map saysN = ((F.map (mapK π)).map sayB).take (k + 1)) := by
          unfold Hid
          rw [List.map_append, HSY.out, List.take_add_one, List.getElem?_map, List.getElem?_map, HFK.out]
          show _ ++ [saysN v] = _
          rw [HV3.out]; rfl
        have H6 : Hid (w5.setCell ⟨tb, 1, none⟩ (.slice l2 (k + 1) lc2) = w6) := hw6
        clear K6 S6 HX5 HY5 HO5 HP5 HB5 HK5 HS5 HA3 HA XA OA HB3 OV3 PT PY PO KP BP SP CN q2 qt u0 ut p1 hP hVA pA p3 c51 t51 OB hw6 d0 SA
        go_wp2
        go_roundw
        case rel =>
          obtain ⟨bs', q⟩ := R6.out
          rw [H6.out]
          exact ⟨k + 1, vs ++ [v], l2, lc2, bs', by omega, by go_num, by unfold Hid; rw [List.length_append, HVL.out]; rfl, R4.out, R1.out, R3.out, q, R7.out, R2.out, R5.out⟩
        case measure => simp [intOf]; omega
    · obtain rfl : k = N := by omega
      have z0 := XT.out.cell 0
      have z1 := XT.out.cell 1
      have y0 := YR.out.cell 0
      have y1 := YR.out.cell 1
      have t0 := YR.out.thaw 0
      have t1 := YR.out.thaw 1
      go_wp2
      refine retT Try.results39 rfl rfl (put2_box YR.out _ _) ⟨⟨na, nc, vs, bs, by rw [HVL.out], ⟨?_, ?_, ?_, ?_, by rw [HVL.out]; omega⟩, ?_⟩, put2_below BW.out (Nat.le_refl _) _ _⟩
      · rw [HVL.out]
        exact own_low (own_setT (own_setT ON.out YR.out) (YR.out.set 0 _)) B2.out.size
      · exact OB.out.1.typed ((Keep93.set YR.out).trans (Keep93.set (YR.out.set 0 _)))
      · exact Nat.le_trans B2.out.size OB.out.2.1
      · rw [HVL.out]; simpa using OB.out.2.2
      · rw [HSY.out, List.take_of_length_le (by rw [List.length_map, List.length_map, ← HF.out.1, HN.out]; exact Nat.le_refl _)]
        exact HIS.out

end Go.Proofs.Ythnggpjgajkaeaa
