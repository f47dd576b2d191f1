/-
  What the sets of areFitting say of pairs of locks.
-/
import Derived.Test.YtmjacoocnkcilaaDoorLf
namespace Go.Proofs.YtmjacoocnkcilaaDoor
open Go Go.RowKit
attribute [local go_sem ↓] Go.wp_at_zero Go.wp_at_succ

theorem inT_or {s : B64} {x y : Int} (h0 : 0 ≤ x) (h1 : x < 64) (hy : 0 ≤ y) : inT (orT s (bitT x)) y = (inT s y || decide (x = y)) := by
  have := inT_bit h0 h1 y hy
  unfold inT at this ⊢
  unfold orT
  rw [BitVec.getLsbD_or, this]
theorem inT_or2 (s u : B64) (y : Int) : inT (orT s u) y = (inT s y || inT u y) := by unfold inT orT; rw [BitVec.getLsbD_or]
theorem inT_sub {s : B64} {x y : Int} (h0 : 0 ≤ x) (h1 : x < 64) (hy : 0 ≤ y) (hy1 : y < 64) : inT (subT s (bitT x)) y = (inT s y && !decide (x = y)) := by
  have := inT_bit h0 h1 y hy
  unfold inT at this ⊢
  unfold subT
  rw [BitVec.getLsbD_and, BitVec.getLsbD_not, this, decide_eq_true (by omega : y.toNat < 64), Bool.true_and]
theorem inT_hi {s : B64} {y : Int} (h : 64 ≤ y) : inT s y = false := by unfold inT; exact BitVec.getLsbD_of_ge s _ (by omega)
theorem ne0_iff {s : B64} : s ≠ 0#64 ↔ ∃ y : Int, 0 ≤ y ∧ y < 64 ∧ inT s y = true := by
  constructor
  · intro h
    by_cases hx : ∃ i, i < 64 ∧ s.getLsbD i = true
    · obtain ⟨i, hi, he⟩ := hx
      exact ⟨(i : Int), by omega, by omega, by unfold inT; rw [Int.toNat_natCast]; exact he⟩
    · exact absurd (BitVec.eq_of_getLsbD_eq (fun i hi => by
        rw [BitVec.getLsbD_zero]
        cases hc : s.getLsbD i
        · rfl
        · exact absurd ⟨i, hi, hc⟩ hx)) h
  · rintro ⟨y, h0, h1, hy⟩ rfl
    unfold inT at hy
    rw [BitVec.getLsbD_zero] at hy
    cases hy
theorem inT_zero (y : Int) : inT 0#64 y = false := by unfold inT; rw [BitVec.getLsbD_zero]
theorem fold_in (T : Int) (r m y : Int) (hy : 0 ≤ y) : ∀ (L : List LK) (f : FM), (∀ v ∈ L, okK v = true) →
    inT (L.foldl (updT T) f r m) y = (inT (f r m) y || L.any (fun v => decide (v.b = T) && decide (v.r = r) && decide (v.m = m) && decide (v.x = y)))
  | [], f, _ => by simp
  | v :: L, f, h => by
    rw [List.foldl_cons, fold_in T r m y hy L (updT T f v) (fun u hu => h u (List.mem_cons_of_mem _ hu)), List.any_cons, ← Bool.or_assoc]
    congr 1
    obtain ⟨vx, vb, vr, vm⟩ := v
    have hb := okK_bounds (h ⟨vx, vb, vr, vm⟩ (List.mem_cons_self))
    unfold updT
    by_cases h1 : vb = T
    · rw [if_pos h1]
      unfold putM
      by_cases h2 : r = vr
      · rw [if_pos h2]
        unfold addH
        by_cases h3 : m = vm
        · subst h1; subst h2; subst h3
          simp [inT_or (by omega : 0 ≤ vx) (by omega) hy]
        · have : ¬ vm = m := fun e => h3 e.symm
          subst h2
          simp [h3, this]
      · have : ¬ vr = r := fun e => h2 e.symm
        simp [h2, this]
    · simp [h1]
theorem agS_in (h : HM) (m y : Int) : ∀ k : Nat, inT (agS h m k) y = true ↔ ∃ j : Nat, 1 ≤ j ∧ j < k ∧ fitB j m = false ∧ inT (h j) y = true
  | 0 => by constructor
            · intro e; rw [show agS h m 0 = 0#64 from rfl, inT_zero] at e; cases e
            · rintro ⟨j, _, hj, _⟩; omega
  | k + 1 => by
    have ih := agS_in h m y k
    by_cases hk : k = 0
    · subst hk
      constructor
      · intro e; rw [show agS h m 1 = 0#64 from rfl, inT_zero] at e; cases e
      · rintro ⟨j, h1, hj, _⟩; omega
    · rw [agS_step h m k (by omega)]
      cases hf : fitB k m
      · rw [if_neg (by simp), inT_or2, Bool.or_eq_true, ih]
        constructor
        · rintro (⟨j, h1, h2, h3⟩ | e)
          · exact ⟨j, h1, by omega, h3⟩
          · exact ⟨k, by omega, by omega, hf, e⟩
        · rintro ⟨j, h1, h2, h3, h4⟩
          by_cases e : j = k
          · subst e; exact .inr h4
          · exact .inl ⟨j, h1, by omega, h3, h4⟩
      · rw [if_pos rfl, ih]
        constructor
        · rintro ⟨j, h1, h2, h3⟩; exact ⟨j, h1, by omega, h3⟩
        · rintro ⟨j, h1, h2, h3, h4⟩
          by_cases e : j = k
          · subst e; rw [hf] at h3; cases h3
          · exact ⟨j, h1, by omega, h3, h4⟩
theorem fitB_symm (a b : Int) : fitB a b = fitB b a := by
  unfold fitB
  have c1 : (b = 4 ∨ a = 4) = (a = 4 ∨ b = 4) := propext or_comm
  have c2 : (b = 1 ∨ a = 1) = (a = 1 ∨ b = 1) := propext or_comm
  simp only [c1, c2]
  by_cases h1 : a = 4 ∨ b = 4
  · rw [if_pos h1, if_pos h1]
  · rw [if_neg h1, if_neg h1]
    by_cases h2 : a = 1 ∨ b = 1
    · rw [if_pos h2, if_pos h2]
    · rw [if_neg h2, if_neg h2]
      by_cases e : a = b
      · rw [e]
      · rw [decide_eq_false e, decide_eq_false (fun h => e h.symm)]
/-- Two locks, the first one later, can't be held both. -/
def pairBad (a b : LK) : Bool := decide (a.b = b.b) && decide (a.r = b.r) && (decide (a = b) || (decide (a.x ≠ b.x) && !fitB a.m b.m))
theorem badT_iff (vs : List LK) (T : Int) (k : Nat) (v : LK) (hall : ∀ u ∈ vs, okK u = true) (hv : okK v = true) :
    badT T (fT vs T k) v = true ↔ v.b = T ∧ ∃ u ∈ vs.take k, pairBad v u = true := by
  have hL : ∀ u ∈ vs.take k, okK u = true := fun u hu => hall u (List.mem_of_mem_take hu)
  obtain ⟨vx, vb, vr, vm⟩ := v
  have bv := okK_bounds hv
  have hin : ∀ (m y : Int), 0 ≤ y → (inT (fT vs T k vr m) y = true ↔ ∃ u ∈ vs.take k, u.b = T ∧ u.r = vr ∧ u.m = m ∧ u.x = y) := fun m y hy => by
    have := fold_in T vr m y hy (vs.take k) (fun _ => zeroH) hL
    unfold fT
    rw [this, show zeroH m = 0#64 from rfl, inT_zero, Bool.false_or, List.any_eq_true]
    simp only [Bool.and_eq_true, decide_eq_true_eq, and_assoc]
  unfold badT
  rw [Bool.and_eq_true, decide_eq_true_eq]
  show vb = T ∧ _ ↔ vb = T ∧ _
  refine and_congr_right (fun hT => ?_)
  rw [Bool.or_eq_true, hin vm vx (by omega), decide_eq_true_eq, ne0_iff]
  constructor
  · rintro (⟨u, hu, h1, h2, h3, h4⟩ | ⟨y, y0, y1, hy⟩)
    · refine ⟨u, hu, ?_⟩
      obtain ⟨ux, ub, ur, um⟩ := u
      simp only at h1 h2 h3 h4
      subst h1; subst h2; subst h3; subst h4; subst hT
      simp [pairBad]
    · unfold agH at hy
      simp only at hy
      rw [inT_sub (x := vx) (by omega) (by omega) y0 y1, Bool.and_eq_true, agS_in] at hy
      obtain ⟨⟨j, j1, j5, hf, hj⟩, hne⟩ := hy
      rw [hin _ y y0] at hj
      obtain ⟨u, hu, h1, h2, h3, h4⟩ := hj
      refine ⟨u, hu, ?_⟩
      obtain ⟨ux, ub, ur, um⟩ := u
      simp only at h1 h2 h3 h4
      have hxy : ¬ vx = ux := by rw [h4]; simpa using hne
      have hff : fitB vm um = false := by rw [fitB_symm, h3]; exact hf
      subst h1; subst h2; subst hT
      simp [pairBad, hxy, hff]
  · rintro ⟨u, hu, hb⟩
    have bu := hL u hu
    obtain ⟨ux, ub, ur, um⟩ := u
    have bu := okK_bounds bu
    unfold pairBad at hb
    simp only [Bool.and_eq_true, Bool.or_eq_true, decide_eq_true_eq, Bool.not_eq_true'] at hb
    obtain ⟨⟨h1, h2⟩, h3 | ⟨h3, h4⟩⟩ := hb
    · left
      have e := LK.mk.inj h3
      exact ⟨⟨ux, ub, ur, um⟩, hu, h1.symm.trans hT, h2.symm, e.2.2.2.symm, e.1.symm⟩
    · right
      refine ⟨ux, by omega, by omega, ?_⟩
      unfold agH
      rw [inT_sub (x := vx) (by omega) (by omega) (by omega) (by omega), Bool.and_eq_true, agS_in]
      refine ⟨⟨um.toNat, by omega, by omega, ?_, ?_⟩, by simpa using h3⟩
      · rw [Int.toNat_of_nonneg (by omega), fitB_symm]; exact h4
      · rw [Int.toNat_of_nonneg (by omega), hin um ux (by omega)]
        exact ⟨⟨ux, ub, ur, um⟩, hu, h1.symm.trans hT, h2.symm, rfl, rfl⟩
theorem okT_iff (vs : List LK) (T : Int) : ∀ n, okT vs T n = true ↔ ∀ k, k < n → badT T (fT vs T k) (vs.getD k dK) = false
  | 0 => by constructor
            · intro _ k hk; omega
            · intro _; rfl
  | n + 1 => by
    show (okT vs T n && !badT T (fT vs T n) (vs.getD n dK)) = true ↔ _
    rw [Bool.and_eq_true, okT_iff vs T n, Bool.not_eq_true']
    constructor
    · rintro ⟨h1, h2⟩ k hk
      by_cases e : k = n
      · subst e; exact h2
      · exact h1 k (by omega)
    · intro h
      exact ⟨fun k hk => h k (by omega), h n (by omega)⟩
/-- What the specification asks, lock by lock. -/
def okP (vs : List LK) : Nat → Bool
  | 0 => true
  | i + 1 => okP vs i && (okK (vs.getD i dK) && !(vs.take i).any (pairBad (vs.getD i dK)))
theorem okP_iff (vs : List LK) : ∀ n, okP vs n = true ↔ ∀ k, k < n → okK (vs.getD k dK) = true ∧ (vs.take k).any (pairBad (vs.getD k dK)) = false
  | 0 => by constructor
            · intro _ k hk; omega
            · intro _; rfl
  | n + 1 => by
    show (okP vs n && (okK (vs.getD n dK) && !(vs.take n).any (pairBad (vs.getD n dK)))) = true ↔ _
    rw [Bool.and_eq_true, okP_iff vs n, Bool.and_eq_true, Bool.not_eq_true']
    constructor
    · rintro ⟨h1, h2⟩ k hk
      by_cases e : k = n
      · subst e; exact h2
      · exact h1 k (by omega)
    · intro h
      exact ⟨fun k hk => h k (by omega), h n (by omega)⟩
theorem getD_memK {vs : List LK} {k : Nat} (h : k < vs.length) : vs.getD k dK ∈ vs := by rw [List.getD_eq_getElem?_getD, List.getElem?_eq_getElem h]; exact List.getElem_mem h
theorem okUp4 (vs : List LK) : fitL vs = (okT vs 1 vs.length && okT vs 2 vs.length && okT vs 3 vs.length) := by
  show (((( true && (decide (0 = 0) || okT vs 0 vs.length)) && (decide (1 = 0) || okT vs 1 vs.length)) && (decide (2 = 0) || okT vs 2 vs.length)) && (decide (3 = 0) || okT vs 3 vs.length)) = _
  simp
theorem fit_pairs (vs : List LK) : okP vs vs.length = (vs.all okK && fitL vs) := by
  rw [Bool.eq_iff_iff, okP_iff, Bool.and_eq_true, okUp4, Bool.and_eq_true, Bool.and_eq_true, okT_iff, okT_iff, okT_iff, List.all_eq_true]
  constructor
  · intro h
    have hall : ∀ u ∈ vs, okK u = true := fun u hu => by
      obtain ⟨i, hi, e⟩ := List.getElem_of_mem hu
      have := (h i hi).1
      rw [List.getD_eq_getElem?_getD, List.getElem?_eq_getElem hi] at this
      simpa [e] using this
    have key : ∀ (T : Int) k, k < vs.length → badT T (fT vs T k) (vs.getD k dK) = false := fun T k hk => by
      cases hb : badT T (fT vs T k) (vs.getD k dK)
      · rfl
      · obtain ⟨_, u, hu, hp⟩ := (badT_iff vs T k _ hall (h k hk).1).1 hb
        have := (h k hk).2
        rw [List.any_eq_false] at this
        exact absurd hp (this u hu)
    exact ⟨hall, ⟨key 1, key 2⟩, key 3⟩
  · rintro ⟨hall, ⟨h1, h2⟩, h3⟩ k hk
    have hv := hall _ (getD_memK hk)
    refine ⟨hv, ?_⟩
    rw [List.any_eq_false]
    intro u hu hp
    have hb : 1 ≤ (vs.getD k dK).b ∧ (vs.getD k dK).b ≤ 3 := (okK_bounds hv).2.1
    have bad := (badT_iff vs (vs.getD k dK).b k _ hall hv).2 ⟨rfl, u, hu, hp⟩
    have hc : (vs.getD k dK).b = 1 ∨ (vs.getD k dK).b = 2 ∨ (vs.getD k dK).b = 3 := by omega
    rcases hc with e | e | e <;> rw [e] at bad
    · rw [h1 k hk] at bad; cases bad
    · rw [h2 k hk] at bad; cases bad
    · rw [h3 k hk] at bad; cases bad

end Go.Proofs.YtmjacoocnkcilaaDoor
