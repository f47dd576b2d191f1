/-
  Who must be waited for: the sets and the lists say the same.
-/
import Derived.Test.YtmjacoocnkcilaaDoorLce
namespace Go.Proofs.YtmjacoocnkcilaaDoor
open Go Go.RowKit
attribute [local go_sem ↓] Go.wp_at_zero Go.wp_at_succ

def metB (x y : Int) (L : List WK) : Bool := L.any (fun e => decide (e.x = x) && decide (e.f = y))
def spP (x b r m : Int) (v : LK) : Prop := v.x ≠ x ∧ v.b = b ∧ v.r = r ∧ fitB v.m m = false
instance (x b r m : Int) (v : LK) : Decidable (spP x b r m v) := by unfold spP; infer_instance
def spS (x b r m : Int) (L : List WK) (v : LK) : List WK := if spP x b r m v ∧ metB x v.x L = false then L ++ [⟨x, v.x⟩] else L
def spF (vs : List LK) (x b r m : Int) (k : Nat) : List WK := (vs.take k).foldl (spS x b r m) []
theorem spF_step (vs : List LK) (x b r m : Int) (k : Nat) (hk : k < vs.length) : spF vs x b r m (k + 1) = spS x b r m (spF vs x b r m k) (vs.getD k dK) := by
  unfold spF
  rw [List.take_add_one, List.foldl_append, List.getElem?_eq_getElem hk, List.getD_eq_getElem?_getD, List.getElem?_eq_getElem hk]
  rfl
theorem tkO_in (vs : List LK) (x b r m y : Int) (hall : vs.all okK = true) (hx : 1 ≤ x ∧ x ≤ 60) (hy : 0 ≤ y) (hy1 : y < 64) :
    inT (tkO vs x b r m) y = true ↔ ∃ v ∈ vs, spP x b r m v ∧ v.x = y := by
  unfold tkO agH
  rw [inT_sub (by omega) (by omega) hy hy1, Bool.and_eq_true, agS_in]
  constructor
  · rintro ⟨⟨j, h1, h2, hf, hin⟩, hne⟩
    obtain ⟨v, hv, e1, e2, e3, e4⟩ := (hOf_in vs b r j y hy hall).1 hin
    have hne' : ¬ x = y := by simpa using hne
    exact ⟨v, hv, ⟨fun e => hne' (by rw [← e, e4]), e1, e2, by rw [e3]; exact hf⟩, e4⟩
  · rintro ⟨v, hv, ⟨h1, h2, h3, h4⟩, h5⟩
    have hb := okK_bounds (List.all_eq_true.1 hall v hv)
    have hm : ((v.m.toNat : Nat) : Int) = v.m := by omega
    refine ⟨⟨v.m.toNat, by omega, by omega, by rw [hm]; exact h4, ?_⟩, ?_⟩
    · rw [hm]
      exact (hOf_in vs b r v.m y hy hall).2 ⟨v, hv, h2, h3, rfl, h5⟩
    · have : ¬ x = y := fun e => h1 (by rw [h5, e])
      simpa using this
theorem met_snoc (x y z : Int) (L : List WK) : metB x y (L ++ [⟨x, z⟩]) = (metB x y L || decide (z = y)) := by
  unfold metB
  rw [List.any_append]
  simp
theorem sp_wf (vs : List LK) (x b r m : Int) (hall : vs.all okK = true) (hx : 1 ≤ x ∧ x ≤ 60) : ∀ k, k ≤ vs.length →
    (wf vs x b r m (tkO vs x b r m) k).1 = spF vs x b r m k ∧ ∀ y : Int, 0 ≤ y → y < 64 → inT (wf vs x b r m (tkO vs x b r m) k).2 y = (inT (tkO vs x b r m) y && !metB x y (spF vs x b r m k))
  | 0, _ => ⟨rfl, fun y _ _ => by show inT (tkO vs x b r m) y = _; simp [spF, metB]⟩
  | k + 1, h => by
    obtain ⟨ih1, ih2⟩ := sp_wf vs x b r m hall hx k (by omega)
    rw [wf_step _ _ _ _ _ _ _ (by omega), spF_step _ _ _ _ _ _ (by omega)]
    obtain ⟨v, hv⟩ : ∃ v, v = vs.getD k dK := ⟨_, rfl⟩
    rw [← hv]
    have hm : v ∈ vs := by rw [hv]; exact getD_memK (by omega)
    have hb := okK_bounds (List.all_eq_true.1 hall v hm)
    have key : (v.b = b ∧ v.r = r ∧ fitB v.m m = false ∧ inT (wf vs x b r m (tkO vs x b r m) k).2 v.x = true) ↔ (spP x b r m v ∧ metB x v.x (spF vs x b r m k) = false) := by
      rw [ih2 v.x (by omega) (by omega), Bool.and_eq_true, tkO_in vs x b r m v.x hall hx (by omega) (by omega)]
      constructor
      · rintro ⟨h1, h2, h3, ⟨u, hu, hp, he⟩, h5⟩
        exact ⟨⟨by rw [← he]; exact hp.1, h1, h2, h3⟩, by simpa using h5⟩
      · rintro ⟨hp, h5⟩
        exact ⟨hp.2.1, hp.2.2.1, hp.2.2.2, ⟨v, hm, hp, rfl⟩, by simpa using h5⟩
    unfold wfS spS
    by_cases hc : spP x b r m v ∧ metB x v.x (spF vs x b r m k) = false
    · rw [if_pos (key.2 hc), if_pos hc]
      refine ⟨by rw [ih1], fun y hy hy1 => ?_⟩
      show inT (subT _ (bitT v.x)) y = _
      rw [inT_sub (by omega) (by omega) hy hy1, ih2 y hy hy1, met_snoc, Bool.not_or, Bool.and_assoc]
    · rw [if_neg (fun e => hc (key.1 e)), if_neg hc]
      exact ⟨ih1, ih2⟩
theorem tkF_sp (vs : List LK) (x b r m : Int) (hall : vs.all okK = true) (hx : 1 ≤ x ∧ x ≤ 60) : tkF vs x b r m = spF vs x b r m vs.length := (sp_wf vs x b r m hall hx vs.length (Nat.le_refl _)).1
theorem spF_met (vs : List LK) (x b r m : Int) : ∀ k, k ≤ vs.length → ∀ i, i < k → spP x b r m (vs.getD i dK) → metB x (vs.getD i dK).x (spF vs x b r m k) = true
  | 0, _, i, hi, _ => by omega
  | k + 1, h, i, hi, hp => by
    rw [spF_step _ _ _ _ _ _ (by omega)]
    unfold spS
    by_cases hik : i = k
    · subst hik
      split
      · rw [met_snoc]; simp
      · rename_i hc
        have : ¬ metB x (vs.getD i dK).x (spF vs x b r m i) = false := fun e => hc ⟨hp, e⟩
        simpa using this
    · have ih := spF_met vs x b r m k (by omega) i (by omega) hp
      split
      · rw [met_snoc, ih]; rfl
      · exact ih
theorem tkO_nil (vs : List LK) (x b r m : Int) (hall : vs.all okK = true) (hx : 1 ≤ x ∧ x ≤ 60) : tkO vs x b r m = 0#64 ↔ spF vs x b r m vs.length = [] := by
  constructor
  · intro h0
    have hno : ∀ v ∈ vs, ¬ spP x b r m v := fun v hv hp => by
      have hb := okK_bounds (List.all_eq_true.1 hall v hv)
      have := (tkO_in vs x b r m v.x hall hx (by omega) (by omega)).2 ⟨v, hv, hp, rfl⟩
      rw [h0, inT_zero] at this
      cases this
    have : ∀ k, k ≤ vs.length → spF vs x b r m k = [] := fun k => by
      induction k with
      | zero => intro _; rfl
      | succ k ih =>
        intro h
        rw [spF_step _ _ _ _ _ _ (by omega), ih (by omega)]
        unfold spS
        rw [if_neg (fun e => hno _ (getD_memK (by omega)) e.1)]
    exact this _ (Nat.le_refl _)
  · intro h0
    apply Classical.byContradiction
    intro hne
    obtain ⟨y, hy, hy1, hin⟩ := ne0_iff.1 hne
    obtain ⟨v, hv, hp, he⟩ := (tkO_in vs x b r m y hall hx hy hy1).1 hin
    obtain ⟨i, hi, e⟩ := List.getElem_of_mem hv
    have e2 : vs.getD i dK = v := by rw [List.getD_eq_getElem?_getD, List.getElem?_eq_getElem hi]; exact e
    have := spF_met vs x b r m vs.length (Nat.le_refl _) i hi (by rw [e2]; exact hp)
    rw [h0] at this
    cases this
theorem spF_len (vs : List LK) (x b r m : Int) : ∀ k, k ≤ vs.length → (spF vs x b r m k).length ≤ k
  | 0, _ => Nat.le_refl _
  | k + 1, h => by
    have ih := spF_len vs x b r m k (by omega)
    rw [spF_step _ _ _ _ _ _ (by omega)]
    unfold spS
    split
    · rw [List.length_append, List.length_singleton]; omega
    · omega

end Go.Proofs.YtmjacoocnkcilaaDoor
