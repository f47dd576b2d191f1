/-
  A list that rises, cut at a number.
-/
import Derived.Test.YtimdoaehlciecaaAg
namespace Go.Proofs.Ytimdoaehlciecaa
open Go Go.RowKit

structure Cut3 (XS A M B : List (Int × Int)) (t : Int) : Prop where
  eq : XS = A ++ (M ++ B)
  la : ∀ p ∈ A, p.1 < t
  ma : ∀ p ∈ M, p.1 = t
  lb : ∀ p ∈ B, t < p.1
theorem getD_mid (A : List (Int × Int)) (x : Int × Int) (B : List (Int × Int)) : (A ++ (x :: B)).getD A.length (0, 0) = x := by
  rw [List.getD_eq_getElem?_getD, List.getElem?_append_right (Nat.le_refl _), Nat.sub_self]
  rfl
theorem Cut3.lt {XS A M B : List (Int × Int)} {t : Int} (h : Cut3 XS A M B t) {j : Nat} (hj : j < A.length) : j < XS.length ∧ (XS.getD j (0, 0)).1 < t := by
  have e := h.eq
  subst e
  refine ⟨by rw [List.length_append]; omega, ?_⟩
  rw [List.getD_eq_getElem?_getD, List.getElem?_append_left hj, List.getElem?_eq_getElem hj]
  exact h.la _ (List.getElem_mem hj)
theorem Cut3.ge {XS A M B : List (Int × Int)} {t : Int} (h : Cut3 XS A M B t) (hj : A.length < XS.length) : t ≤ (XS.getD A.length (0, 0)).1 := by
  have e := h.eq
  subst e
  cases hM : M ++ B with
  | nil => rw [hM] at hj; simp at hj
  | cons x r =>
    rw [getD_mid]
    have : x ∈ M ++ B := by rw [hM]; simp
    rcases List.mem_append.1 this with h1 | h1
    · have := h.ma x h1; omega
    · have := h.lb x h1; omega
theorem Cut3.none {XS A B : List (Int × Int)} {t : Int} (h : Cut3 XS A [] B t) (hj : A.length < XS.length) : t < (XS.getD A.length (0, 0)).1 := by
  have e := h.eq
  subst e
  cases B with
  | nil => simp at hj
  | cons x r => rw [List.nil_append, getD_mid]; exact h.lb x (by simp)
theorem Cut3.one {XS A B : List (Int × Int)} {x : Int × Int} {t : Int} (h : Cut3 XS A [x] B t) : A.length < XS.length ∧ (XS.getD A.length (0, 0)).1 = t := by
  have e := h.eq
  subst e
  refine ⟨by simp, ?_⟩
  rw [List.singleton_append, getD_mid]
  exact h.ma x (by simp)
theorem Cut3.seg (f : Nat → Int) (t n : Nat) (h : t < n) : Cut3 (seg f 0 n) (seg f 0 t) (if 0 < f t then [((t : Int), f t)] else []) (seg f (t + 1) (n - 1 - t)) (t : Int) := by
  refine ⟨?_, fun p hp => ?_, fun p hp => ?_, fun p hp => ?_⟩
  · have := seg_cut f t (n - 1 - t)
    rwa [show t + 1 + (n - 1 - t) = n by omega] at this
  · have := seg_in t 0 p hp; omega
  · split at hp
    · simp at hp; subst hp; rfl
    · cases hp
  · have := seg_in _ _ p hp; omega
theorem own_srk {w : World} {base e n c g : Nat} {xs us vs ws : List Value} (ho : w.ownsRow base e 2 (.slice (some ⟨g, 0, none⟩) n c) n xs) (hx : xs = us ++ (vs ++ ws)) (hl : xs.length ≤ n * 2) : ∀ j u, vs[j]? = some u → w.cell? ((⟨g, us.length, none⟩ : Addr).add j) = some u := by
  intro j u hu
  obtain ⟨hj, _⟩ := List.getElem?_eq_some_iff.1 hu
  rw [addr_add, ho.cellAt (us.length + j) (by rw [hx, List.length_append, List.length_append] at hl; omega), hx, List.getElem?_append_right (by omega), Nat.add_sub_cancel_left, List.getElem?_append_left hj]
  exact hu
theorem toD_len (l : List (Int × Int)) : (toD l).length = l.length := by unfold toD; rw [List.length_map]
theorem cellsD_pr (l : List (Int × Int)) : (cellsD (toD l)).length = l.length * 2 := by rw [cellsD_len, toD_len]
theorem toD_at {l : List (Int × Int)} {k : Nat} (h : k < l.length) : ((toD l).getD k dD).n = (l.getD k (0, 0)).1 ∧ ((toD l).getD k dD).f = (l.getD k (0, 0)).2 := by
  unfold toD
  rw [List.getD_eq_getElem?_getD, List.getElem?_map, List.getElem?_eq_getElem h, List.getD_eq_getElem?_getD, List.getElem?_eq_getElem h]
  exact ⟨rfl, rfl⟩
theorem own_atD {w : World} {base e c g : Nat} {l : List (Int × Int)} (ho : w.ownsRow base e 2 (.slice (some ⟨g, 0, none⟩) l.length c) l.length (cellsD (toD l))) {k : Nat} (h : k < l.length) : w.cell? ⟨g, k * 2, none⟩ = some (.int .i64 (l.getD k (0, 0)).1) := by
  have := cellsD_get (toD l) k (by rw [toD_len]; exact h)
  rw [ho.cellAt (k * 2) (by omega), this.1, (toD_at h).1]
theorem toD_cut (A M B : List (Int × Int)) : cellsD (toD (A ++ (M ++ B))) = cellsD (toD A) ++ (cellsD (toD M) ++ cellsD (toD B)) := by unfold toD; rw [List.map_append, List.map_append, cellsD_append, cellsD_append]
theorem toD_one (a b : Int) : cellsD (toD [(a, b)]) = cD ⟨a, b⟩ := rfl
theorem toT_len (l : List (Int × Int)) : (toT l).length = l.length := by unfold toT; rw [List.length_map]
theorem cellsT_pr (l : List (Int × Int)) : (cellsT (toT l)).length = l.length * 2 := by rw [cellsT_len, toT_len]
theorem toT_at {l : List (Int × Int)} {k : Nat} (h : k < l.length) : ((toT l).getD k dT).i = (l.getD k (0, 0)).1 ∧ ((toT l).getD k dT).l = (l.getD k (0, 0)).2 := by
  unfold toT
  rw [List.getD_eq_getElem?_getD, List.getElem?_map, List.getElem?_eq_getElem h, List.getD_eq_getElem?_getD, List.getElem?_eq_getElem h]
  exact ⟨rfl, rfl⟩
theorem own_atT {w : World} {base e c g : Nat} {l : List (Int × Int)} (ho : w.ownsRow base e 2 (.slice (some ⟨g, 0, none⟩) l.length c) l.length (cellsT (toT l))) {k : Nat} (h : k < l.length) : w.cell? ⟨g, k * 2, none⟩ = some (.int .i64 (l.getD k (0, 0)).1) := by
  have := cellsT_get (toT l) k (by rw [toT_len]; exact h)
  rw [ho.cellAt (k * 2) (by omega), this.1, (toT_at h).1]
theorem toT_cut (A M B : List (Int × Int)) : cellsT (toT (A ++ (M ++ B))) = cellsT (toT A) ++ (cellsT (toT M) ++ cellsT (toT B)) := by unfold toT; rw [List.map_append, List.map_append, cellsT_append, cellsT_append]
theorem toT_one (a b : Int) : cellsT (toT [(a, b)]) = cT ⟨a, b⟩ := rfl
theorem up23 {k : Int} (h : ¬ k = 2) : decide (k = 3) = decide (k = 2 ∨ k = 3) := by by_cases h3 : k = 3 <;> simp [h3, h]
theorem toT_put (A B : List (Int × Int)) (m s v : Int) : (cellsT (toT (A ++ ([(m, s)] ++ B)))).set (A.length * 2 + 1) (.int .i64 v) = cellsT (toT (A ++ ([(m, v)] ++ B))) := by
  rw [toT_cut, toT_cut, List.set_append_right _ _ (by rw [cellsT_pr]; omega), cellsT_pr, show A.length * 2 + 1 - A.length * 2 = 1 by omega]
  rfl
theorem own_at2 {w : World} {base e c g : Nat} {l : List (Int × Int)} (ho : w.ownsRow base e 2 (.slice (some ⟨g, 0, none⟩) l.length c) l.length (cellsT (toT l))) {k : Nat} (h : k < l.length) : w.cell? ⟨g, k * 2 + 1, none⟩ = some (.int .i64 (l.getD k (0, 0)).2) := by
  have := cellsT_get (toT l) k (by rw [toT_len]; exact h)
  rw [ho.cellAt (k * 2 + 1) (by omega), this.2, (toT_at h).2]

end Go.Proofs.Ytimdoaehlciecaa
