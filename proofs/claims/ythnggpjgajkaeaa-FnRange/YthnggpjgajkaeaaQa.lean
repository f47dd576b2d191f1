/-
  The tree of keys, as a list of nodes.
-/
import Derived.Test.YthnggpjgajkaeaaPf
namespace Go.Proofs.Ythnggpjgajkaeaa
open Go Go.RowKit

theorem cuts_map {α β : Type} (f : α → β) : ∀ (ds : List Nat) (xs : List α), cuts ds (xs.map f) = (cuts ds xs).map (List.map f)
  | [], _ => rfl
  | d :: ds, xs => by
    show _ :: _ = _ :: _
    rw [← List.map_take, ← List.map_drop, cuts_map f ds]
abbrev BR := List ByteArray × List Nat
def mapK (π : Nat → Nat) (v : BR) : BR := (v.1, v.2.map π)
theorem upL_map (π : Nat → Nat) (ds : List Nat) (M : List ByteArray) (ps : List Nat) : upL ds M (ps.map π) = (upL ds M ps).map (mapK π) := by
  unfold upL
  rw [cuts_map, List.zip_map_right, List.map_map, List.map_map]
  rfl
theorem Grown.map (π : Nat → Nat) {ps : List Nat} {M : List ByteArray} {qs : List Nat} {L : List BR} (h : Grown ps M qs L) : Grown (ps.map π) M (qs.map π) (L.map (mapK π)) := by
  induction h with
  | one h => exact .one (by simpa using h)
  | @more ps up qs M L h hl g ih =>
    rw [List.map_append, List.map_append, ← upL_map]
    have := Grown.more (ps := ps.map π) (up := up.map π) (M := M) (qs := qs.map π) (L := L.map (mapK π)) (by simpa using h) (by simpa using hl) (by simpa using ih)
    simpa using this
theorem Grown.lenL {ps : List Nat} {M : List ByteArray} {qs : List Nat} {L : List BR} (h : Grown ps M qs L) : L.length = qs.length := by
  induction h with
  | one h => rfl
  | more h hl g ih => rw [List.length_append, List.length_append, upL_len, hl, ih]
theorem Grown.len {ps : List Nat} {M : List ByteArray} {qs : List Nat} {L : List BR} (h : Grown ps M qs L) : ∀ {ps' : List Nat} {M' : List ByteArray} {qs' : List Nat} {L' : List BR}, Grown ps' M' qs' L' → ps.length = ps'.length → qs.length = qs'.length := by
  induction h with
  | one h =>
    intro ps' M' qs' L' h' e
    cases h' with
    | one _ => rfl
    | more h2 _ _ => omega
  | @more ps up qs M L h hl g ih =>
    intro ps' M' qs' L' h' e
    cases h' with
    | one _ => omega
    | more h2 hl2 g2 =>
      rw [List.length_append, List.length_append, hl, hl2, ih g2 (by rw [hl, hl2, e]), e]
theorem Grown.det {ps : List Nat} {M : List ByteArray} {qs : List Nat} {L : List BR} (h : Grown ps M qs L) : ∀ {qs' : List Nat} {L' : List BR}, Grown ps M qs' L' → qs = qs' → L = L' := by
  induction h with
  | one h =>
    intro qs' L' h' e
    cases h' with
    | one _ => rfl
    | more h2 _ _ => omega
  | @more ps up qs M L h hl g ih =>
    intro qs' L' h' e
    cases h' with
    | one _ => omega
    | more h2 hl2 g2 =>
      obtain ⟨rfl, rfl⟩ := List.append_inj e (by rw [hl, hl2])
      rw [ih g2 rfl]
/-- The kids stand ahead. -/
theorem Grown.low {ps : List Nat} {M : List ByteArray} {qs : List Nat} {L : List BR} (h : Grown ps M qs L) : ∀ (i : Nat) (v : BR), L[i]? = some v → ∀ u ∈ v.2, u ∈ (ps ++ qs).take (ps.length + i) := by
  induction h with
  | one h => intro i v h; simp at h
  | @more ps up qs M L h hl g ih =>
    intro i v hv u hu
    have hUL : (upL (parts 5 ps.length ps.length) M ps).length = up.length := by rw [upL_len, hl]
    rcases Nat.lt_or_ge i up.length with hi | hi
    · rw [List.getElem?_append_left (by omega)] at hv
      have hd : i < (parts 5 ps.length ps.length).length := by omega
      rw [upL_at (List.getElem?_eq_getElem hd)] at hv
      cases hv
      have h1 : u ∈ ps := List.mem_of_mem_drop (List.mem_of_mem_take hu)
      rw [List.take_append]
      exact List.mem_append_left _ (by rw [List.take_of_length_le (by omega)]; exact h1)
    · rw [List.getElem?_append_right (by omega), hUL] at hv
      have := ih _ v hv u hu
      rw [List.take_append, List.take_of_length_le (by omega)]
      refine List.mem_append_right _ ?_
      rw [show ps.length + i - ps.length = up.length + (i - up.length) by omega]
      exact this
/-- No branch that grows is a leaf. -/
theorem Grown.kids {ps : List Nat} {M : List ByteArray} {qs : List Nat} {L : List BR} (h : Grown ps M qs L) : ∀ v ∈ L, 0 < v.2.length ∧ v.2.length ≤ 5 ∧ v.1.length ≤ 5 := by
  induction h with
  | one h => intro v h; cases h
  | @more ps up qs M L h hl g ih =>
    intro v hv
    rcases List.mem_append.1 hv with hv | hv
    · obtain ⟨i, hi⟩ := List.mem_iff_getElem?.1 hv
      have hd : i < (parts 5 ps.length ps.length).length := by
        have := (List.getElem?_eq_some_iff.1 hi).1
        rwa [upL_len] at this
      obtain ⟨d, hdd⟩ : ∃ d, (parts 5 ps.length ps.length)[i]? = some d := ⟨_, List.getElem?_eq_getElem hd⟩
      rw [upL_at hdd] at hi
      cases hi
      have hm := List.mem_of_getElem? hdd
      have := parts_pos (most := 5) (by omega) _ _ d hm
      have s1 := sum_at _ i d hdd
      rw [parts_sum (by omega) _ _ (Nat.le_refl _)] at s1
      dsimp only
      rw [List.length_take, List.length_drop, List.length_drop, List.length_take, List.length_drop]
      omega
    · exact ih v hv
/-- The level of leaves: how many keys each has. -/
def leafP (n : Nat) : List Nat := if n = 0 then [0] else parts 4 n n
def leavesL (keys : List ByteArray) : List BR := leafL (leafP keys.length) keys
def leafM (keys : List ByteArray) : List ByteArray := if keys.length = 0 then [] else upM (leafP keys.length) keys
def sayB (v : BR) : Bool × List ByteArray × List Int := (decide (v.2.length = 0), v.1, v.2.map fun (u : Nat) => (u : Int))
/-- The tree of keys: its nodes. -/
def TreeIs (keys : List ByteArray) (says : List (Bool × List ByteArray × List Int)) : Prop :=
  ∃ qs L, Grown (List.range (leafP keys.length).length) (leafM keys) qs L ∧ qs = List.range' (leafP keys.length).length L.length ∧ says = (leavesL keys ++ L).map sayB
theorem TreeIs.det {keys : List ByteArray} {s s' : List (Bool × List ByteArray × List Int)} (h : TreeIs keys s) (h' : TreeIs keys s') : s = s' := by
  obtain ⟨qs, L, g, e, rfl⟩ := h
  obtain ⟨qs', L', g', e', rfl⟩ := h'
  have hl := g.len g' rfl
  have : L = L' := g.det g' (by rw [e, e', g.lenL, g'.lenL, hl])
  rw [this]
theorem leafP_pos (n : Nat) : 0 < (leafP n).length := by
  unfold leafP
  split
  · decide
  · exact parts_some (by omega) (Nat.le_refl _)
theorem leafP_len (n : Nat) : (leafP n).length ≤ n + 1 := by
  unfold leafP
  split
  · simp
  · have := parts_len 4 n n; omega

end Go.Proofs.Ythnggpjgajkaeaa
