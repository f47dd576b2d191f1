/-
  Records that are drawn are right.
-/
import Derived.Test.YtbjefhdacfijpaaDoorZb
import Derived.Test.YtbjefhdacfijpaaDoorRl
import Derived.Test.YtbjefhdacfijpaaDoorFm
namespace Go.Proofs.YtbjefhdacfijpaaDoor
open Go Go.RowKit
attribute [local go_sem ↓] Go.wp_at_zero Go.wp_at_succ


theorem in_yes {n lo hi : Int} (h : lo ≤ n ∧ n ≤ hi) : inB n lo hi = true := by unfold inB; exact decide_eq_true h
theorem drs1 {e l t : Int} (ht : 1 ≤ t ∧ t ≤ 60) : stepB ⟨e, l, t, 1, 0, 0, 0, 0, ⟨#[]⟩, ⟨#[]⟩⟩ = true := by
  show (inB t 1 60 && true) = true
  rw [in_yes ht]; rfl
theorem drs4 {e l t p : Int} (ht : 1 ≤ t ∧ t ≤ 60) (hp : 1 ≤ p ∧ p ≤ l - 1) : stepB ⟨e, l, t, 4, p, 0, 0, 0, ⟨#[]⟩, ⟨#[]⟩⟩ = true := by
  show (inB p 1 (l - 1) && (inB t 1 60 && true)) = true
  rw [in_yes ht, in_yes hp]; rfl
theorem drs5 {e l t p : Int} (ht : 1 ≤ t ∧ t ≤ 60) (hp : 1 ≤ p ∧ p ≤ l - 1) : stepB ⟨e, l, t, 5, p, 0, 0, 0, ⟨#[]⟩, ⟨#[]⟩⟩ = true := by
  show (inB p 1 (l - 1) && (inB t 1 60 && true)) = true
  rw [in_yes ht, in_yes hp]; rfl
theorem place_yes {g s : Int} (hg : 0 ≤ g ∧ g < 8) (hs : 0 ≤ s ∧ s < 4) : placeB g s = true := by simp [placeB, inB]; omega
theorem drs3 {e l t p n g s : Int} {a : ByteArray} (ht : 1 ≤ t ∧ t ≤ 60) (hp : 1 ≤ p ∧ p ≤ l - 1) (hn : 0 ≤ n ∧ n ≤ l - 1) (hg : 0 ≤ g ∧ g < 8) (hs : 0 ≤ s ∧ s < 4) (ha : a.size ≤ 30) : stepB ⟨e, l, t, 3, p, n, g, s, ⟨#[]⟩, a⟩ = true := by
  show (placeB g s && (decide (a.size ≤ 30) && (inB n 0 (l - 1) && (inB p 1 (l - 1) && (inB t 1 60 && true))))) = true
  rw [in_yes ht, in_yes hp, in_yes hn, place_yes hg hs, decide_eq_true ha]; rfl
theorem drs2 {e l t p g s : Int} {b a : ByteArray} (ht : 1 ≤ t ∧ t ≤ 60) (hp : 1 ≤ p ∧ p ≤ l - 1) (hl : 0 ≤ l - 1) (hg : 0 ≤ g ∧ g < 8) (hs : 0 ≤ s ∧ s < 4) (ha : a.size ≤ 30) (hb : b.size ≤ 30) : stepB ⟨e, l, t, 2, p, 0, g, s, b, a⟩ = true := by
  show (true && (decide (b.size ≤ 30) && (placeB g s && (decide (a.size ≤ 30) && (inB 0 0 (l - 1) && (inB p 1 (l - 1) && (inB t 1 60 && true))))))) = true
  rw [in_yes ht, in_yes hp, in_yes ⟨Int.le_refl _, hl⟩, place_yes hg hs, decide_eq_true ha, decide_eq_true hb]; rfl
theorem numsT_son {xs : List Int} (h : ∀ z ∈ xs, 0 ≤ z ∧ z < 256) : numsT (strOfNums xs) = xs := by
  have e : ∀ t : ByteArray, numsT t = strZ t := fun t => by
    unfold numsT strZ
    rw [ByteArray.toList_eq]
  rw [e]; exact strZ_of h

end Go.Proofs.YtbjefhdacfijpaaDoor
