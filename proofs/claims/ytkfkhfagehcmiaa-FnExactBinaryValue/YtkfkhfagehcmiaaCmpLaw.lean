/-
  The walk of the law of CompareValues.
-/
import Derived.Test.YtkfkhfagehcmiaaCmp
import Derived.Deep.RegionHeld3
import Derived.Deep.DrawnRows
namespace Go.Proofs.Ytkfkhfagehcmiaa
open Go Go.RowKit
attribute [local go_sem ↓] Go.wp_at_zero Go.wp_at_succ

def vobj (k n : Int) (t : ByteArray) : Obj := .cells #[.int .i64 k, .int .i64 n, .string t] 23
/-- The law's two boxes, as a later world holds them. -/
def Boxes (w : World) (k n : Int) (t : ByteArray) (k' n' : Int) (t' : ByteArray) (x : World) : Prop :=
  Below ((w.alloc (vobj k n t)).alloc (vobj k' n' t')).heap.size ((w.alloc (vobj k n t)).alloc (vobj k' n' t')) x
theorem Boxes.six {w : World} {k n : Int} {t : ByteArray} {k' n' : Int} {t' : ByteArray} {x : World} (h : Boxes w k n t k' n' t' x) :
    x.cell? ⟨w.heap.size, 0, none⟩ = some (.int .i64 k) ∧ x.cell? ⟨w.heap.size, 1, none⟩ = some (.int .i64 n) ∧ x.cell? ⟨w.heap.size, 2, none⟩ = some (.string t) ∧
    x.cell? ⟨w.heap.size + 1, 0, none⟩ = some (.int .i64 k') ∧ x.cell? ⟨w.heap.size + 1, 1, none⟩ = some (.int .i64 n') ∧ x.cell? ⟨w.heap.size + 1, 2, none⟩ = some (.string t') := by
  have e : ∀ b o, b < w.heap.size + 2 → x.cell? ⟨b, o, none⟩ = ((w.alloc (vobj k n t)).alloc (vobj k' n' t')).cell? ⟨b, o, none⟩ := fun b o hb => Below.cell h (p := ⟨b, o, none⟩) (by simpa using hb)
  refine ⟨?_, ?_, ?_, ?_, ?_, ?_⟩
  all_goals
    rw [e _ _ (by omega)]
    simp [vobj, go_sem]
theorem Boxes.later {w : World} {k n : Int} {t : ByteArray} {k' n' : Int} {t' : ByteArray} {x y : World} (h : Boxes w k n t k' n' t' x) (hb : Below x.heap.size x y) : Boxes w k n t k' n' t' y :=
  Below.trans h (hb.mono (Below.size h))
theorem Boxes.drew {w : World} {k n : Int} {t : ByteArray} {k' n' : Int} {t' : ByteArray} {x : World} (h : Boxes w k n t k' n' t' x) : Boxes w k n t k' n' t' x.drew := Below.drew h
theorem Boxes.below {w : World} {k n : Int} {t : ByteArray} {k' n' : Int} {t' : ByteArray} {x : World} (h : Boxes w k n t k' n' t' x) : Below w.heap.size w x :=
  (((Below.refl w.heap.size w).alloc (Nat.le_refl _) _).alloc (by simp) _).trans (Below.mono h (by simp; omega))

theorem Boxes.all {w : World} {k n : Int} {t : ByteArray} {k' n' : Int} {t' : ByteArray} {x : World} (h : Boxes w k n t k' n' t' x) : Boxes w k n t k' n' t' x ∧ x.cell? ⟨w.heap.size, 0, none⟩ = some (.int .i64 k) ∧ x.cell? ⟨w.heap.size, 1, none⟩ = some (.int .i64 n) ∧ x.cell? ⟨w.heap.size, 2, none⟩ = some (.string t) ∧ x.cell? ⟨w.heap.size + 1, 0, none⟩ = some (.int .i64 k') ∧ x.cell? ⟨w.heap.size + 1, 1, none⟩ = some (.int .i64 n') ∧ x.cell? ⟨w.heap.size + 1, 2, none⟩ = some (.string t') := ⟨h, h.six⟩

set_option maxHeartbeats 2000000 in
theorem law6 (k n : Int) (t : ByteArray) (k' n' : Int) (t' : ByteArray) (w : World) (hs : t.size ≤ maxLen) (hs' : t'.size ≤ maxLen) :
    Calls Try.prog 7 #[.agg #[.int .i64 k, .int .i64 n, .string t], .agg #[.int .i64 k', .int .i64 n', .string t']] w fun e w' => e = .returned (.bool true) ∧ Below w.heap.size w w' := by
  have gs := hs
  unfold maxLen at gs
  go_enter Try.func7, Try.ntmps7
  go_wp2_with fail
  refine (c_sz _ _ _ _ _ hs (by omega) (by omega)).mono ?_
  rintro e w1 ⟨rfl, hb1⟩
  have HB1 : Boxes w k n t k' n' t' w1 := hb1
  clear hb1
  by_cases h : (1048576 : Int) - t.size < 0
  · rw [if_pos h]
    go_wp2
    go_ret
    exact ⟨rfl, HB1.below⟩
  · rw [if_neg h]
    obtain ⟨q0, q1, q2, q3, q4, q5⟩ := HB1.six
    go_wp2_with fail
    refine (c_sz _ _ _ _ _ hs' (by omega) (by omega)).mono ?_
    rintro e w2 ⟨rfl, hb2⟩
    have HB2 := HB1.later hb2
    clear q0 q1 q2 q3 q4 q5 hb2
    by_cases h' : (1048576 : Int) - t.size - t'.size < 0
    · rw [if_pos h']
      go_wp2
      go_ret
      exact ⟨rfl, HB2.below⟩
    · rw [if_neg h']
      obtain ⟨q0, q1, q2, q3, q4, q5⟩ := HB2.six
      go_wp2_with fail
      go_region_held3 (fun x => Boxes w k n t k' n' t' x ∧ x.cell? ⟨w.heap.size, 0, none⟩ = some (.int .i64 k) ∧ x.cell? ⟨w.heap.size, 1, none⟩ = some (.int .i64 n) ∧ x.cell? ⟨w.heap.size, 2, none⟩ = some (.string t) ∧ x.cell? ⟨w.heap.size + 1, 0, none⟩ = some (.int .i64 k') ∧ x.cell? ⟨w.heap.size + 1, 1, none⟩ = some (.int .i64 n') ∧ x.cell? ⟨w.heap.size + 1, 2, none⟩ = some (.string t'))
        (first | (exact (Boxes.drew HB2).all) | (go_split_ands; exact (Boxes.later (by assumption) hb3).all) | (exact (Boxes.later (by assumption) hb3).all))
        (first | (go_at_call 14; refine (c_to _ _ _ _).mono ?_; rintro e w3 ⟨rfl, hb3⟩) | (go_at_call 22; refine (c_specCmp _ _ _ _ _ _ _ hs hs').mono ?_; rintro e w3 ⟨rfl, hb3⟩))
      rename_i hH3
      have HB3 := hH3.1
      clear hH3 q0 q1 q2 q3 q4 q5
      obtain ⟨q0, q1, q2, q3, q4, q5⟩ := HB3.six
      go_wp2_with fail
      go_region_held3 (fun x => Boxes w k n t k' n' t' x ∧ x.cell? ⟨w.heap.size, 0, none⟩ = some (.int .i64 k) ∧ x.cell? ⟨w.heap.size, 1, none⟩ = some (.int .i64 n) ∧ x.cell? ⟨w.heap.size, 2, none⟩ = some (.string t) ∧ x.cell? ⟨w.heap.size + 1, 0, none⟩ = some (.int .i64 k') ∧ x.cell? ⟨w.heap.size + 1, 1, none⟩ = some (.int .i64 n') ∧ x.cell? ⟨w.heap.size + 1, 2, none⟩ = some (.string t'))
        (first | (exact (Boxes.drew HB3).all) | (go_split_ands; exact (Boxes.later (by assumption) hb4).all) | (exact (Boxes.later (by assumption) hb4).all))
        (first | (go_at_call 14; refine (c_to _ _ _ _).mono ?_; rintro e w4 ⟨rfl, hb4⟩) | (go_at_call 23; refine (c_implCmp _ _ _ _ _ _ _ hs hs').mono ?_; rintro e w4 ⟨rfl, hb4⟩))
      rename_i hH4
      have HB4 := hH4.1
      clear hH4
      go_wp2
      go_ret
      exact ⟨rfl, HB4.below⟩
end Go.Proofs.Ytkfkhfagehcmiaa
