/-
  The order of keys: the mathematics.
-/
import Derived.Test.YtkfkhfagehcmiaaDoorYm
namespace Go.Proofs.YtkfkhfagehcmiaaDoor
open Go Go.RowKit
attribute [local go_sem ↓] Go.wp_at_zero Go.wp_at_succ


def lessZ : List Int → List Int → Bool
  | [], [] => false
  | [], _ :: _ => true
  | _ :: _, [] => false
  | a :: l, b :: m => if a < b then true else if b < a then false else lessZ l m
theorem lessZ_irr : ∀ l : List Int, lessZ l l = false
  | [] => rfl
  | a :: l => by rw [lessZ, if_neg (by omega), if_neg (by omega)]; exact lessZ_irr l
theorem lessZ_end : ∀ (l m : List Int), (∀ z ∈ l, 0 < z) → (∀ z ∈ m, 0 < z) → lessZ (l ++ [0]) (m ++ [0]) = lessZ l m
  | [], [], _, _ => rfl
  | [], b :: m, _, h => by
    have := h b (List.mem_cons_self ..)
    show (if (0 : Int) < b then true else _) = _
    rw [if_pos this]; rfl
  | a :: l, [], h, _ => by
    have := h a (List.mem_cons_self ..)
    show (if a < 0 then true else if 0 < a then false else _) = _
    rw [if_neg (by omega), if_pos this]; rfl
  | a :: l, b :: m, h, h' => by
    have ih := lessZ_end l m (fun z hz => h z (List.mem_cons_of_mem _ hz)) (fun z hz => h' z (List.mem_cons_of_mem _ hz))
    show (if a < b then true else if b < a then false else lessZ (l ++ [0]) (m ++ [0])) = _
    rw [ih]
    rfl
theorem less_num {u v : Int} : lessZ (numZ u) (numZ v) = decide (u < v) := by
  simp only [numZ, lessZ]
  by_cases h1 : u / 16777216 < v / 16777216
  · rw [if_pos h1, decide_eq_true (by omega)]
  rw [if_neg h1]
  by_cases h2 : v / 16777216 < u / 16777216
  · rw [if_pos h2, decide_eq_false (by omega)]
  rw [if_neg h2]
  by_cases h3 : u / 65536 % 256 < v / 65536 % 256
  · rw [if_pos h3, decide_eq_true (by omega)]
  rw [if_neg h3]
  by_cases h4 : v / 65536 % 256 < u / 65536 % 256
  · rw [if_pos h4, decide_eq_false (by omega)]
  rw [if_neg h4]
  by_cases h5 : u / 256 % 256 < v / 256 % 256
  · rw [if_pos h5, decide_eq_true (by omega)]
  rw [if_neg h5]
  by_cases h6 : v / 256 % 256 < u / 256 % 256
  · rw [if_pos h6, decide_eq_false (by omega)]
  rw [if_neg h6]
  by_cases h7 : u % 256 < v % 256
  · rw [if_pos h7, decide_eq_true (by omega)]
  rw [if_neg h7]
  by_cases h8 : v % 256 < u % 256
  · rw [if_pos h8, decide_eq_false (by omega)]
  rw [if_neg h8, decide_eq_false (by omega)]
theorem lessZ_bytes : ∀ (l m : List UInt8), lessZ (l.map fun b => (b.toNat : Int)) (m.map fun b => (b.toNat : Int)) = Op.bytesLess l m
  | [], [] => rfl
  | [], _ :: _ => rfl
  | _ :: _, [] => rfl
  | a :: l, b :: m => by
    have ih := lessZ_bytes l m
    simp only [List.map_cons, lessZ, Op.bytesLess, ih]
    by_cases h1 : a < b
    · have : (a.toNat : Int) < b.toNat := by have := UInt8.lt_iff_toNat_lt.1 h1; omega
      simp [h1, this]
    · have n1 : ¬ (a.toNat : Int) < b.toNat := fun h => h1 (UInt8.lt_iff_toNat_lt.2 (by omega))
      by_cases h2 : b < a
      · have : (b.toNat : Int) < a.toNat := by have := UInt8.lt_iff_toNat_lt.1 h2; omega
        have ne : ¬ a = b := by intro e; subst e; exact h1 h2
        simp [h1, n1, this, ne]
      · have n2 : ¬ (b.toNat : Int) < a.toNat := fun h => h2 (UInt8.lt_iff_toNat_lt.2 (by omega))
        have e : a = b := UInt8.toNat_inj.1 (by omega)
        subst e
        simp

end Go.Proofs.YtkfkhfagehcmiaaDoor
