/-
  LexSql: both sides and the law.
-/
import Derived.Test.YtbpfpjmjmkpjoaaGreatDoorLe
import Derived.Test.YtbpfpjmjmkpjoaaGreatDoorLg
import Derived.Test.YtbpfpjmjmkpjoaaGreatDoorMk
import Derived.Test.YtbpfpjmjmkpjoaaGreatDoorSl
import Derived.Deep.RegionHeld3
import Derived.Deep.DrawnRows
import Derived.BigQuiet
import Derived.Deep.QuietTactic
namespace Go.Proofs.YtbpfpjmjmkpjoaaGreatDoor
open Go Go.RowKit
attribute [local go_sem ↓] Go.wp_at_zero Go.wp_at_succ

set_option linter.unusedVariables false
set_option linter.unusedSimpArgs false
theorem below_grown {w W W' : World} {r : Option Nat} (h : Below w.heap.size w W) (hg : W.grownBy W' r) (hr : ∀ g, r = some g → w.heap.size ≤ g) : Below w.heap.size w W' := ⟨hg.os.trans h.os, hg.tape.trans h.tape, hg.output.trans h.output, Nat.le_trans h.size hg.size, fun j hj => (hg.block j (Nat.lt_of_lt_of_le hj h.size) (fun e => by have := hr j e.symm; omega)).trans (h.block j hj)⟩
theorem own_grown {w w' : World} {B t s n cap : Nat} {a : Option Addr} {r : Option Nat} {xs : List Value} (h : w.ownsRow B t s (.slice a n cap) n xs) (hg : w.grownBy w' r) (hne : ∀ g, ob a = some g → r ≠ some g) : w'.ownsRow B t s (.slice a n cap) n xs := by
  refine h.kept hg ?_
  rw [ob_slice]
  cases e : ob a with
  | none => exact .inl rfl
  | some g => exact .inr (fun q => hne g e q.symm)
set_option maxRecDepth 100000 in
set_option maxHeartbeats 8000000 in
theorem c_specL (t : ByteArray) (w : World) (hs : t.size ≤ maxLen) : Calls Tryz.prog 23 #[.string t] w fun e w' => AnsL w.heap.size (lexR t) e w' ∧ Below w.heap.size w w' := by
  by_cases hbig : (65536 : Int) < (t.size : Int)
  · have E : Hid (lexR t = ([], 2)) := by unfold Hid lexR; rw [if_pos (by omega)]
    go_enter Tryz.func23, Tryz.ntmps23
    go_wp2
    go_ret2
    exact ⟨AnsL.emp E.out (Nat.le_refl _), (Below.refl _ _).alloc (Nat.le_refl _) _⟩
  have C := c_l10Lex t w (by omega)
  have E : Hid (lexR t = lexG t (t.size + 1) (skE t 0) []) := by unfold Hid lexR; rw [if_neg (by omega)]
  rw [E.out]
  obtain ⟨Q, hQ⟩ : ∃ Q, lexG t (t.size + 1) (skE t 0) [] = Q := ⟨_, rfl⟩
  rw [hQ] at C ⊢
  clear hQ E
  go_enter Tryz.func23, Tryz.ntmps23
  go_wp2_with fail
  refine C.mono ?_
  rintro e w1 ⟨⟨a, c, rfl, ho⟩, hb⟩
  have HO : Hid (w1.ownsRow w.heap.size 9 1 (.slice a Q.1.length c) Q.1.length (strs Q.1)) := ho
  clear C ho
  go_wp2
  go_ret2
  exact ⟨⟨a, c, rfl, HO.out⟩, hb⟩
theorem lexG_len (t : ByteArray) : ∀ b i out, out.length ≤ 500 → (lexG t b i out).1.length ≤ 500
  | 0, _, _, h => h
  | b + 1, i, out, h => by
    rw [lexG]
    split
    · split
      · exact Nat.zero_le _
      · split
        · exact Nat.zero_le _
        · rename_i e _ hne
          exact lexG_len t b _ _ (by simp; omega)
    · exact h
theorem lexR_len (t : ByteArray) : (lexR t).1.length ≤ 500 := by
  unfold lexR
  split
  · exact Nat.zero_le _
  · exact lexG_len t _ _ _ (by simp)
end Go.Proofs.YtbpfpjmjmkpjoaaGreatDoor
