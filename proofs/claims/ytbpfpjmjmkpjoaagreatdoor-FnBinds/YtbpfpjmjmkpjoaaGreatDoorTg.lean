/-
  rowWords: the three words of a row.
-/
import Derived.Test.YtbpfpjmjmkpjoaaGreatDoorBx
import Derived.Deep.RegionHeld3
namespace Go.Proofs.YtbpfpjmjmkpjoaaGreatDoor
open Go Go.RowKit
attribute [local go_sem ↓] Go.wp_at_zero Go.wp_at_succ

set_option linter.unusedVariables false
set_option linter.unusedSimpArgs false
def strs (xs : List ByteArray) : List Value := xs.map .string
theorem strs_one (xs : List ByteArray) (x : ByteArray) : strs (xs ++ [x]) = strs xs ++ [.string x] := by simp [strs]
theorem infoStr : (Tryz.prog.info? 9).map (fun i => (i.zero, i.size, i.bytes)) = some (some (.string ⟨#[]⟩), 1, 16) := by kernel_rfl
theorem one_str (x : ByteArray) : ∀ y ∈ [Value.string x], y.oneCell' = true := by
  intro y hy
  simp only [List.mem_cons, List.not_mem_nil, or_false] at hy
  subst hy; rfl
theorem new_at (X : World) (x : ByteArray) (g : Nat) (hg : X.heap.size = g) : ∀ ad, some (⟨g, 0, none⟩ : Addr) = some ad → ∀ j y, ([Value.string x])[j]? = some y → (X.alloc (.cells #[.string x] 9)).cell? (ad.add j) = some y := by
  intro ad ea j y hj
  cases ea
  have hx := (Box.new X #[.string x] 9).cell j
  rw [hg] at hx
  rw [addr_add, Nat.zero_add, hx]
  simpa using hj
theorem own_blk {w : World} {B n cap : Nat} {a : Option Addr} {xs : List Value} (h : w.ownsRow B 9 1 (.slice a n cap) n xs) : ∀ g, ob a = some g → B ≤ g ∧ g < w.heap.size := fun g hg => by
  rcases own_form h with ⟨e, _⟩ | ⟨g', c', hv, hb, hl⟩
  · simp only [Value.slice.injEq] at e; rw [e.1] at hg; cases hg
  · simp only [Value.slice.injEq] at hv; rw [hv.1] at hg; cases hg; exact ⟨hb, hl⟩

end Go.Proofs.YtbpfpjmjmkpjoaaGreatDoor
