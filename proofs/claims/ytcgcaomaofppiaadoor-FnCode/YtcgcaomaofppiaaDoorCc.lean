/-
  The library's Repeat of one number, and its Max.
-/
import Derived.Test.YtcgcaomaofppiaaDoorCb
import Derived.Laws.CopyOwn
namespace Go.Proofs.YtcgcaomaofppiaaDoor
open Go Go.RowKit
attribute [local go_sem ↓] Go.wp_at_zero Go.wp_at_succ

theorem and_low : ∀ c : Fin 82, bits .and .u64 ((c.val : Nat) : Int) 4294967295 = (c.val : Int) := by decide +kernel
theorem and_of {c : Nat} (hc : c ≤ 81) : bits .and .u64 (c : Int) 4294967295 = (c : Int) := and_low ⟨c, by omega⟩
theorem u64w {c : Nat} (hc : c ≤ 81) : IntKind.wrap .u64 (c : Int) = (c : Int) := by
  have := hc
  simp [IntKind.wrap, IntKind.signed, IntKind.bits]
  omega
set_option maxRecDepth 100000 in
set_option maxHeartbeats 4000000 in
theorem mul64_1 (c : Nat) (hc : c ≤ 81) (w : World) : Calls Tryd.prog 92 #[.int .u64 1, .int .u64 (c : Int)] w fun e w' => e = .returned (.tuple #[.int .u64 0, .int .u64 (c : Int)]) ∧ w' = w := by
  have b1 : bits .and .u64 1 4294967295 = 1 := and_of (c := 1) (by omega)
  have b0 : bits .and .u64 0 4294967295 = 0 := and_of (c := 0) (by omega)
  have bc := and_of hc
  have hw := u64w hc
  have w0 : IntKind.wrap .u64 0 = 0 := u64w (c := 0) (by omega)
  have hd : (c : Int) / 4294967296 = 0 := by omega
  go_enter Tryd.func92, Tryd.ntmps92
  go_wp2
  go_ret2
  exact ⟨rfl, rfl⟩
set_option maxRecDepth 100000 in
set_option maxHeartbeats 4000000 in
theorem mul_1 (c : Nat) (hc : c ≤ 81) (w : World) : Calls Tryd.prog 86 #[.int .u64 1, .int .u64 (c : Int)] w fun e w' => e = .returned (.tuple #[.int .u64 0, .int .u64 (c : Int)]) ∧ w' = w := by
  go_enter Tryd.func86, Tryd.ntmps86
  go_wp2_with (go_at_call 92; refine (mul64_1 c hc _).mono ?_; rintro e w' ⟨rfl, rfl⟩)
  go_ret2
  exact ⟨rfl, rfl⟩

end Go.Proofs.YtcgcaomaofppiaaDoor
