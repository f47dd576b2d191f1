/-
  The walk of the law of FnKeys.
-/
import Derived.Test.YtkfkhfagehcmiaaDoorFkb
import Derived.Test.YtkfkhfagehcmiaaDoorYp
import Derived.Test.YtkfkhfagehcmiaaDoorVu
import Derived.Test.YtkfkhfagehcmiaaDoorKj
import Derived.Test.YtkfkhfagehcmiaaDoorKi
import Derived.Test.YtkfkhfagehcmiaaDoorCmp
import Derived.Deep.QuietTactic
import Derived.BigQuiet
import Derived.Laws.IdiomStrings
namespace Go.Proofs.YtkfkhfagehcmiaaDoor
open Go Go.RowKit
attribute [local go_sem ↓] Go.wp_at_zero Go.wp_at_succ

set_option maxRecDepth 100000 in
set_option maxHeartbeats 4000000 in
theorem c_sameV (a a' : Option Addr) (n cap cap' : Nat) (K : List VV) (w : World) (r : RdC w a n K) (r' : RdC w a' n K) (hn : n ≤ 4096) :
    Calls Tryd.prog 13 #[.slice a n cap, .slice a' n cap'] w fun e w' => e = .returned (.bool true) ∧ Below w.heap.size w w' := by
  have R : Hid (RdC w a n K) := r
  have R' : Hid (RdC w a' n K) := r'
  have hnn : ((n : Int) != (n : Int)) = false := by simp
  clear r r'
  go_enter Tryd.func13, Tryd.ntmps13
  go_wp2
  go_loopw [5] (fun s wr => ∃ k : Nat, k ≤ n ∧ s = .int .i64 (k : Int) ∧ Hid (Below w.heap.size w wr)) (fun s _ => n - (intOf s).toNat)
  case atStart => exact ⟨0, by omega, rfl, Below.refl _ _⟩
  case round =>
    obtain ⟨k, hk, rfl, HB⟩ := hrel
    by_cases hlt : k < n
    · obtain ⟨_, hcs⟩ := R.out.below HB.out
      obtain ⟨ba, off, rfl, hbl, hc⟩ := hcs (by omega)
      obtain ⟨_, hcs2⟩ := R'.out.below HB.out
      obtain ⟨bb, off2, rfl, hbl2, hc2⟩ := hcs2 (by omega)
      obtain ⟨⟨k0, n0, t0⟩, hv⟩ : ∃ v, v = K.getD k dV := ⟨_, rfl⟩
      obtain ⟨d0, d1, d2⟩ := hc k hlt
      obtain ⟨e0, e1, e2⟩ := hc2 k hlt
      rw [← hv] at d0 d1 d2 e0 e1 e2
      simp only at d0 d1 d2 e0 e1 e2
      have ck : (k : Int) < (n : Int) := by omega
      clear hc hcs hc2 hcs2 hv
      go_wp2_with fail
      go_quiet (fail)
      go_wp2
      go_roundw
      case rel => exact ⟨k + 1, by omega, by go_num, below_drewN HB.out _⟩
      case measure => simp [intOf]; omega
    · have cge : ¬ (k : Int) < (n : Int) := by omega
      go_wp2
      go_ret
      exact ⟨rfl, HB.out⟩

end Go.Proofs.YtkfkhfagehcmiaaDoor
