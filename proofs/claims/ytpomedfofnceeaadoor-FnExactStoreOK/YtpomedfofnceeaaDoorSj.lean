/-
  Walks over slices of numbers and of strings: their sizes, and the marks that the laws write into them and look for.
-/
import Derived.Test.YtpomedfofnceeaaDoorSi
import Derived.Deep.RegionHeld3
import Derived.Deep.DrawnRows
namespace Go.Proofs.YtpomedfofnceeaaDoor
open Go Go.RowKit
attribute [local go_sem ↓] Go.wp_at_zero Go.wp_at_succ

/-- The marks of numbers: k0, k0 + 1, .. -/
def marksI (k0 n : Nat) : List Int := (List.range n).map fun i => ((k0 + i : Nat) : Int)
theorem marksI_get (k0 n k : Nat) (h : k < n) : ((marksI k0 n).map (Value.int .i64))[k]? = some (.int .i64 ((k0 + k : Nat) : Int)) := by
  unfold marksI; rw [List.getElem?_map, List.getElem?_map, List.getElem?_range h]; rfl
theorem marksI_len (k0 n : Nat) : ((marksI k0 n).map (Value.int .i64)).length = n := by simp [marksI]
set_option maxRecDepth 100000 in
set_option maxHeartbeats 1000000 in
theorem c_markI (base : Nat) (v : Value) (n k0 : Nat) (xs : List Value) (w : World) (hown : w.ownsRow base 3 1 v n xs) (hn : n ≤ 2097152) (hk : k0 ≤ 8388608) :
    Calls Tryd.prog 99 #[v, .int .i64 k0] w fun e w' => e = .returned (.int .i64 (k0 + n : Nat)) ∧ w'.ownsRow base 3 1 v n ((marksI k0 n).map (Value.int .i64)) ∧ w.grownBy w' v.ownBlock := by
  have hxl : xs.length = n := by simpa using hown.1
  rcases own_form hown with ⟨rfl, rfl⟩ | ⟨g, cap, rfl, hg1, hg2⟩
  · go_enter Tryd.func99, Tryd.ntmps99
    go_wp2
    refine wp_loop_rounds 1 ?_
    rw [rounds_succ]
    go_wp2
    go_ret
    exact ⟨by simp, by simpa [marksI] using World.ownsRow_nil w base 3 1, World.grownBy.refl _ _⟩
  · go_enter Tryd.func99, Tryd.ntmps99
    go_wp2
    go_loopw [1, 5] (fun m i wr => ∃ k : Nat, k ≤ n ∧ i = .int .i64 k ∧ m = .int .i64 ((k0 + k : Nat) : Int) ∧ wr.ownsRow base 3 1 (.slice (some ⟨g, 0, none⟩) n cap) n (mixV ((marksI k0 n).map (Value.int .i64)) xs k) ∧ w.grownBy wr (some g)) (fun _ i _ => n - (intOf i).toNat)
    case atStart => exact ⟨0, by omega, rfl, rfl, by rw [mixV_zero]; exact hown, World.grownBy.refl _ _⟩
    case round =>
      obtain ⟨k, hk, rfl, rfl, hown, hgr⟩ := hrel
      by_cases hlt : k < n
      · obtain ⟨old, hold⟩ : ∃ old, wr.cell? ⟨g, k, none⟩ = some old := by
          rw [hown.cellAt k (by omega)]
          exact ⟨_, List.getElem?_eq_getElem (by rw [hown.1]; omega)⟩
        have hfz := hown.frozenAt k
        obtain ⟨hown2, hgr2⟩ := hown.stored k (.int .i64 ((k0 : Int) + (k : Int)))
        rw [mixV_step _ _ n k _ hxl (marksI_len _ _) hlt (by rw [marksI_get _ _ _ hlt]; simp)] at hown2
        have HO : Hid (_) := hown2
        have HG : Hid (_) := hgr.trans hgr2
        clear hown2 hgr2
        go_wp2
        go_roundw
        case rel => exact ⟨k + 1, by omega, by go_num, by go_num, HO.out, HG.out⟩
        case measure => simp [intOf]; omega
      · have e : k = n := by omega
        subst e
        rw [mixV_full _ _ k hxl (marksI_len _ _)] at hown
        go_wp2
        go_ret
        exact ⟨rfl, hown, hgr⟩
set_option maxRecDepth 100000 in
set_option maxHeartbeats 1000000 in
theorem c_heldI (a : Option Addr) (n cap k0 : Nat) (w : World) (hr : RdV w a n ((marksI k0 n).map (Value.int .i64))) (hn : n ≤ 2097152) (hk : k0 ≤ 8388608) :
    Calls Tryd.prog 124 #[.slice a n cap, .int .i64 k0] w fun e w' => e = .returned (.int .i64 (k0 + n : Nat)) ∧ w' = w := by
  obtain ⟨hl, hcs⟩ := hr
  go_enter Tryd.func124, Tryd.ntmps124
  go_wp2
  go_loop [1, 5] (fun m i => ∃ k : Nat, k ≤ n ∧ i = .int .i64 k ∧ m = .int .i64 ((k0 + k : Nat) : Int)) (fun _ i => n - (intOf i).toNat)
  case atStart => exact ⟨0, by omega, rfl, rfl⟩
  case round =>
    obtain ⟨k, hk, rfl, rfl⟩ := hrel
    by_cases hlt : k < n
    · obtain ⟨b, off, rfl, _, hc⟩ := hcs (by omega)
      have hck : w.cell? ⟨b, off + k, none⟩ = some (.int .i64 ((k0 : Int) + (k : Int))) := by
        rw [hc k hlt, marksI_get _ _ _ hlt]; simp
      clear hc hcs
      go_wp2
      go_round
      case rel => exact ⟨k + 1, by omega, by go_num, by go_num⟩
      case measure => simp [intOf]; omega
    · have e : k = n := by omega
      subst e
      go_wp2
      go_ret
      exact ⟨rfl, rfl⟩
set_option maxRecDepth 100000 in
set_option maxHeartbeats 1000000 in
theorem c_szI (a : Option Addr) (n cap : Nat) (left : Int) (w : World) (hm : n ≤ maxLen) (h0 : 0 ≤ left) (h1 : left ≤ 1048576) :
    Calls Tryd.prog 86 #[.slice a n cap, .int .i64 left] w fun e w' => e = .returned (.int .i64 (if left - n < 0 then -1 else left - n)) ∧ w' = w := by
  unfold maxLen at hm
  by_cases hn : left - n < 0
  · rw [if_pos hn]
    go_enter Tryd.func86, Tryd.ntmps86
    go_wp2
    go_ret
    exact ⟨rfl, rfl⟩
  · rw [if_neg hn]
    go_enter Tryd.func86, Tryd.ntmps86
    go_wp2
    go_ret
    exact ⟨rfl, rfl⟩

/-! ### The marks of texts -/

end Go.Proofs.YtpomedfofnceeaaDoor
