/-
  Keys that are read: the specification's ReadKey, and marks in values.
-/
import Derived.Test.YtkfkhfagehcmiaaKk
import Derived.Test.YtkfkhfagehcmiaaVm
namespace Go.Proofs.Ytkfkhfagehcmiaa
open Go Go.RowKit
attribute [local go_sem ↓] Go.wp_at_zero Go.wp_at_succ


set_option maxRecDepth 100000 in
set_option maxHeartbeats 2000000 in
theorem c_specQ (a : Option Addr) (n cap : Nat) (zs : List Int) (w : World) (hr : RdV w a n (zs.map (Value.int .u8))) (hz : ∀ z ∈ zs, 0 ≤ z ∧ z < 256) (hn : n ≤ 1048576) :
    Calls Try.prog 33 #[.slice a n cap] w (AnsQ w zs) := by
  have hl : zs.length = n := by simpa using hr.1
  by_cases h6 : 65536 < n
  · have E : Hid (errQ zs = 2 ∧ resQ zs = []) := ansQ2 (by omega)
    clear hr hz
    go_enter Try.func33, Try.ntmps33
    go_wp2
    go_ret2
    exact ansQ_empty E.out (Below.refl _ _)
  · have HL : Hid (¬ 65536 < zs.length) := by unfold Hid; omega
    obtain ⟨y, hy⟩ : ∃ y, y = strOfNums zs := ⟨_, rfl⟩
    have hcv : (convert 31 9 (.slice a n cap)).run Try.prog w = .ok (.string y) w := by rw [hy]; exact conv8 hr
    have C : Calls Try.prog 60 #[.string y] w (AnsJ w zs) := by rw [hy]; exact c_lRK zs w hz (by omega)
    clear hr hz hy
    unfold AnsJ at C
    cases hk : rk zs with
    | none =>
      rw [hk] at C
      have E : Hid (errQ zs = 3 ∧ resQ zs = []) := ansQ3 HL.out hk
      have HC : Hid (Calls Try.prog 60 #[.string y] w fun e w' => ∃ v, e = .returned (.tuple #[v, .bool false]) ∧ w'.ownsRow w.heap.size 25 3 v 0 (cellsV []) ∧ Below w.heap.size w w') := C
      clear C hk
      go_enter Try.func33, Try.ntmps33
      go_wp2_with fail
      refine HC.out.mono ?_
      rintro e w1 ⟨v, rfl, ho, hb⟩
      clear ho HC
      go_wp2
      go_ret2
      exact ansQ_empty E.out hb
    | some l =>
      rw [hk] at C
      have HC : Hid (Calls Try.prog 60 #[.string y] w fun e w' => ∃ v, e = .returned (.tuple #[v, .bool true]) ∧ w'.ownsRow w.heap.size 25 3 v l.length (cellsV l) ∧ Below w.heap.size w w') := C
      have HK : Hid (rk zs = some l) := hk
      clear C hk
      go_enter Try.func33, Try.ntmps33
      go_wp2_with fail
      refine HC.out.mono ?_
      rintro e w1 ⟨v, rfl, ho, hb⟩
      obtain ⟨av, cv, hv⟩ := own_slice' ho
      subst hv
      clear HC
      by_cases h4 : 4096 < l.length
      · have E : Hid (errQ zs = 6 ∧ resQ zs = []) := ansQ6 HL.out HK.out h4
        go_wp2
        go_ret2
        exact ansQ_empty E.out hb
      · have E : Hid (errQ zs = 0 ∧ resQ zs = l) := ansQ0 HL.out HK.out h4
        go_wp2
        go_ret2
        exact ansQ_own E.out ho hb
theorem resQ_len (zs : List Int) : (resQ zs).length ≤ 4096 := by
  unfold resQ
  split
  · simp
  · cases rk zs with
    | none => simp
    | some l =>
      show (if 4096 < l.length then [] else l).length ≤ 4096
      split
      · simp
      · omega
set_option maxRecDepth 100000 in
set_option maxHeartbeats 2000000 in
theorem c_heldV (a : Option Addr) (n cap k0 : Nat) (w : World) (hr : RdC w a n (marksV k0 n)) (h1 : 1 ≤ k0) (hn : n ≤ 1048576) (hk : k0 ≤ 1000) :
    Calls Try.prog 36 #[.slice a n cap, .int .i64 k0] w fun e w' => e = .returned (.int .i64 (k0 + n * 3 : Nat)) ∧ Below w.heap.size w w' := by
  obtain ⟨hl, hcs⟩ := hr
  go_enter Try.func36, Try.ntmps36
  go_wp2
  go_loopw [1, 5] (fun m i wr => ∃ k : Nat, k ≤ n ∧ i = .int .i64 k ∧ m = .int .i64 ((k0 + k * 3 : Nat) : Int) ∧ Below w.heap.size w wr) (fun _ i _ => n - (intOf i).toNat)
  case atStart => exact ⟨0, by omega, rfl, by simp, Below.refl _ _⟩
  case round =>
    obtain ⟨k, hk, rfl, rfl, hb⟩ := hrel
    by_cases hlt : k < n
    · obtain ⟨b, off, rfl, hbl, hc⟩ := hcs (by omega)
      obtain ⟨d0, d1, d2⟩ := hc k hlt
      rw [marksV_get _ _ _ hlt] at d0 d1 d2
      have e0 : wr.cell? ⟨b, off + k * 3, none⟩ = some (.int .i64 ((k0 : Int) + (k : Int) * 3)) := by rw [hb.cell (p := ⟨b, off + k * 3, none⟩) hbl, d0]; unfold mV; simp
      have e1 : wr.cell? ⟨b, off + k * 3 + 1, none⟩ = some (.int .i64 ((k0 : Int) + (k : Int) * 3 + 1)) := by rw [hb.cell (p := ⟨b, off + k * 3 + 1, none⟩) hbl, d1]; unfold mV; simp
      have e2 : wr.cell? ⟨b, off + k * 3 + 2, none⟩ = some (.string (mtext (k0 + k * 3 + 2))) := by rw [hb.cell (p := ⟨b, off + k * 3 + 2, none⟩) hbl, d2]; rfl
      have g1 : (0 : Int) ≤ (k : Int) := by omega
      have g2 : (k : Int) < (n : Int) := by omega
      clear hc hcs d0 d1 d2
      go_wp2_with fail
      go_region_held3 (fun x => x.cell? ⟨b, off + k * 3 + 2, none⟩ = some (.string (mtext (k0 + k * 3 + 2)))) (first | go_keep | (rw [hb3.cell (p := ⟨b, off + k * 3 + 2, none⟩) (World.block_lt_of_cell? _ ⟨b, off + k * 3 + 2, none⟩ (by assumption))]; assumption))
        (first | (go_at_call 59; refine (c_mtextI _ (k0 + k * 3 + 2) _ (by omega) (by omega) (by omega)).mono ?_; rintro e w3 ⟨rfl, hb3⟩))
      have hb' : Below w.heap.size w w3 := hb.drew.trans (hb3.mono hb.size)
      clear hb3 e0 e1 e2
      go_wp2
      go_roundw
      case rel => exact ⟨k + 1, by omega, by go_num, by go_num, hb'⟩
      case measure => simp [intOf]; omega
    · have e : k = n := by omega
      subst e
      go_wp2
      go_ret
      exact ⟨rfl, hb⟩

end Go.Proofs.Ytkfkhfagehcmiaa
