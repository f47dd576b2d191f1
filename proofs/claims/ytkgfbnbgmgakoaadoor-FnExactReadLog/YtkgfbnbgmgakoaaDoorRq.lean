/-
  DiskRead: the program's and the specification's.
-/
import Derived.Test.YtkgfbnbgmgakoaaDoorRd
namespace Go.Proofs.YtkgfbnbgmgakoaaDoor
open Go Go.RowKit
attribute [local go_sem ↓] Go.wp_at_zero Go.wp_at_succ


theorem c_in3 (n lo hi : Int) (w : World) : Calls Tryd.prog 72 #[.int .i64 n, .int .i64 lo, .int .i64 hi] w fun e w' => e = .returned (.bool (inB n lo hi)) ∧ w = w' := (c_in n lo hi w).mono fun _ _ h => ⟨h.1, h.2.symm⟩
theorem bkL_at {C : List PP} {n p : Nat} {xa : Int} {xt : ByteArray} (hp : p < n) (hx : (xa, xt) = C.getD p dP) : bkL C n (n - 1 - p + 1) = bkL C n (n - 1 - p) ++ [(p, xa, xt)] := by
  rw [bkL_succ]
  congr 2
  unfold bkF
  rw [show n - 1 - (n - 1 - p) = p by omega, ← hx]
set_option maxRecDepth 100000 in
set_option maxHeartbeats 2000000 in
theorem c_l02Read (a0 : Option Addr) (n0 c0 : Nat) (a1 : Option Addr) (n1 c1 : Nat) (b : Bool) (a2 : Option Addr) (n2 c2 : Nat) (S : List ByteArray) (C : List PP) (j : Nat) (w : World)
    (r0 : RdV w a0 n0 (S.map Value.string)) (r1 : RdP w a1 n1 C) (hj : j < n0) (hn0 : n0 ≤ 1048576) (hn1 : n1 ≤ 1048576) :
    Calls Tryd.prog 127 #[.agg #[.slice a0 n0 c0, .slice a1 n1 c1, .bool b, .slice a2 n2 c2], .int .i64 (j : Int)] w fun e W' => e = .returned (.string (rdS S C j)) ∧ Below w.heap.size w W' := by
  have l0 : S.length = n0 := by simpa using r0.1
  have l1 := r1.1
  have R0 : Hid (RdV w a0 n0 (S.map Value.string)) := r0
  have R1 : Hid (RdP w a1 n1 C) := r1
  obtain ⟨V, hV⟩ : ∃ V, w.alloc (.cells #[.slice a0 n0 c0, .slice a1 n1 c1, .bool b, .slice a2 n2 c2] 26) = V := ⟨_, rfl⟩
  have HB : Hid (Below w.heap.size w V) := by unfold Hid; rw [← hV]; exact (Below.refl _ _).alloc (Nat.le_refl _) _
  have bx : Box V w.heap.size 26 #[.slice a0 n0 c0, .slice a1 n1 c1, .bool b, .slice a2 n2 c2] := by rw [← hV]; exact Box.new _ _ _
  obtain ⟨v0, v1, v2, v3⟩ := box4 bx
  clear r0 r1 bx
  go_enter Tryd.func127, Tryd.ntmps127
  go_wp2
  go_loop [5] (fun i => (∃ p : Nat, i = .int .i64 p ∧ p < n1 ∧ Hid (fdB (bkL C n1 (n1 - 1 - p)) j = none)) ∨ (i = .int .i64 (-1) ∧ Hid (fdB (bkL C n1 n1) j = none))) (fun i => (intOf i + 1).toNat)
  case atStart =>
    rcases Nat.eq_zero_or_pos n1 with h | h
    · subst h
      exact .inr ⟨rfl, rfl⟩
    · refine .inl ⟨n1 - 1, by go_num, by omega, ?_⟩
      rw [show n1 - 1 - (n1 - 1) = 0 by omega]
      exact rfl
  case round =>
    rcases hrel with ⟨p, rfl, hp, HN⟩ | ⟨rfl, HN⟩
    · obtain ⟨bb, off, ha, hbl, hc⟩ := R1.out.2 (by omega)
      obtain ⟨⟨xa, xt⟩, hx⟩ : ∃ x, x = C.getD p dP := ⟨_, rfl⟩
      obtain ⟨d0, d1⟩ := hc p hp
      rw [← hx] at d0 d1
      have e0 : V.cell? ⟨bb, off + p * 2, none⟩ = some (.int .i64 xa) := (HB.out.cell (p := ⟨bb, off + p * 2, none⟩) hbl).trans d0
      have e1 : V.cell? ⟨bb, off + p * 2 + 1, none⟩ = some (.string xt) := (HB.out.cell (p := ⟨bb, off + p * 2 + 1, none⟩) hbl).trans d1
      rw [ha] at v1
      have HA : Hid (bkL C n1 (n1 - 1 - p + 1) = bkL C n1 (n1 - 1 - p) ++ [(p, xa, xt)]) := bkL_at hp hx
      clear hc hx d0 d1 ha
      by_cases he : xa = (j : Int)
      · have hbe : (xa == (j : Int)) = true := by simpa using he
        have E : Hid (rdS S C j = xt) := by
          have h2 : fdB (bkL C n1 (n1 - 1 - p + 1)) j = some (p, xa, xt) := by rw [HA.out]; exact fdB_yes HN.out he
          exact rdS_hit (S := S) (C := C) (k := n1 - 1 - p + 1) (show n1 - 1 - p + 1 ≤ C.length by omega) (by rw [l1]; exact h2)
        clear he
        go_wp2
        go_ret
        exact ⟨ret_str E.out.symm, HB.out⟩
      · have hbe : (xa == (j : Int)) = false := by simpa using he
        have HN2 : Hid (fdB (bkL C n1 (n1 - 1 - p + 1)) j = none) := by unfold Hid; rw [HA.out]; exact fdB_no HN.out he
        clear he
        go_wp2
        go_round
        case rel =>
          rcases Nat.eq_zero_or_pos p with h | h
          · subst h
            refine .inr ⟨by go_num, ?_⟩
            have h2 := HN2.out
            rw [show n1 - 1 - 0 + 1 = n1 by omega] at h2
            exact h2
          · refine .inl ⟨p - 1, by go_num, by omega, ?_⟩
            rw [show n1 - 1 - (p - 1) = n1 - 1 - p + 1 by omega]
            exact HN2.out
        case measure => simp [intOf]
    · obtain ⟨b0, off0, ha, hbl, hc⟩ := R0.out.2 (by omega)
      obtain ⟨s, hs⟩ : ∃ s, s = S.getD j ⟨#[]⟩ := ⟨_, rfl⟩
      have cS : V.cell? ⟨b0, off0 + j, none⟩ = some (.string s) := by rw [HB.out.cell (p := ⟨b0, off0 + j, none⟩) hbl, hc j hj, hs]; exact map_get _ _ _ _ (by omega)
      have E : Hid (rdS S C j = s) := by unfold Hid; rw [hs]; exact rdS_miss (by rw [l1]; exact HN.out)
      rw [ha] at v0
      clear hc hs ha
      go_wp2
      go_ret
      exact ⟨ret_str E.out.symm, HB.out⟩
def readT (D : DD) (x : Int) : ByteArray := if okD D = true then (if 0 ≤ x ∧ x < D.S.length then rdS D.S D.C x.toNat else ⟨#[]⟩) else ⟨#[]⟩
def readC (D : DD) (x : Int) : Int := if okD D = true then (if 0 ≤ x ∧ x < D.S.length then 0 else 4) else 1

end Go.Proofs.YtkgfbnbgmgakoaaDoor
