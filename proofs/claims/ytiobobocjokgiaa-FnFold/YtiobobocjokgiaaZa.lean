/-
  laws.at: a number below its bound.
-/
import Derived.Test.YtiobobocjokgiaaDn
import Derived.Deep.QuietTactic
namespace Go.Proofs.Ytiobobocjokgiaa
open Go Go.RowKit
attribute [local go_sem ↓] Go.wp_at_zero Go.wp_at_succ

theorem getD_memZ (zs : List Int) (k : Nat) (h : k < zs.length) : zs.getD k 0 ∈ zs := by rw [List.getD_eq_getElem?_getD, List.getElem?_eq_getElem h]; exact List.getElem_mem h
theorem tmod_nat (x n : Nat) (h : 0 < n) : ∃ j : Nat, ((x : Int).tmod (n : Int) = (j : Int)) ∧ j < n := by
  refine ⟨x % n, ?_, Nat.mod_lt _ h⟩
  rw [Int.tmod_eq_emod_of_nonneg (by omega)]; rfl
theorem tdiv_nat (x n : Nat) : ∃ j : Nat, ((x : Int).tdiv (n : Int) = (j : Int)) ∧ j ≤ x := by
  refine ⟨x / n, ?_, Nat.div_le_self _ _⟩
  rw [Int.tdiv_eq_ediv_of_nonneg (by omega)]; rfl
set_option maxRecDepth 100000 in
set_option maxHeartbeats 2000000 in
theorem c_atG (a : Option Addr) (n c : Nat) (zs : List Int) (i m : Nat) (w : World) (hr : RdV w a n (zs.map (Value.int .u8))) (hz : ∀ z ∈ zs, 0 ≤ z ∧ z < 256) (hn : n ≤ 1048576) (hi : i ≤ 2) (hm : 1 ≤ m ∧ m ≤ 300) :
    Calls Try.prog 15 #[.slice a n c, .int .i64 (i : Int), .int .i64 (m : Int)] w fun e w' => (∃ k : Nat, e = .returned (.int .i64 (k : Int)) ∧ k < m) ∧ ∃ q, w' = w.drewN q := by
  obtain ⟨hl, hcs⟩ := hr
  simp only [List.length_map] at hl
  have hm0 : ((m : Int) == 0) = false := by simp; omega
  by_cases hm1 : (m : Int) ≤ 1
  · go_enter Try.func15, Try.ntmps15
    go_wp2
    go_ret
    exact ⟨⟨0, rfl, by omega⟩, 0, rfl⟩
  by_cases h0 : n = 0
  · subst h0
    obtain ⟨j, hj, hjm⟩ := tmod_nat (i * 7) m (by omega)
    have e7 : ((i * 7 : Nat) : Int) = (i : Int) * 7 := by omega
    rw [e7] at hj
    go_enter Try.func15, Try.ntmps15
    go_wp2
    go_ret
    exact ⟨⟨j, ret_int (by rw [← hj]), hjm⟩, 0, rfl⟩
  · obtain ⟨b, off, rfl, _, hc⟩ := hcs (by omega)
    have hn0 : ((n : Int) == 0) = false := by simp; omega
    obtain ⟨j0, hj0, hjn0⟩ := tmod_nat i n (by omega)
    obtain ⟨j1, hj1, hjn1⟩ := tmod_nat (i + 1) n (by omega)
    obtain ⟨q, hq, hqi⟩ := tdiv_nat i n
    have e1 : ((i + 1 : Nat) : Int) = (i : Int) + 1 := by omega
    rw [e1] at hj1
    obtain ⟨x, hx⟩ : ∃ z, z = zs.getD j0 0 := ⟨_, rfl⟩
    obtain ⟨y, hy⟩ : ∃ z, z = zs.getD j1 0 := ⟨_, rfl⟩
    have hcx : w.cell? ⟨b, off + j0, none⟩ = some (.int .u8 x) := by rw [hx, hc j0 hjn0]; exact map_get _ _ _ _ (by omega)
    have hcy : w.cell? ⟨b, off + j1, none⟩ = some (.int .u8 y) := by rw [hy, hc j1 hjn1]; exact map_get _ _ _ _ (by omega)
    have bx : 0 ≤ x ∧ x < 256 := by rw [hx]; exact hz _ (getD_memZ zs j0 (by omega))
    have bY : 0 ≤ y ∧ y < 256 := by rw [hy]; exact hz _ (getD_memZ zs j1 (by omega))
    clear hc hx hy hcs hz e1
    go_enter Try.func15, Try.ntmps15
    go_wp2_with fail
    go_quiet (fail)
    go_wp2
    have h1 : 0 ≤ (x * 31 + y + q) % (m : Int) := Int.emod_nonneg _ (by omega)
    have h2 : (x * 31 + y + q) % (m : Int) < m := Int.emod_lt_of_pos _ (by omega)
    go_ret
    exact ⟨⟨((x * 31 + y + q) % (m : Int)).toNat, ret_int (Int.toNat_of_nonneg h1).symm, by omega⟩, nq, rfl⟩

end Go.Proofs.Ytiobobocjokgiaa
