/-
  Keys that are read: numbers and the byte that ends a word.
-/
import Derived.Test.YtkfkhfagehcmiaaRs
import Derived.Test.YtkfkhfagehcmiaaVs
import Derived.Laws.IdiomStrings
import Derived.Laws.Cover3
import Derived.Lib.BytesEntry
import Derived.Lib.Walk
namespace Go.Proofs.Ytkfkhfagehcmiaa
open Go Go.RowKit
attribute [local go_sem ↓] Go.wp_at_zero Go.wp_at_succ

def ofL (ts : List Int) : Int := ts.foldl (fun n z => n * 256 + z) 0
theorem ofL_take {ts : List Int} {k : Nat} (h : k < ts.length) : ofL (ts.take (k + 1)) = ofL (ts.take k) * 256 + ts.getD k 0 := by
  unfold ofL
  rw [List.take_succ_eq_append_getElem h, List.foldl_append, List.getD_eq_getElem?_getD, List.getElem?_eq_getElem h]
  rfl
theorem ofL_bd {ts : List Int} (hz : ∀ z ∈ ts, 0 ≤ z ∧ z < 256) : ∀ k, k ≤ ts.length → 0 ≤ ofL (ts.take k) ∧ ofL (ts.take k) < 256 ^ k
  | 0, _ => by simp [ofL]
  | k + 1, h => by
    have h1 := ofL_bd hz k (by omega)
    have h2 := hz (ts.getD k 0) (by rw [List.getD_eq_getElem?_getD, List.getElem?_eq_getElem (by omega)]; exact List.getElem_mem _)
    rw [ofL_take (by omega), Int.pow_succ]
    omega
set_option maxRecDepth 100000 in
set_option maxHeartbeats 2000000 in
theorem c_of (ts : List Int) (w : World) (hz : ∀ z ∈ ts, 0 ≤ z ∧ z < 256) (hn : ts.length ≤ 4) :
    Calls Try.prog 83 #[.string (strOfNums ts)] w fun e w' => e = .returned (.int .i64 (ofL ts)) ∧ w' = w := by
  obtain ⟨t, ht⟩ : ∃ t, t = strOfNums ts := ⟨_, rfl⟩
  rw [← ht]
  have hts : t.size = ts.length := by rw [ht, strOfNums_size]
  have HG : Hid (∀ p (h : p < t.size), ((t[p]'h).toNat : Int) = ts.getD p 0) := by
    intro p h; subst ht; exact son_get hz h
  have HZ : Hid (∀ z ∈ ts, 0 ≤ z ∧ z < 256) := hz
  have HTS : Hid (t.size = ts.length) := hts
  have hn4 : t.size ≤ 4 := by omega
  clear ht hz hts hn
  go_enter Try.func83, Try.ntmps83
  go_wp2
  go_loop [3, 4] (fun m i => ∃ k : Nat, k ≤ t.size ∧ i = .int .i64 k ∧ m = .int .i64 (ofL (ts.take k))) (fun _ i => t.size - (intOf i).toNat)
  case atStart => exact ⟨0, by omega, rfl, rfl⟩
  case round =>
    obtain ⟨k, hk, rfl, rfl⟩ := hrel
    obtain ⟨m, hm⟩ : ∃ m, m = ofL (ts.take k) := ⟨_, rfl⟩
    rw [← hm]
    have hmb : 0 ≤ m ∧ m < 4294967296 := by
      have h1 := ofL_bd HZ.out k (by have := HTS.out; omega)
      rw [← hm] at h1
      have hk4 : k = 0 ∨ k = 1 ∨ k = 2 ∨ k = 3 ∨ k = 4 := by omega
      rcases hk4 with rfl | rfl | rfl | rfl | rfl <;> simp at h1 <;> omega
    have HM : Hid (m = ofL (ts.take k)) := hm
    clear hm
    by_cases hlt : k < t.size
    · obtain ⟨z, hz⟩ : ∃ z : Int, z = ((t[k]'hlt).toNat : Int) := ⟨_, rfl⟩
      have hzb : 0 ≤ z ∧ z < 256 := by rw [hz]; have := (t[k]'hlt).toNat_lt; omega
      have HS : Hid (ofL (ts.take (k + 1)) = m * 256 + z) := by unfold Hid; rw [ofL_take (by have := HTS.out; omega), HM.out, ← HG.out k hlt, hz]
      have hix : ∀ wx : World, (Instr.index 9 (.string t) (.int .i64 (k : Int))).run Try.prog wx = .ok (.int .u8 z) wx := fun wx => by
        rw [run_index_string _ _ _ _ _ Try.underlying9, hz]
        simp [hlt]
      clear hz
      go_wp2
      go_round
      case rel => exact ⟨k + 1, by omega, by go_num, by rw [HS.out]⟩
      case measure => simp [intOf]; omega
    · have e : k = t.size := by omega
      have E : Hid (m = ofL ts) := by unfold Hid; rw [HM.out, List.take_of_length_le (by have := HTS.out; omega)]
      clear e
      go_wp2
      go_ret
      exact ⟨ret_int E.out, rfl⟩

set_option maxHeartbeats 1000000 in
set_option maxRecDepth 100000 in
theorem c_index (b off n cap : Nat) (zs : List Int) (cv : Int) (w : World) (hr : RdV w (some ⟨b, off, none⟩) n (zs.map (Value.int .u8))) (h0 : 0 < n) :
    Calls Try.prog 85 #[.slice (some ⟨b, off, none⟩) n cap, .int .u8 cv] w fun e w' => e = .returned (.int .i64 (Lib.indexByte (Lib.bytesOf zs) cv.toNat.toUInt8)) ∧ w' = w := by
  have hl : zs.length = n := by simpa using hr.1
  obtain ⟨b', off', e, hbl, hc⟩ := hr.2 (by omega)
  cases e
  have hc' : ∀ i, i < n → w.cell? ⟨b, off + i, none⟩ = some (.int .u8 (zs.getD i 0)) := fun i hi => by rw [hc i hi]; exact map_get _ _ _ _ (by omega)
  clear hc hr hbl
  go_enter Try.func85, Try.ntmps85
  go_wp2
  rw [run_callFunc_extern Try.func92 (by kernel_rfl) (by kernel_rfl) (by kernel_rfl) (e := Extern.BytealgIndexByte.indexByte) (by kernel_rfl), Lib.run_indexByteSlice w b off n cap zs hl hc' cv]
  simp only [Result.andThen]
  rw [Oper.upon_value]
  go_wp2
  go_ret
  exact ⟨rfl, rfl⟩
set_option maxHeartbeats 1000000 in
set_option maxRecDepth 100000 in
theorem c_number (z0 z1 z2 z3 : Int) (w : World) (h0 : 0 ≤ z0 ∧ z0 < 256) (h1 : 0 ≤ z1 ∧ z1 < 256) (h2 : 0 ≤ z2 ∧ z2 < 256) (h3 : 0 ≤ z3 ∧ z3 < 256) :
    Calls Try.prog 84 #[.agg #[.int .u8 z0, .int .u8 z1, .int .u8 z2, .int .u8 z3]] w fun e w' => e = .returned (.int .i64 (z0 * 16777216 + z1 * 65536 + z2 * 256 + z3 - 1000000000)) ∧ Below w.heap.size w w' := by
  go_enter Try.func84, Try.ntmps84
  go_wp2
  go_ret
  exact ⟨rfl, (Below.refl _ _).alloc (Nat.le_refl _) _⟩

end Go.Proofs.Ytkfkhfagehcmiaa
