/-
  Keys that are read: numbers and the byte that ends a word.
-/
import Derived.Test.YtkfkhfagehcmiaaDoorRs
import Derived.Test.YtkfkhfagehcmiaaDoorVs
import Derived.Laws.IdiomStrings
import Derived.Laws.Cover3
import Derived.Lib.BytesEntry
import Derived.Lib.Walk
namespace Go.Proofs.YtkfkhfagehcmiaaDoor
open Go Go.RowKit
attribute [local go_sem ↓] Go.wp_at_zero Go.wp_at_succ

def ofL (ts : List Int) : Int := ts.foldl (fun n z => n * 256 + z) 0
theorem ofL_take {ts : List Int} {k : Nat} (h : k < ts.length) : ofL (ts.take (k + 1)) = ofL (ts.take k) * 256 + ts.getD k 0 := by
  unfold ofL
  rw [List.take_succ_eq_append_getElem h, List.foldl_append, List.getD_eq_getElem?_getD, List.getElem?_eq_getElem h]
  rfl
theorem ofL_bd {ts : List Int} (hz : ∀ z ∈ ts, 0 ≤ z ∧ z < 256) : ∀ k, k ≤ ts.length → 0 ≤ ofL (ts.take k) ∧ ofL (ts.take k) < 256 ^ k
  | 0, _ => by simp [ofL]
  | k + 1, h => by
    have h1 := ofL_bd hz k (by omega)
    have h2 := hz (ts.getD k 0) (by rw [List.getD_eq_getElem?_getD, List.getElem?_eq_getElem (by omega)]; exact List.getElem_mem _)
    rw [ofL_take (by omega), Int.pow_succ]
    omega
set_option maxHeartbeats 1000000 in
set_option maxRecDepth 100000 in
theorem c_index (b off n cap : Nat) (zs : List Int) (cv : Int) (w : World) (hr : RdV w (some ⟨b, off, none⟩) n (zs.map (Value.int .u8))) (h0 : 0 < n) :
    Calls Tryd.prog 36 #[.slice (some ⟨b, off, none⟩) n cap, .int .u8 cv] w fun e w' => e = .returned (.int .i64 (Lib.indexByte (Lib.bytesOf zs) cv.toNat.toUInt8)) ∧ w' = w := by
  have hl : zs.length = n := by simpa using hr.1
  obtain ⟨b', off', e, hbl, hc⟩ := hr.2 (by omega)
  cases e
  have hc' : ∀ i, i < n → w.cell? ⟨b, off + i, none⟩ = some (.int .u8 (zs.getD i 0)) := fun i hi => by rw [hc i hi]; exact map_get _ _ _ _ (by omega)
  clear hc hr hbl
  go_enter Tryd.func36, Tryd.ntmps36
  go_wp2
  rw [run_callFunc_extern Tryd.func45 (by kernel_rfl) (by kernel_rfl) (by kernel_rfl) (e := Extern.BytealgIndexByte.indexByte) (by kernel_rfl), Lib.run_indexByteSlice w b off n cap zs hl hc' cv]
  simp only [Result.andThen]
  rw [Oper.upon_value]
  go_wp2
  go_ret
  exact ⟨rfl, rfl⟩
set_option maxHeartbeats 1000000 in
set_option maxRecDepth 100000 in
theorem c_number (z0 z1 z2 z3 : Int) (w : World) (h0 : 0 ≤ z0 ∧ z0 < 256) (h1 : 0 ≤ z1 ∧ z1 < 256) (h2 : 0 ≤ z2 ∧ z2 < 256) (h3 : 0 ≤ z3 ∧ z3 < 256) :
    Calls Tryd.prog 35 #[.agg #[.int .u8 z0, .int .u8 z1, .int .u8 z2, .int .u8 z3]] w fun e w' => e = .returned (.int .i64 (z0 * 16777216 + z1 * 65536 + z2 * 256 + z3 - 1000000000)) ∧ Below w.heap.size w w' := by
  go_enter Tryd.func35, Tryd.ntmps35
  go_wp2
  go_ret
  exact ⟨rfl, (Below.refl _ _).alloc (Nat.le_refl _) _⟩

end Go.Proofs.YtkfkhfagehcmiaaDoor
