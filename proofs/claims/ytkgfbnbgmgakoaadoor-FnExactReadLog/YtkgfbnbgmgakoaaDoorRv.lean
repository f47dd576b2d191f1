/-
  Bytes whose sum stands behind them: the specification's own.
-/
import Derived.Test.YtkgfbnbgmgakoaaDoorRu
import Derived.Laws.IdiomStrings
namespace Go.Proofs.YtkgfbnbgmgakoaaDoor
open Go Go.RowKit
attribute [local go_sem ↓] Go.wp_at_zero Go.wp_at_succ


def ofL (ts : List Int) : Int := ts.foldl (fun n z => n * 256 + z) 0
theorem ofL_take {ts : List Int} {k : Nat} (h : k < ts.length) : ofL (ts.take (k + 1)) = ofL (ts.take k) * 256 + ts.getD k 0 := by
  unfold ofL
  rw [List.take_succ_eq_append_getElem h, List.foldl_append, List.getD_eq_getElem?_getD, List.getElem?_eq_getElem h]
  rfl
theorem ofL_bd {ts : List Int} (hz : ∀ z ∈ ts, 0 ≤ z ∧ z < 256) : ∀ k, k ≤ ts.length → 0 ≤ ofL (ts.take k) ∧ ofL (ts.take k) < 256 ^ k
  | 0, _ => by simp [ofL]
  | k + 1, h => by
    have h1 := ofL_bd hz k (by omega)
    have h2 := hz (ts.getD k 0) (by rw [List.getD_eq_getElem?_getD, List.getElem?_eq_getElem (by omega)]; exact List.getElem_mem _)
    rw [ofL_take (by omega), Int.pow_succ]
    omega
set_option maxRecDepth 100000 in
set_option maxHeartbeats 2000000 in
theorem c_of (ts : List Int) (w : World) (hz : ∀ z ∈ ts, 0 ≤ z ∧ z < 256) (hn : ts.length ≤ 4) :
    Calls Tryd.prog 141 #[.string (strOfNums ts)] w fun e w' => e = .returned (.int .i64 (ofL ts)) ∧ w' = w := by
  obtain ⟨t, ht⟩ : ∃ t, t = strOfNums ts := ⟨_, rfl⟩
  rw [← ht]
  have hts : t.size = ts.length := by rw [ht, strOfNums_size]
  have HG : Hid (∀ p (h : p < t.size), ((t[p]'h).toNat : Int) = ts.getD p 0) := by
    intro p h; subst ht; exact son_get hz h
  have HZ : Hid (∀ z ∈ ts, 0 ≤ z ∧ z < 256) := hz
  have HTS : Hid (t.size = ts.length) := hts
  have hn4 : t.size ≤ 4 := by omega
  clear ht hz hts hn
  go_enter Tryd.func141, Tryd.ntmps141
  go_wp2
  go_loop [3, 4] (fun m i => ∃ k : Nat, k ≤ t.size ∧ i = .int .i64 k ∧ m = .int .i64 (ofL (ts.take k))) (fun _ i => t.size - (intOf i).toNat)
  case atStart => exact ⟨0, by omega, rfl, rfl⟩
  case round =>
    obtain ⟨k, hk, rfl, rfl⟩ := hrel
    obtain ⟨m, hm⟩ : ∃ m, m = ofL (ts.take k) := ⟨_, rfl⟩
    rw [← hm]
    have hmb : 0 ≤ m ∧ m < 4294967296 := by
      have h1 := ofL_bd HZ.out k (by have := HTS.out; omega)
      rw [← hm] at h1
      have hk4 : k = 0 ∨ k = 1 ∨ k = 2 ∨ k = 3 ∨ k = 4 := by omega
      rcases hk4 with rfl | rfl | rfl | rfl | rfl <;> simp at h1 <;> omega
    have HM : Hid (m = ofL (ts.take k)) := hm
    clear hm
    by_cases hlt : k < t.size
    · obtain ⟨z, hz⟩ : ∃ z : Int, z = ((t[k]'hlt).toNat : Int) := ⟨_, rfl⟩
      have hzb : 0 ≤ z ∧ z < 256 := by rw [hz]; have := (t[k]'hlt).toNat_lt; omega
      have HS : Hid (ofL (ts.take (k + 1)) = m * 256 + z) := by unfold Hid; rw [ofL_take (by have := HTS.out; omega), HM.out, ← HG.out k hlt, hz]
      have hix : ∀ wx : World, (Instr.index 9 (.string t) (.int .i64 (k : Int))).run Tryd.prog wx = .ok (.int .u8 z) wx := fun wx => by
        rw [run_index_string _ _ _ _ _ Tryd.underlying9, hz]
        simp [hlt]
      clear hz
      go_wp2
      go_round
      case rel => exact ⟨k + 1, by omega, by go_num, by rw [HS.out]⟩
      case measure => simp [intOf]; omega
    · have e : k = t.size := by omega
      have E : Hid (m = ofL ts) := by unfold Hid; rw [HM.out, List.take_of_length_le (by have := HTS.out; omega)]
      clear e
      go_wp2
      go_ret
      exact ⟨ret_int E.out, rfl⟩
theorem of_sum {zs : List Int} (h4 : 4 ≤ zs.length) (hz : ∀ z ∈ zs, 0 ≤ z ∧ z < 256) : (((Crc.crc (headZ zs) : Nat) : Int) != ofL (tailZ zs)) = !unsB zs := by
  obtain ⟨t0, t1, t2, t3, ht, e0, e1, e2, e3⟩ := tail4 h4
  have hb : ∀ z ∈ tailZ zs, 0 ≤ z ∧ z < 256 := fun z h => hz z (List.mem_of_mem_drop h)
  rw [ht] at hb
  have b0 := hb t0 (by simp)
  have b1 := hb t1 (by simp)
  have b2 := hb t2 (by simp)
  have b3 := hb t3 (by simp)
  have hc := crc_lt (headZ zs) (head_bytes hz)
  have hl : ofL (tailZ zs) = ((t0 * 256 + t1) * 256 + t2) * 256 + t3 := by rw [ht]; simp [ofL]
  generalize hC : Crc.crc (headZ zs) = C at hc
  by_cases h : ((C : Nat) : Int) = ofL (tailZ zs)
  · have : unsB zs = true := uns_yes h4 (by
      rw [hC, ht]
      rw [hl] at h
      unfold sumZ
      congr 1; omega
      congr 1; omega
      congr 1; omega
      congr 1; omega)
    rw [this]; simp [h]
  · have : unsB zs = false := uns_no (fun e => h (by
      rw [hC, ht] at e
      simp [sumZ] at e
      rw [hl]
      omega))
    rw [this]; simp [h]
def unsT (zs : List Int) (u : Bool) : ByteArray := if u then strOfNums (headZ zs) else ⟨#[]⟩
theorem conv_rd {W : World} {zs : List Int} {c : Nat} {fr : Nat × Nat} (hz : ∀ z ∈ zs, 0 ≤ z ∧ z < 256) : Rd (W.alloc (.cells (bytesRow (strOfNums zs) c) 5 fr)).drew.drew (some ⟨W.heap.size, 0, none⟩) zs.length zs := by
  refine ⟨rfl, hz, fun h => ⟨W.heap.size, 0, rfl, fun i hi => ?_⟩⟩
  have hb : (W.alloc (.cells (bytesRow (strOfNums zs) c) 5 fr)).drew.drew.heap[W.heap.size]? = some (.cells (bytesRow (strOfNums zs) c) 5 fr) := by
    show (W.heap.push _)[W.heap.size]? = _
    simp
  have hsz : i < (strOfNums zs).data.size := by have := strOfNums_size zs; rw [ByteArray.size] at this; omega
  rw [Nat.zero_add, cell_of_row _ W.heap.size i _ 5 fr hb, bytesRow_at _ _ _ hsz]
  have hs2 : i < (strOfNums zs).size := by rw [strOfNums_size]; exact hi
  exact congrArg (fun z => some (Value.int .u8 z)) (son_get (p := i) hz hs2)
theorem headZ_len {zs : List Int} : (headZ zs).length = zs.length - 4 := by unfold headZ; rw [List.length_take]; omega
theorem cut_head {zs : List Int} : (strOfNums zs).extract 0 (zs.length - 4) = strOfNums (headZ zs) := by rw [son_cut]; rfl
theorem cut_tail {zs : List Int} : (strOfNums zs).extract (zs.length - 4) zs.length = strOfNums (tailZ zs) := by
  rw [son_cut]
  unfold tailZ
  rw [List.take_of_length_le (by rw [List.length_drop]; omega)]
theorem c_unsealS_lo (zs : List Int) (w : World) (h4 : zs.length < 4) :
    Calls Tryd.prog 105 #[.string (strOfNums zs)] w fun e w' => e = .returned (.tuple #[.string ⟨#[]⟩, .bool false]) ∧ ∃ q, w' = w.drewN q := by
  obtain ⟨t, ht⟩ : ∃ t, t = strOfNums zs := ⟨_, rfl⟩
  rw [← ht]
  have hts : t.size = zs.length := by rw [ht, strOfNums_size]
  have z0 : (t.size : Int) - 4 < 0 := by omega
  have z1 : (t.size : Int) < 4 := by omega
  clear ht hts h4
  go_enter Tryd.func105, Tryd.ntmps105
  go_wp2_with fail
  go_quiet (fail)
  go_wp2
  go_ret2
  exact ⟨rfl, _, rfl⟩

end Go.Proofs.YtkgfbnbgmgakoaaDoor
