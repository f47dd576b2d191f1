/-
  Headers: the walk of the specification's HeaderBytes.
-/
import Derived.Test.YtlocgbjdnfnilaaDoorHb
import Derived.Test.YtlocgbjdnfnilaaDoorSe
import Derived.Test.YtlocgbjdnfnilaaDoorRv
namespace Go.Proofs.YtlocgbjdnfnilaaDoor
open Go Go.RowKit
attribute [local go_sem ↓] Go.wp_at_zero Go.wp_at_succ


set_option maxRecDepth 100000 in
set_option maxHeartbeats 2000000 in
theorem c_header (n : Int) (w : World) (h1 : inB n 0 60 = true) :
    Calls Tryd.prog 35 #[.int .i64 n] w fun e w' => e = .returned (.string (strOfNums (hbR n))) ∧ Below w.heap.size w w' := by
  have E : Hid (hbC n = 0 ∧ hbR n = hbZ n ++ sumZ (Crc.crc (hbZ n) : Nat)) := hb0 h1
  obtain ⟨V, hV⟩ : ∃ V, w.alloc (.cells #[.int .u8 104, .int .u8 n] 5) = V := ⟨_, rfl⟩
  have HB : Hid (Below w.heap.size w V) := by unfold Hid; rw [← hV]; exact (Below.refl _ _).alloc (Nat.le_refl _) _
  have OV : V.ownsRow w.heap.size 5 1 (.slice (some ⟨w.heap.size, 0, none⟩) 2 2) 2 ((hbZ n).map (Value.int .u8)) := by
    rw [← hV]
    exact World.ownsRow_lit w #[.int .u8 104, .int .u8 n] 2 (Nat.le_refl _) (by unfold maxLen; omega) rfl
  have SL : Hid (Calls Tryd.prog 54 #[.slice (some ⟨w.heap.size, 0, none⟩) 2 2] V fun e w' => (∃ a' c', e = .returned (.slice a' 6 c') ∧ RdV w' a' 6 ((hbR n).map (Value.int .u8))) ∧ Below w.heap.size V w') := by
    rw [E.out.2]
    refine (c_sealed w.heap.size w.heap.size 2 2 (hbZ n) V OV HB.out.size (hb_bytes h1) (by omega) _ rfl).mono ?_
    rintro e w' ⟨⟨a', c', rfl, o⟩, hb⟩
    exact ⟨⟨a', c', rfl, RdV.own o⟩, hb⟩
  have hw : IntKind.u8.wrap n = n := by have h2 : 0 ≤ n ∧ n ≤ 60 := (by simpa [inB] using h1); rw [IntKind.wrap_u8']; omega
  clear OV
  go_enter Tryd.func35, Tryd.ntmps35
  go_wp2_with fail
  refine SL.out.mono ?_
  rintro e w2 ⟨⟨a2, c2, rfl, r2⟩, hb⟩
  have B2 : Hid (Below w.heap.size w w2) := HB.out.trans hb
  have cv := conv8 (cap := c2) r2
  clear hb r2 SL hV
  go_wp2
  go_ret
  exact ⟨rfl, B2.out⟩
theorem conv_rdV {W : World} {zs : List Int} {c : Nat} {fr : Nat × Nat} (hz : ∀ z ∈ zs, 0 ≤ z ∧ z < 256) : RdV (W.alloc (.cells (bytesRow (strOfNums zs) c) 5 fr)) (some ⟨W.heap.size, 0, none⟩) zs.length (zs.map (Value.int .u8)) := by
  refine ⟨by simp, fun h => ⟨W.heap.size, 0, rfl, by simp, fun i hi => ?_⟩⟩
  have hb : (W.alloc (.cells (bytesRow (strOfNums zs) c) 5 fr)).heap[W.heap.size]? = some (.cells (bytesRow (strOfNums zs) c) 5 fr) := by
    show (W.heap.push _)[W.heap.size]? = _
    simp
  have hsz : i < (strOfNums zs).data.size := by have := strOfNums_size zs; rw [ByteArray.size] at this; omega
  rw [Nat.zero_add, cell_of_row _ W.heap.size i _ 5 fr hb, bytesRow_at _ _ _ hsz]
  have hs2 : i < (strOfNums zs).size := by rw [strOfNums_size]; exact hi
  rw [map_get _ _ 0 _ hi]
  exact congrArg (fun z => some (Value.int .u8 z)) (son_get (p := i) hz hs2)

end Go.Proofs.YtlocgbjdnfnilaaDoor
