/-
  Bytes with their sum behind: the specification's own.
-/
import Derived.Test.YtlocgbjdnfnilaaDoorNu
import Derived.Test.YtlocgbjdnfnilaaDoorSh
namespace Go.Proofs.YtlocgbjdnfnilaaDoor
open Go Go.RowKit
attribute [local go_sem ↓] Go.wp_at_zero Go.wp_at_succ


set_option maxRecDepth 100000 in
set_option maxHeartbeats 2000000 in
theorem c_sealed (base g L cv : Nat) (zs : List Int) (w : World) (hown : w.ownsRow base 5 1 (.slice (some ⟨g, 0, none⟩) L cv) L (zs.map (Value.int .u8))) (hbase : base ≤ w.heap.size) (hz : ∀ z ∈ zs, 0 ≤ z ∧ z < 256) (hL : L ≤ 60000) (C : Int) (hC : C = (Crc.crc zs : Nat)) :
    Calls Tryd.prog 54 #[.slice (some ⟨g, 0, none⟩) L cv] w fun e w' => (∃ a' c', e = .returned (.slice a' (L + 4) c') ∧ w'.ownsRow base 5 1 (.slice a' (L + 4) c') (L + 4) ((zs ++ sumZ C).map (Value.int .u8))) ∧ Below base w w' := by
  obtain ⟨i0, g9, g90, g91, g92⟩ := info_parts infoB
  have hi : Hid (Tryd.prog.info? 5 = some i0) := g9
  have hz0 : Hid (i0.zero = some (.int .u8 0)) := g90
  have hz1 : Hid (i0.size = 1) := g91
  have hz2 : Hid (i0.bytes = 1) := g92
  clear g9 g90 g91 g92
  have hl := crc_lt zs hz
  have hC0 : 0 ≤ C := by omega
  have hC1 : C < 4294967296 := by omega
  have HO : Hid (w.ownsRow base 5 1 (.slice (some ⟨g, 0, none⟩) L cv) L (zs.map (Value.int .u8))) := hown
  have CK : Hid (Calls Tryd.prog 69 #[.slice (some ⟨g, 0, none⟩) L cv] w fun e w' => e = .returned (.int .i64 C) ∧ w' = w) := by
    rw [hC]
    exact c14 _ L cv zs w (rd_of_V (RdV.own hown) hz) (by omega)
  clear hown hz hl hC
  go_enter Tryd.func54, Tryd.ntmps54
  go_wp2_with fail
  refine CK.out.mono ?_
  rintro e w1 ⟨rfl, hq⟩
  have hq' := hq.symm
  subst hq'
  clear hq CK
  go_wp2_with fail
  refine (c_num4 C w hC0 hC1).mono ?_
  rintro e w2 ⟨g2, c2, rfl, o2, hb⟩
  have B2 : Hid (Below w.heap.size w w2) := hb
  have O2 : Hid (w2.ownsRow w.heap.size 5 1 (.slice (some ⟨g2, 0, none⟩) 4 c2) 4 ((sumZ C).map (Value.int .u8))) := o2
  have HO2 : Hid (w2.ownsRow base 5 1 (.slice (some ⟨g, 0, none⟩) L cv) L (zs.map (Value.int .u8))) := own_below HO.out hb
  have hg : base ≤ g ∧ g < w.heap.size := HO.out.lt g rfl
  clear hb o2 HO
  have q12 := B2.out.size
  go_wp2_with (
    at_builtin; refine app_any _ rfl (.tmp 3) (.tmp 6) 68 rfl base 5 i0 (.int .u8 0) 1 1 Tryd.underlying68 hi.out hz0.out hz1.out hz2.out rfl (by omega) (.slice (some ⟨g, 0, none⟩) L cv) L (zs.map (Value.int .u8)) rfl HO2.out (some ⟨g2, 0, none⟩) 4 c2 ((sumZ C).map (Value.int .u8)) rfl (fun h => by cases h) rfl (fun ad e => by cases e; exact O2.out.cells rfl) (map_one _ (fun _ => rfl) _) (by unfold maxLen; omega) (by omega) (by omega) ?_
    intro a3 c3 w3 ho hg0 hk0
    have hgg : w2.grownBy w3 (some g) := hg0
    have B3 : Hid (Below base w w3) := (B2.out.mono hbase).grown hgg (by omega) (fun k h => by cases h; exact hg.1)
    have O3 : Hid (w3.ownsRow base 5 1 (.slice a3 (L + 4) c3) (L + 4) ((zs ++ sumZ C).map (Value.int .u8))) := by unfold Hid; rw [List.map_append]; exact ho
    clear ho hg0 hk0 hgg)
  go_ret
  exact ⟨⟨a3, c3, rfl, O3.out⟩, B3.out⟩

end Go.Proofs.YtlocgbjdnfnilaaDoor
