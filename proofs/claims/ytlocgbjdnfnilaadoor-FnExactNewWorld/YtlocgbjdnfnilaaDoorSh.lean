/-
  Bytes with their sum behind: the walk of seal.
-/
import Derived.Test.YtlocgbjdnfnilaaDoorSg
namespace Go.Proofs.YtlocgbjdnfnilaaDoor
open Go Go.RowKit
attribute [local go_sem ↓] Go.wp_at_zero Go.wp_at_succ


set_option maxRecDepth 100000 in
set_option maxHeartbeats 2000000 in
theorem c_seal (b off n cap : Nat) (zs : List Int) (w : World) (hr : RdV w (some ⟨b, off, none⟩) n (zs.map (Value.int .u8))) (hz : ∀ z ∈ zs, 0 ≤ z ∧ z < 256) (hn : n ≤ 65536) (hcap : n ≤ cap) (ht : TabH w) (C : Int) (hC : C = (Crc.crc zs : Nat)) :
    Calls Tryd.prog 56 #[.slice (some ⟨b, off, none⟩) n cap] w fun e w' => (∃ a' c', e = .returned (.slice a' (n + 4) c') ∧ w'.ownsRow w.heap.size 5 1 (.slice a' (n + 4) c') (n + 4) ((zs ++ sumZ C).map (Value.int .u8))) ∧ Below w.heap.size w w' := by
  obtain ⟨i0, g9, g90, g91, g92⟩ := info_parts infoB
  have hi : Hid (Tryd.prog.info? 5 = some i0) := g9
  have hz0 : Hid (i0.zero = some (.int .u8 0)) := g90
  have hz1 : Hid (i0.size = 1) := g91
  have hz2 : Hid (i0.bytes = 1) := g92
  clear g9 g90 g91 g92
  have HR : Hid (RdV w (some ⟨b, off, none⟩) n (zs.map (Value.int .u8))) := hr
  have CK : Hid (Calls Tryd.prog 70 #[.slice (some ⟨b, off, none⟩) n cap] w fun e w' => e = .returned (.agg #[.int .u8 (C / 16777216), .int .u8 (C / 65536 % 256), .int .u8 (C / 256 % 256), .int .u8 (C % 256)]) ∧ Below w.heap.size w w') := c_sumOf _ n cap zs w hr hz hn ht C hC
  have hl : Hid (zs.length = n) := by unfold Hid; simpa using hr.1
  clear hr hz ht hC
  go_enter Tryd.func56, Tryd.ntmps56
  go_wp2_with fail
  refine CK.out.mono ?_
  rintro e w1 ⟨rfl, hb⟩
  have B1 : Hid (Below w.heap.size w w1) := hb
  clear hb CK
  obtain ⟨V, hV⟩ : ∃ V, w1.alloc (.cells #[.int .u8 (C / 16777216), .int .u8 (C / 65536 % 256), .int .u8 (C / 256 % 256), .int .u8 (C % 256)] 108) = V := ⟨_, rfl⟩
  have hbv : Below w1.heap.size w1 V := by rw [← hV]; exact (Below.refl _ _).alloc (Nat.le_refl _) _
  have BV : Hid (Below w.heap.size w V) := B1.out.trans (hbv.mono B1.out.size)
  have BX : Hid (Box V w1.heap.size 108 #[.int .u8 (C / 16777216), .int .u8 (C / 65536 % 256), .int .u8 (C / 256 % 256), .int .u8 (C % 256)]) := by unfold Hid; rw [← hV]; exact Box.new _ _ _
  have HRV : Hid (RdV V (some ⟨b, off, none⟩) n (zs.map (Value.int .u8))) := HR.out.below BV.out
  clear hbv HR B1
  go_wp2_with fail
  go_region_law (refine step_append_grows rfl (.tmp 11) (.tmp 12) 68 rfl 5 i0 (.int .u8 0) 1 1 Tryd.underlying68 hi.out hz0.out hz1.out hz2.out rfl (by omega) (some ⟨b, off, none⟩) n n (zs.map (Value.int .u8)) rfl (fun h => by cases h) (by have := hl.out; simp; omega) (fun ad e => by cases e; exact src1 HRV.out) ⟨w1.heap.size, 0, none⟩ 4 4 ((sumZ C).map (Value.int .u8)) rfl rfl (by rw [sumZ_map]; exact box_src BX.out) (by intro u hu; obtain ⟨x, _, rfl⟩ := List.mem_map.1 hu; rfl) (by omega) (by unfold maxLen; omega) (by omega) ?_; intro v' w' hown hgrow; obtain ⟨a', c', hv, _⟩ := own_slc hown; subst hv; have HO : Hid (w'.ownsRow w.heap.size 5 1 (.slice a' (n + 4) c') (n + 4) ((zs ++ sumZ C).map (Value.int .u8))) := (by unfold Hid; rw [List.map_append]; exact hown.down BV.out.size); have HBE : Hid (Below w.heap.size w w') := (by first | exact (below_drewN BV.out _).grown hgrow BV.out.size (fun k h => by cases h) | exact BV.out.drew.grown hgrow BV.out.size (fun k h => by cases h) | exact BV.out.grown hgrow BV.out.size (fun k h => by cases h)); clear hown hgrow)
  all_goals
    clear hV BX HRV BV
    go_wp2
    go_ret
    exact ⟨⟨a', c', rfl, HO.out⟩, HBE.out⟩

end Go.Proofs.YtlocgbjdnfnilaaDoor
