/-
  Bytes whose sum stands behind them: the walk of the specification's own.
-/
import Derived.Test.YtkgfbnbgmgakoaaDoorRv
namespace Go.Proofs.YtkgfbnbgmgakoaaDoor
open Go Go.RowKit
attribute [local go_sem ↓] Go.wp_at_zero Go.wp_at_succ


set_option maxRecDepth 100000 in
set_option maxHeartbeats 2000000 in
theorem c_unsealS (zs : List Int) (w : World) (hz : ∀ z ∈ zs, 0 ≤ z ∧ z < 256) (hn : zs.length ≤ 65536) (h4 : 4 ≤ zs.length) :
    Calls Tryd.prog 105 #[.string (strOfNums zs)] w fun e w' => e = .returned (.tuple #[.string (unsT zs (unsB zs)), .bool (unsB zs)]) ∧ Below w.heap.size w w' := by
  obtain ⟨t, ht⟩ : ∃ t, t = strOfNums zs := ⟨_, rfl⟩
  obtain ⟨hd, hhd⟩ : ∃ t, t = strOfNums (headZ zs) := ⟨_, rfl⟩
  obtain ⟨tl, htl⟩ : ∃ t, t = strOfNums (tailZ zs) := ⟨_, rfl⟩
  obtain ⟨m, hm⟩ : ∃ m, m = zs.length - 4 := ⟨_, rfl⟩
  have hts : t.size = m + 4 := by rw [ht, strOfNums_size]; omega
  have x1 : t.extract 0 m = hd := by rw [ht, hhd, hm]; exact cut_head
  have x2 : t.extract m (m + 4) = tl := by rw [ht, htl, hm, show zs.length - 4 + 4 = zs.length by omega]; exact cut_tail
  obtain ⟨C, hC⟩ : ∃ C : Int, C = (Crc.crc (headZ zs) : Nat) := ⟨_, rfl⟩
  obtain ⟨O, hO⟩ : ∃ O : Int, O = ofL (tailZ zs) := ⟨_, rfl⟩
  have hcmp : (C != O) = !unsB zs := by rw [hC, hO]; exact of_sum h4 hz
  have hcv : ∀ W : World, (convert 9 65 (.string hd)).run Tryd.prog W = .ok (.slice (some ⟨W.heap.size, 0, none⟩) m (grownCap W m 0 5)) (W.drew.alloc (.cells (bytesRow hd (grownCap W m 0 5)) 5 ((bytesRow hd (grownCap W m 0 5)).size, (bytesRow hd (grownCap W m 0 5)).size + 1))) := fun W => by
    have hs : hd.size = m := by rw [hhd, strOfNums_size, headZ_len, hm]
    have := run_bytes_of_string (P := Tryd.prog) W 9 65 5 hd Tryd.underlying9 Tryd.underlying65 Tryd.underlying5
    rw [hs] at this
    exact this
  have CHK : Hid (∀ (c cp : Nat) (fr : Nat × Nat), Calls Tryd.prog 140 #[.slice (some ⟨w.heap.size, 0, none⟩) m cp] (w.alloc (.cells (bytesRow hd c) 5 fr)).drew.drew fun e w' => e = .returned (.int .i64 C) ∧ w' = (w.alloc (.cells (bytesRow hd c) 5 fr)).drew.drew) := fun c cp fr => by
    rw [hC, hhd]
    have hs : m = (headZ zs).length := by rw [headZ_len, hm]
    rw [hs]
    exact c14 _ _ cp (headZ zs) _ (conv_rd (head_bytes hz)) (by rw [headZ_len]; omega)
  have OFF : Hid (∀ W : World, Calls Tryd.prog 141 #[.string tl] W fun e w' => e = .returned (.int .i64 O) ∧ w' = W) := fun W => by
    rw [hO, htl]
    exact c_of (tailZ zs) W (fun z h => hz z (List.mem_of_mem_drop h)) (by unfold tailZ; rw [List.length_drop]; omega)
  have HH : Hid (hd = strOfNums (headZ zs)) := hhd
  have hmb : m ≤ 65536 := by omega
  rw [← ht]
  clear hz ht hhd htl hC hO h4 hm hn
  have z0 : ¬ (m : Int) < 0 := by omega
  have z1 : (0 : Int) ≤ (m : Int) := by omega
  have z2 : (m : Int) ≤ (m : Int) + 4 := by omega
  cases hu : unsB zs
  all_goals
    rw [hu] at hcmp
    go_enter Tryd.func105, Tryd.ntmps105
    go_wp2_with fail
    go_region_held (fun _ => True) (trivial) (first
        | (go_at_call 140; refine (CHK.out _ _ _).mono ?_; rintro e w1 ⟨rfl, hq1⟩; have B1 : Hid (Below w.heap.size w w1) := (by unfold Hid; rw [hq1]; exact ((Below.refl _ _).alloc (Nat.le_refl _) _).drew.drew); clear hq1)
        | (go_at_call 141; refine (OFF.out _).mono ?_; rintro e w2 ⟨rfl, hq2⟩; have B2 : Hid (Below w.heap.size w w2) := (by unfold Hid; rw [hq2]; exact B1.out); clear hq2))
    clear hcv CHK OFF
    go_wp2
    go_ret2
    exact ⟨by first | rfl | (unfold unsT; rw [← HH.out]; rfl), B2.out⟩

end Go.Proofs.YtkgfbnbgmgakoaaDoor
