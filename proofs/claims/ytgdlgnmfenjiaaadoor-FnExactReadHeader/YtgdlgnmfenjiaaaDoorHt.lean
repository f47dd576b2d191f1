/-
  Headers: the walks of ReadHeader.
-/
import Derived.Test.YtgdlgnmfenjiaaaDoorHb
import Derived.Test.YtgdlgnmfenjiaaaDoorRw
namespace Go.Proofs.YtgdlgnmfenjiaaaDoor
open Go Go.RowKit
attribute [local go_sem ↓] Go.wp_at_zero Go.wp_at_succ


def rhC (zs : List Int) : Int := if 65536 < zs.length then 2 else if zs.length = 0 then 0 else if unsB zs && decide ((headZ zs).length = 2 ∧ (headZ zs).getD 0 0 = 104 ∧ (headZ zs).getD 1 0 ≤ 60) then 0 else 8
def rhR (zs : List Int) : Int := if 65536 < zs.length then 0 else if zs.length = 0 then 0 else if unsB zs && decide ((headZ zs).length = 2 ∧ (headZ zs).getD 0 0 = 104 ∧ (headZ zs).getD 1 0 ≤ 60) then (headZ zs).getD 1 0 else 0
theorem rh2 {zs : List Int} (h : 65536 < zs.length) : rhC zs = 2 ∧ rhR zs = 0 := by unfold rhC rhR; rw [if_pos h, if_pos h]; exact ⟨rfl, rfl⟩
theorem rh0 {zs : List Int} (h : zs.length = 0) : rhC zs = 0 ∧ rhR zs = 0 := by unfold rhC rhR; simp [h]
theorem rh8 {zs : List Int} (h : ¬ 65536 < zs.length) (h1 : zs.length ≠ 0) (hu : unsB zs = false) : rhC zs = 8 ∧ rhR zs = 0 := by unfold rhC rhR; rw [if_neg h, if_neg h, if_neg h1, if_neg h1, hu]; exact ⟨rfl, rfl⟩
theorem rh8' {zs : List Int} (h : ¬ 65536 < zs.length) (h1 : zs.length ≠ 0) (hu : ¬ ((headZ zs).length = 2 ∧ (headZ zs).getD 0 0 = 104 ∧ (headZ zs).getD 1 0 ≤ 60)) : rhC zs = 8 ∧ rhR zs = 0 := by unfold rhC rhR; rw [if_neg h, if_neg h, if_neg h1, if_neg h1, decide_eq_false hu, Bool.and_false]; exact ⟨rfl, rfl⟩
theorem rh9 {zs : List Int} (h : ¬ 65536 < zs.length) (h1 : zs.length ≠ 0) (hu : unsB zs = true) (hv : (headZ zs).length = 2 ∧ (headZ zs).getD 0 0 = 104 ∧ (headZ zs).getD 1 0 ≤ 60) : rhC zs = 0 ∧ rhR zs = (headZ zs).getD 1 0 := by unfold rhC rhR; rw [if_neg h, if_neg h, if_neg h1, if_neg h1, decide_eq_true hv, hu]; exact ⟨rfl, rfl⟩

set_option maxRecDepth 100000 in
set_option maxHeartbeats 4000000 in
theorem c_implRH (a : Option Addr) (n cap : Nat) (zs : List Int) (w : World) (hr : RdV w a n (zs.map (Value.int .u8))) (hz : ∀ z ∈ zs, 0 ≤ z ∧ z < 256) (hn : n ≤ 1048576) (hcap : n ≤ cap) (ht : TabH w) :
    Calls Tryd.prog 37 #[.slice a n cap] w fun e w' => e = .returned (.tuple #[.int .i64 (rhR zs), .int .i64 (rhC zs)]) ∧ Below w.heap.size w w' := by
  have hl : zs.length = n := by simpa using hr.1
  by_cases h1 : 65536 < n
  · have E : Hid (rhC zs = 2 ∧ rhR zs = 0) := rh2 (by omega)
    clear hr hz ht
    go_enter Tryd.func37, Tryd.ntmps37
    go_wp2
    go_ret2
    rw [E.out.1, E.out.2]
    exact ⟨rfl, Below.refl _ _⟩
  by_cases h0 : n = 0
  · have E : Hid (rhC zs = 0 ∧ rhR zs = 0) := rh0 (by omega)
    subst h0
    clear hr hz ht
    go_enter Tryd.func37, Tryd.ntmps37
    go_wp2
    go_ret2
    rw [E.out.1, E.out.2]
    exact ⟨rfl, Below.refl _ _⟩
  by_cases h4 : n < 4
  · have E : Hid (rhC zs = 8 ∧ rhR zs = 0) := rh8 (by omega) (by omega) (uns_lo (by omega))
    clear hr hz ht
    go_enter Tryd.func37, Tryd.ntmps37
    go_wp2_with fail
    refine (c_unseal_lo a n cap w h4).mono ?_
    rintro e w1 ⟨rfl, q, hq⟩
    have B1 : Hid (Below w.heap.size w w1) := by unfold Hid; rw [hq]; exact below_drewN (Below.refl _ _) q
    clear hq
    go_wp2
    go_ret2
    rw [E.out.1, E.out.2]
    exact ⟨rfl, B1.out⟩
  obtain ⟨b, off, rfl, _, _⟩ := hr.2 (by omega)
  have HR : Hid (RdV w (some ⟨b, off, none⟩) n (zs.map (Value.int .u8))) := hr
  have HZ : Hid (∀ z ∈ zs, 0 ≤ z ∧ z < 256) := hz
  have HL : Hid (zs.length = n) := hl
  have HUN : Hid (Calls Tryd.prog 66 #[.slice (some ⟨b, off, none⟩) n cap] w fun e w' => e = .returned (.tuple #[unsV b off n (unsB zs), .bool (unsB zs)]) ∧ Below w.heap.size w w') := c_unseal b off n cap zs w hr hz (by omega) hcap (by omega) ht
  clear hr hz ht hl
  go_enter Tryd.func37, Tryd.ntmps37
  go_wp2_with fail
  refine HUN.out.mono ?_
  rintro e w1 ⟨rfl, hb⟩
  have B1 : Hid (Below w.heap.size w w1) := hb
  have R1 : Hid (RdV w1 (some ⟨b, off, none⟩) (n - 4) ((headZ zs).map (Value.int .u8))) := (head_rd HR.out).below hb
  clear hb HUN HR
  cases hu : unsB zs
  · have E : Hid (rhC zs = 8 ∧ rhR zs = 0) := rh8 (by have := HL.out; omega) (by have := HL.out; omega) hu
    clear hu
    rw [show unsV b off n false = .slice none 0 0 from rfl]
    go_wp2
    go_ret2
    rw [E.out.1, E.out.2]
    exact ⟨rfl, B1.out⟩
  have HU : Hid (unsB zs = true) := hu
  clear hu
  rw [show unsV b off n true = .slice (some ⟨b, off, none⟩) (n - 4) (n - 4) from rfl]
  have hhl : (headZ zs).length = n - 4 := by rw [headZ_len]; have := HL.out; omega
  by_cases h6 : n - 4 = 2
  case neg =>
    have E : Hid (rhC zs = 8 ∧ rhR zs = 0) := rh8' (by have := HL.out; omega) (by have := HL.out; omega) (by omega)
    have z6 : ((n - 4 : Nat) : Int) ≠ 2 := by omega
    obtain ⟨m, hm⟩ : ∃ m, m = n - 4 := ⟨_, rfl⟩
    rw [← hm] at z6 ⊢
    clear hm h6 hhl
    go_wp2
    go_ret2
    rw [E.out.1, E.out.2]
    exact ⟨rfl, B1.out⟩
  rw [h6] at R1 ⊢
  obtain ⟨b', off', e, hlt, hc⟩ := R1.out.2 (by omega)
  cases e
  obtain ⟨x, hx⟩ : ∃ x, x = (headZ zs).getD 0 0 := ⟨_, rfl⟩
  obtain ⟨y, hy⟩ : ∃ y, y = (headZ zs).getD 1 0 := ⟨_, rfl⟩
  have c0 : w1.cell? ⟨b, off, none⟩ = some (.int .u8 x) := by have := hc 0 (by omega); rw [Nat.add_zero] at this; rw [this, hx]; exact map_get _ _ _ _ (by omega)
  have c1 : w1.cell? ⟨b, off + 1, none⟩ = some (.int .u8 y) := by rw [hc 1 (by omega), hy]; exact map_get _ _ _ _ (by omega)
  have hy0 : 0 ≤ y ∧ y < 256 := by rw [hy]; exact head_bytes HZ.out _ (by rw [List.getD_eq_getElem?_getD, List.getElem?_eq_getElem (by omega)]; exact List.getElem_mem _)
  have hx0 : 0 ≤ x ∧ x < 256 := by rw [hx]; exact head_bytes HZ.out _ (by rw [List.getD_eq_getElem?_getD, List.getElem?_eq_getElem (by omega)]; exact List.getElem_mem _)
  have K : Hid (¬ 65536 < zs.length ∧ zs.length ≠ 0) := by have := HL.out; exact ⟨by omega, by omega⟩
  by_cases h7 : x = 104
  case neg =>
    have E : Hid (rhC zs = 8 ∧ rhR zs = 0) := rh8' K.out.1 K.out.2 (by rw [← hx]; intro h; exact h7 h.2.1)
    clear hc hx hy hhl
    go_wp2
    go_ret2
    rw [E.out.1, E.out.2]
    exact ⟨rfl, B1.out⟩
  cases h8 : inB y 0 60
  · have E : Hid (rhC zs = 8 ∧ rhR zs = 0) := rh8' K.out.1 K.out.2 (by rw [← hy]; intro h; have h9 : ¬ (0 ≤ y ∧ y ≤ 60) := (by simpa [inB] using h8); omega)
    clear hc hx hy hhl
    subst h7
    go_wp2_with (go_at_call 82; refine (c_epoch _ _).mono ?_; rintro e w' ⟨rfl, hq⟩; have hq' := hq.symm; subst hq'; clear hq; rw [h8])
    go_ret2
    rw [E.out.1, E.out.2]
    exact ⟨rfl, B1.out⟩
  · have E : Hid (rhC zs = 0 ∧ rhR zs = y) := by
      have h9 : 0 ≤ y ∧ y ≤ 60 := by simpa [inB] using h8
      have := rh9 K.out.1 K.out.2 HU.out (by rw [← hx, ← hy]; exact ⟨by omega, h7, h9.2⟩)
      rw [← hy] at this
      exact this
    clear hc hx hy hhl
    subst h7
    go_wp2_with (go_at_call 82; refine (c_epoch _ _).mono ?_; rintro e w' ⟨rfl, hq⟩; have hq' := hq.symm; subst hq'; clear hq; rw [h8])
    go_ret2
    rw [E.out.1, E.out.2]
    exact ⟨rfl, B1.out⟩

end Go.Proofs.YtgdlgnmfenjiaaaDoor
