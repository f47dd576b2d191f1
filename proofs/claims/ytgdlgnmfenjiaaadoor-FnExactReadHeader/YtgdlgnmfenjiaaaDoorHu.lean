/-
  Headers: the walks of the specification's ReadHeader.
-/
import Derived.Test.YtgdlgnmfenjiaaaDoorHt
import Derived.Laws.IdiomStrings
namespace Go.Proofs.YtgdlgnmfenjiaaaDoor
open Go Go.RowKit
attribute [local go_sem ↓] Go.wp_at_zero Go.wp_at_succ


theorem emp_size (t : ByteArray) : t.toList.isEmpty = decide (t.size = 0) := by
  rw [ByteArray.toList_eq]
  cases h : t.data.toList with
  | nil =>
    have : t.size = 0 := by have := congrArg List.length h; simpa using this
    simp [this]
  | cons c r =>
    have : t.size ≠ 0 := by have := congrArg List.length h; simp at this; omega
    simp [this]
set_option maxRecDepth 100000 in
set_option maxHeartbeats 4000000 in
theorem c_epochS (zs : List Int) (w : World) (hz : ∀ z ∈ zs, 0 ≤ z ∧ z < 256) (hn : zs.length ≤ 65536) :
    Calls Tryd.prog 93 #[.string (strOfNums zs)] w fun e w' => e = .returned (.tuple #[.int .i64 (rhR zs), .bool (decide (rhC zs = 0))]) ∧ Below w.heap.size w w' := by
  obtain ⟨t, ht⟩ : ∃ t, t = strOfNums zs := ⟨_, rfl⟩
  have hts : t.size = zs.length := by rw [ht, strOfNums_size]
  by_cases h0 : zs.length = 0
  · have E : Hid (rhC zs = 0 ∧ rhR zs = 0) := rh0 h0
    have he : t.toList.isEmpty = true := by rw [emp_size]; exact decide_eq_true (by omega)
    rw [← ht]
    clear ht hz
    go_enter Tryd.func93, Tryd.ntmps93
    go_wp2
    go_ret2
    rw [E.out.1, E.out.2]
    exact ⟨rfl, Below.refl _ _⟩
  have he : t.toList.isEmpty = false := by rw [emp_size]; exact decide_eq_false (by omega)
  by_cases h4 : zs.length < 4
  · have E : Hid (rhC zs = 8 ∧ rhR zs = 0) := rh8 (by omega) (by omega) (uns_lo (by omega))
    have UN : Hid (Calls Tryd.prog 70 #[.string t] w fun e w' => e = .returned (.tuple #[.string ⟨#[]⟩, .bool false]) ∧ ∃ q, w' = w.drewN q) := by unfold Hid; rw [ht]; exact c_unsealS_lo zs w h4
    rw [← ht]
    clear ht hz
    go_enter Tryd.func93, Tryd.ntmps93
    go_wp2_with fail
    refine UN.out.mono ?_
    rintro e w1 ⟨rfl, q, hq⟩
    have B1 : Hid (Below w.heap.size w w1) := by unfold Hid; rw [hq]; exact below_drewN (Below.refl _ _) q
    clear hq UN
    go_wp2
    go_ret2
    rw [E.out.1, E.out.2]
    exact ⟨rfl, B1.out⟩
  have UN : Hid (Calls Tryd.prog 70 #[.string t] w fun e w' => e = .returned (.tuple #[.string (unsT zs (unsB zs)), .bool (unsB zs)]) ∧ Below w.heap.size w w') := by unfold Hid; rw [ht]; exact c_unsealS zs w hz hn (by omega)
  have K : Hid (¬ 65536 < zs.length ∧ zs.length ≠ 0) := ⟨by omega, by omega⟩
  have HZ : Hid (∀ z ∈ zs, 0 ≤ z ∧ z < 256) := hz
  rw [← ht]
  clear ht hz
  go_enter Tryd.func93, Tryd.ntmps93
  go_wp2_with fail
  refine UN.out.mono ?_
  rintro e w1 ⟨rfl, hb⟩
  have B1 : Hid (Below w.heap.size w w1) := hb
  clear hb UN he
  cases hu : unsB zs
  · have E : Hid (rhC zs = 8 ∧ rhR zs = 0) := rh8 K.out.1 K.out.2 hu
    clear hu
    go_wp2
    go_ret2
    rw [E.out.1, E.out.2]
    exact ⟨rfl, B1.out⟩
  have HU : Hid (unsB zs = true) := hu
  clear hu
  rw [show unsT zs true = strOfNums (headZ zs) from rfl]
  obtain ⟨x, hx⟩ : ∃ x, x = strOfNums (headZ zs) := ⟨_, rfl⟩
  rw [← hx]
  have hxs : x.size = (headZ zs).length := by rw [hx, strOfNums_size]
  have HG : Hid (∀ p (h : p < x.size), ((x[p]'h).toNat : Int) = (headZ zs).getD p 0) := by
    intro p h; subst hx; exact son_get (head_bytes HZ.out) h
  by_cases h6 : x.size = 2
  case neg =>
    have E : Hid (rhC zs = 8 ∧ rhR zs = 0) := rh8' K.out.1 K.out.2 (by omega)
    have z6 : (x.size : Int) ≠ 2 := by omega
    clear hx HG hxs h6
    go_wp2
    go_ret2
    rw [E.out.1, E.out.2]
    exact ⟨rfl, B1.out⟩
  obtain ⟨c, hc⟩ : ∃ c : Int, c = ((x[0]'(by omega)).toNat : Int) := ⟨_, rfl⟩
  obtain ⟨y, hy⟩ : ∃ c : Int, c = ((x[1]'(by omega)).toNat : Int) := ⟨_, rfl⟩
  have ix0 : ∀ wx : World, (Instr.index 9 (.string x) (.int .i64 0)).run Tryd.prog wx = .ok (.int .u8 c) wx := fun wx => by
    have hlt : 0 < x.size := by omega
    rw [run_index_string _ _ _ _ _ Tryd.underlying9, hc]
    simp [hlt]
  have ix1 : ∀ wx : World, (Instr.index 9 (.string x) (.int .i64 1)).run Tryd.prog wx = .ok (.int .u8 y) wx := fun wx => by
    have hlt : (1 : Int) < (x.size : Int) := by omega
    rw [run_index_string _ _ _ _ _ Tryd.underlying9, hy]
    simp [hlt]
  have hyb : 0 ≤ y ∧ y < 256 := by rw [hy]; have := (x[1]'(by omega)).toNat_lt; omega
  rw [HG.out 0 (by omega)] at hc
  rw [HG.out 1 (by omega)] at hy
  by_cases h7 : c = 104
  case neg =>
    have E : Hid (rhC zs = 8 ∧ rhR zs = 0) := rh8' K.out.1 K.out.2 (by rw [← hc]; intro h; exact h7 h.2.1)
    clear hx HG hxs hc hy
    go_wp2
    go_ret2
    rw [E.out.1, E.out.2]
    exact ⟨rfl, B1.out⟩
  by_cases h8 : 60 < y
  · have E : Hid (rhC zs = 8 ∧ rhR zs = 0) := rh8' K.out.1 K.out.2 (by rw [← hy]; intro h; omega)
    clear hx HG hxs hc hy
    subst h7
    go_wp2
    go_ret2
    rw [E.out.1, E.out.2]
    exact ⟨rfl, B1.out⟩
  · have E : Hid (rhC zs = 0 ∧ rhR zs = y) := by
      have := rh9 K.out.1 K.out.2 HU.out (by rw [← hc, ← hy]; exact ⟨by omega, h7, by omega⟩)
      rw [← hy] at this
      exact this
    clear hx HG hxs hc hy
    subst h7
    go_wp2
    go_ret2
    rw [E.out.1, E.out.2]
    exact ⟨rfl, B1.out⟩
theorem rhC_cases {zs : List Int} (h : ¬ 65536 < zs.length) : rhC zs = 0 ∨ (rhC zs = 8 ∧ rhR zs = 0) := by
  unfold rhC rhR
  rw [if_neg h, if_neg h]
  split
  · exact .inl rfl
  · split
    · exact .inl rfl
    · exact .inr ⟨rfl, rfl⟩
set_option maxRecDepth 100000 in
set_option maxHeartbeats 4000000 in
theorem c_specRH (a : Option Addr) (n cap : Nat) (zs : List Int) (w : World) (hr : RdV w a n (zs.map (Value.int .u8))) (hz : ∀ z ∈ zs, 0 ≤ z ∧ z < 256) (hn : n ≤ 1048576) :
    Calls Tryd.prog 36 #[.slice a n cap] w fun e w' => e = .returned (.tuple #[.int .i64 (rhR zs), .int .i64 (rhC zs)]) ∧ Below w.heap.size w w' := by
  have hl : zs.length = n := by simpa using hr.1
  by_cases h1 : 65536 < n
  · have E : Hid (rhC zs = 2 ∧ rhR zs = 0) := rh2 (by omega)
    clear hr hz
    go_enter Tryd.func36, Tryd.ntmps36
    go_wp2
    go_ret2
    rw [E.out.1, E.out.2]
    exact ⟨rfl, Below.refl _ _⟩
  have cv := conv8 (cap := cap) hr
  have CE : Hid (Calls Tryd.prog 93 #[.string (strOfNums zs)] w fun e w' => e = .returned (.tuple #[.int .i64 (rhR zs), .bool (decide (rhC zs = 0))]) ∧ Below w.heap.size w w') := c_epochS zs w hz (by omega)
  have RC : Hid (rhC zs = 0 ∨ (rhC zs = 8 ∧ rhR zs = 0)) := rhC_cases (by omega)
  clear hr hz hl
  go_enter Tryd.func36, Tryd.ntmps36
  go_wp2_with fail
  refine CE.out.mono ?_
  rintro e w1 ⟨rfl, hb⟩
  have B1 : Hid (Below w.heap.size w w1) := hb
  clear hb CE cv
  rcases RC.out with h | ⟨h, h'⟩
  · have E : Hid (rhC zs = 0) := h
    rw [decide_eq_true h]
    clear h
    go_wp2
    go_ret2
    rw [E.out]
    exact ⟨rfl, B1.out⟩
  · have E : Hid (rhC zs = 8 ∧ rhR zs = 0) := ⟨h, h'⟩
    rw [decide_eq_false (by omega : ¬ rhC zs = 0)]
    clear h h'
    go_wp2
    go_ret2
    rw [E.out.1, E.out.2]
    exact ⟨rfl, B1.out⟩

end Go.Proofs.YtgdlgnmfenjiaaaDoor
