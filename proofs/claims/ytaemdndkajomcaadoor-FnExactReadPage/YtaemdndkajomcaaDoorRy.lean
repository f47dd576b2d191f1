/-
  Reading a page: the walk of the specification's ReadPage.
-/
import Derived.Test.YtaemdndkajomcaaDoorRx
namespace Go.Proofs.YtaemdndkajomcaaDoor
open Go Go.RowKit
attribute [local go_sem ↓] Go.wp_at_zero Go.wp_at_succ


set_option maxRecDepth 100000 in
set_option maxHeartbeats 2000000 in
theorem c_specRP (no : Int) (a : Option Addr) (n cap : Nat) (zs : List Int) (w : World) (hr : RdV w a n (zs.map (Value.int .u8))) (hz : ∀ z ∈ zs, 0 ≤ z ∧ z < 256) (hn : n ≤ 1048576) :
    Calls Tryd.prog 40 #[.int .i64 no, .slice a n cap] w fun e w' => (∃ h' : HG, e = .returned (.tuple #[.agg #[.int .i64 h'.l, .slice h'.a h'.n h'.c], .int .i64 (rdC no zs)]) ∧ OwnG w' w.heap.size w'.heap.size h' (rdR no zs)) ∧ Below w.heap.size w w' := by
  have hl : zs.length = n := by simpa using hr.1
  obtain ⟨V, hV⟩ : ∃ V, w.alloc (.cells #[.int .i64 0, .slice none 0 0] 41) = V := ⟨_, rfl⟩
  have HB : Hid (Below w.heap.size w V) := by unfold Hid; rw [← hV]; exact (Below.refl _ _).alloc (Nat.le_refl _) _
  have BR : Hid (Box V w.heap.size 41 #[.int .i64 0, .slice none 0 0]) := by unfold Hid; rw [← hV]; exact Box.new _ _ _
  have l0 := BR.out.lt
  obtain ⟨u0, u1⟩ := box2 BR.out
  have t0 := BR.out.thaw 0
  have t1 := BR.out.thaw 1
  by_cases h1 : 65536 < n
  · have E : Hid (rdC no zs = 2 ∧ rdR no zs = ⟨0, []⟩) := rd2 (by omega)
    clear hr hz
    go_enter Tryd.func40, Tryd.ntmps40
    go_wp2
    refine retG2 Tryd.results40 rfl rfl rfl (put2_box BR.out _ _) ⟨?_, put2_below HB.out (Nat.le_refl _) _ _⟩
    rw [E.out.1, E.out.2]
    exact ⟨⟨0, none, 0, 0⟩, rfl, own_zero _ _ _ (Nat.le_refl _)⟩
  have HR : Hid (RdV w a n (zs.map (Value.int .u8))) := hr
  have HZ : Hid (∀ z ∈ zs, 0 ≤ z ∧ z < 256) := hz
  have HL : Hid (zs.length = n) := hl
  have cv := conv8 (cap := cap) (hr.below HB.out)
  clear hr hz hl
  by_cases h4 : n < 4
  · have E : Hid (rdC no zs = 8 ∧ rdR no zs = ⟨0, []⟩) := rd8 (by have := HL.out; omega) (uns_lo (by have := HL.out; omega))
    go_enter Tryd.func40, Tryd.ntmps40
    go_wp2_with fail
    refine (c_unsealS_lo zs V (by have := HL.out; omega)).mono ?_
    rintro e w1 ⟨rfl, q, hq⟩
    have B1 : Hid (Below w.heap.size w w1) := by unfold Hid; rw [hq]; exact below_drewN HB.out q
    have BR1 : Hid (Box w1 w.heap.size 41 #[.int .i64 0, .slice none 0 0]) := by unfold Hid; rw [hq]; exact BR.out.drewN q
    clear hq hV HB BR u0 u1 t0 t1 cv
    obtain ⟨u0, u1⟩ := box2 BR1.out
    have t0 := BR1.out.thaw 0
    have t1 := BR1.out.thaw 1
    go_wp2
    refine retG2 Tryd.results40 rfl rfl rfl (put2_box BR1.out _ _) ⟨?_, put2_below B1.out (Nat.le_refl _) _ _⟩
    rw [E.out.1, E.out.2]
    exact ⟨⟨0, none, 0, 0⟩, rfl, own_zero _ _ _ (Nat.le_refl _)⟩
  go_enter Tryd.func40, Tryd.ntmps40
  go_wp2_with fail
  refine (c_unsealS zs V HZ.out (by have := HL.out; omega) (by have := HL.out; omega)).mono ?_
  rintro e w1 ⟨rfl, hb⟩
  have B1 : Hid (Below w.heap.size w w1) := HB.out.trans (hb.mono HB.out.size)
  have BR1 : Hid (Box w1 w.heap.size 41 #[.int .i64 0, .slice none 0 0]) := BR.out.belowS hb
  clear hb hV HB BR u0 u1 t0 t1 cv
  obtain ⟨u0, u1⟩ := box2 BR1.out
  have t0 := BR1.out.thaw 0
  have t1 := BR1.out.thaw 1
  cases hu : unsB zs
  · have E : Hid (rdC no zs = 8 ∧ rdR no zs = ⟨0, []⟩) := rd8 (by have := HL.out; omega) hu
    clear hu
    go_wp2
    refine retG2 Tryd.results40 rfl rfl rfl (put2_box BR1.out _ _) ⟨?_, put2_below B1.out (Nat.le_refl _) _ _⟩
    rw [E.out.1, E.out.2]
    exact ⟨⟨0, none, 0, 0⟩, rfl, own_zero _ _ _ (Nat.le_refl _)⟩
  have HU : Hid (unsB zs = true) := hu
  have PO : Hid (Calls Tryd.prog 76 #[.int .i64 no, .string (strOfNums zs)] w1 fun e w' => (∃ (h' : HG), e = .returned (.tuple #[.agg #[.int .i64 h'.l, .slice h'.a h'.n h'.c], .bool (rpD no (headZ zs)).isSome]) ∧ ∃ D' : DG, OwnG w' w1.heap.size w'.heap.size h' D' ∧ ∀ D, rpD no (headZ zs) = some D → D' = D) ∧ Below w1.heap.size w1 w') := c_read no zs w1 HZ.out (by have := HL.out; omega) (by have := HL.out; omega) hu
  have cv := conv8 (cap := cap) (HR.out.below B1.out)
  have q01 : w.heap.size < w1.heap.size := BR1.out.lt
  clear hu
  go_wp2_with fail
  refine PO.out.mono ?_
  rintro e w2 ⟨⟨h2, rfl, D2, o2, hD⟩, hb⟩
  have B2 : Hid (Below w.heap.size w w2) := B1.out.trans (hb.mono B1.out.size)
  have BR2 : Hid (Box w2 w.heap.size 41 #[.int .i64 0, .slice none 0 0]) := BR1.out.belowS hb
  have O2 : Hid (OwnG w2 w1.heap.size w2.heap.size h2 D2) := o2
  have HD : Hid (∀ D, rpD no (headZ zs) = some D → D2 = D) := hD
  have q12 : w1.heap.size ≤ w2.heap.size := hb.size
  clear hb o2 hD PO B1 BR1 u0 u1 t0 t1 cv
  obtain ⟨V3, hV3⟩ : ∃ W, w2.alloc (.cells #[.int .i64 h2.l, .slice h2.a h2.n h2.c] 41) = W := ⟨_, rfl⟩
  have hbv : Below w2.heap.size w2 V3 := by rw [← hV3]; exact (Below.refl _ _).alloc (Nat.le_refl _) _
  have B3 : Hid (Below w.heap.size w V3) := B2.out.trans (hbv.mono B2.out.size)
  have BR3 : Hid (Box V3 w.heap.size 41 #[.int .i64 0, .slice none 0 0]) := BR2.out.belowS hbv
  have BP3 : Hid (Box V3 w2.heap.size 41 #[.int .i64 h2.l, .slice h2.a h2.n h2.c]) := by unfold Hid; rw [← hV3]; exact Box.new _ _ _
  have O3 : Hid (OwnG V3 w1.heap.size w2.heap.size h2 D2) := O2.out.below hbv
  clear hbv B2 BR2 O2
  obtain ⟨p0, p1⟩ := box2 BP3.out
  obtain ⟨u0, u1⟩ := box2 BR3.out
  have t0 := BR3.out.thaw 0
  have t1 := BR3.out.thaw 1
  cases hd : rpD no (headZ zs) with
  | none =>
    have E : Hid (rdC no zs = 3 ∧ rdR no zs = ⟨0, []⟩) := rd3 (by have := HL.out; omega) HU.out hd
    clear hd O3 HD
    rw [Option.isSome_none]
    go_wp2
    refine retG2 Tryd.results40 rfl rfl rfl (put2_box BR3.out _ _) ⟨?_, put2_below B3.out (Nat.le_refl _) _ _⟩
    rw [E.out.1, E.out.2]
    exact ⟨⟨0, none, 0, 0⟩, rfl, own_zero _ _ _ (Nat.le_refl _)⟩
  | some D =>
    have E : Hid (rdC no zs = 0 ∧ rdR no zs = D) := rd0 (by have := HL.out; omega) HU.out hd
    have O4 : Hid (OwnG V3 w1.heap.size w2.heap.size h2 D) := by have := O3.out; rw [HD.out D hd] at this; exact this
    clear hd O3 HD
    rw [Option.isSome_some]
    go_wp2
    refine retG2 Tryd.results40 rfl rfl rfl (put2_box BR3.out _ _) ⟨?_, put2_below B3.out (Nat.le_refl _) _ _⟩
    rw [E.out.1, E.out.2]
    have := O4.out.put2 (r := w.heap.size) (.inl (by omega)) (.int .i64 h2.l) (.slice h2.a h2.n h2.c)
    exact ⟨h2, rfl, this.wide (B' := w.heap.size) (by omega)⟩

end Go.Proofs.YtaemdndkajomcaaDoor
