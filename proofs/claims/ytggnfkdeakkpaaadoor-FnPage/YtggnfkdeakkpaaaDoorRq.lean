/-
  Reading a page: what both answer, and the walk of the program's ReadPage.
-/
import Derived.Test.YtggnfkdeakkpaaaDoorRp
namespace Go.Proofs.YtggnfkdeakkpaaaDoor
open Go Go.RowKit
attribute [local go_sem ↓] Go.wp_at_zero Go.wp_at_succ


def rdC (no : Int) (zs : List Int) : Int := if 65536 < zs.length then 2 else if unsB zs then (if (rpD no (headZ zs)).isSome then 0 else 3) else 8
def rdR (no : Int) (zs : List Int) : DG := if 65536 < zs.length then ⟨0, []⟩ else if unsB zs then rpP (rpD no (headZ zs)) else ⟨0, []⟩
theorem rd2 {no : Int} {zs : List Int} (h : 65536 < zs.length) : rdC no zs = 2 ∧ rdR no zs = ⟨0, []⟩ := by unfold rdC rdR; rw [if_pos h, if_pos h]; exact ⟨rfl, rfl⟩
theorem rd8 {no : Int} {zs : List Int} (h : ¬ 65536 < zs.length) (h1 : unsB zs = false) : rdC no zs = 8 ∧ rdR no zs = ⟨0, []⟩ := by unfold rdC rdR; rw [if_neg h, if_neg h, h1]; exact ⟨rfl, rfl⟩
theorem rd3 {no : Int} {zs : List Int} (h : ¬ 65536 < zs.length) (h1 : unsB zs = true) (h2 : rpD no (headZ zs) = none) : rdC no zs = 3 ∧ rdR no zs = ⟨0, []⟩ := by unfold rdC rdR; rw [if_neg h, if_neg h, h1, h2]; exact ⟨rfl, rfl⟩
theorem rd0 {no : Int} {zs : List Int} {D : DG} (h : ¬ 65536 < zs.length) (h1 : unsB zs = true) (h2 : rpD no (headZ zs) = some D) : rdC no zs = 0 ∧ rdR no zs = D := by unfold rdC rdR; rw [if_neg h, if_neg h, h1, h2]; exact ⟨rfl, rfl⟩
theorem rpD_ok {no : Int} {x : List Int} {D : DG} (h : rpD no x = some D) : okG D = true := by
  unfold rpD at h
  split at h
  · cases h
  · split at h
    · split at h
      · cases h
      · split at h
        · rename_i hg
          cases h
          exact hg
        · cases h
    · cases h
theorem ok_fitG {D : DG} (h : okG D = true) : FitG D := by
  have hp := okG_parts h
  exact ⟨by rw [hp.2.2.1]; omega, fun s hs => by have := hp.2.2.2 s hs; omega⟩
theorem rd_fit (no : Int) (zs : List Int) : FitG (rdR no zs) := by
  unfold rdR
  split
  · exact ⟨by simp, fun _ h => by cases h⟩
  · split
    · cases h : rpD no (headZ zs) with
      | none => exact ⟨by simp [rpP], fun _ h => by cases h⟩
      | some D => exact ok_fitG (rpD_ok h)
    · exact ⟨by simp, fun _ h => by cases h⟩
set_option maxRecDepth 100000 in
set_option maxHeartbeats 4000000 in
theorem c_implRP (no : Int) (a : Option Addr) (n cap : Nat) (zs : List Int) (w : World) (hr : RdV w a n (zs.map (Value.int .u8))) (hz : ∀ z ∈ zs, 0 ≤ z ∧ z < 256) (hn : n ≤ 1048576) (hcap : n ≤ cap) (ht : TabH w) :
    Calls Tryd.prog 14 #[.int .i64 no, .slice a n cap] w fun e w' => (∃ h' : HG, e = .returned (.tuple #[.agg #[.int .i64 h'.l, .slice h'.a h'.n h'.c], .int .i64 (rdC no zs)]) ∧ OwnG w' w.heap.size w'.heap.size h' (rdR no zs)) ∧ Below w.heap.size w w' := by
  have hl : zs.length = n := by simpa using hr.1
  obtain ⟨V, hV⟩ : ∃ V, w.alloc (.cells #[.int .i64 0, .slice none 0 0] 25) = V := ⟨_, rfl⟩
  have HB : Hid (Below w.heap.size w V) := by unfold Hid; rw [← hV]; exact (Below.refl _ _).alloc (Nat.le_refl _) _
  have BR : Hid (Box V w.heap.size 25 #[.int .i64 0, .slice none 0 0]) := by unfold Hid; rw [← hV]; exact Box.new _ _ _
  have l0 := BR.out.lt
  obtain ⟨u0, u1⟩ := box2 BR.out
  have t0 := BR.out.thaw 0
  have t1 := BR.out.thaw 1
  by_cases h1 : 65536 < n
  · have E : Hid (rdC no zs = 2 ∧ rdR no zs = ⟨0, []⟩) := rd2 (by omega)
    clear hr hz ht
    go_enter Tryd.func14, Tryd.ntmps14
    go_wp2
    refine retG2 Tryd.results14 rfl rfl rfl (put2_box BR.out _ _) ⟨?_, put2_below HB.out (Nat.le_refl _) _ _⟩
    rw [E.out.1, E.out.2]
    exact ⟨⟨0, none, 0, 0⟩, rfl, own_zero _ _ _ (Nat.le_refl _)⟩
  by_cases h4 : n < 4
  · have E : Hid (rdC no zs = 8 ∧ rdR no zs = ⟨0, []⟩) := rd8 (by omega) (uns_lo (by omega))
    clear hr hz ht
    go_enter Tryd.func14, Tryd.ntmps14
    go_wp2_with fail
    refine (c_unseal_lo a n cap V h4).mono ?_
    rintro e w1 ⟨rfl, q, hq⟩
    have B1 : Hid (Below w.heap.size w w1) := by unfold Hid; rw [hq]; exact below_drewN HB.out q
    have BR1 : Hid (Box w1 w.heap.size 25 #[.int .i64 0, .slice none 0 0]) := by unfold Hid; rw [hq]; exact BR.out.drewN q
    clear hq hV HB BR u0 u1 t0 t1
    obtain ⟨u0, u1⟩ := box2 BR1.out
    have t0 := BR1.out.thaw 0
    have t1 := BR1.out.thaw 1
    go_wp2
    refine retG2 Tryd.results14 rfl rfl rfl (put2_box BR1.out _ _) ⟨?_, put2_below B1.out (Nat.le_refl _) _ _⟩
    rw [E.out.1, E.out.2]
    exact ⟨⟨0, none, 0, 0⟩, rfl, own_zero _ _ _ (Nat.le_refl _)⟩
  obtain ⟨b, off, rfl, _, _⟩ := hr.2 (by omega)
  have HR : Hid (RdV w (some ⟨b, off, none⟩) n (zs.map (Value.int .u8))) := hr
  have HZ : Hid (∀ z ∈ zs, 0 ≤ z ∧ z < 256) := hz
  have HL : Hid (zs.length = n) := hl
  have UN := c_unseal b off n cap zs V (hr.below HB.out) hz (by omega) hcap (by omega) (ht.below HB.out)
  have HUN : Hid (Calls Tryd.prog 42 #[.slice (some ⟨b, off, none⟩) n cap] V fun e w' => e = .returned (.tuple #[unsV b off n (unsB zs), .bool (unsB zs)]) ∧ Below V.heap.size V w') := UN
  clear UN hr hz ht hl
  go_enter Tryd.func14, Tryd.ntmps14
  go_wp2_with fail
  refine HUN.out.mono ?_
  rintro e w1 ⟨rfl, hb⟩
  have B1 : Hid (Below w.heap.size w w1) := HB.out.trans (hb.mono HB.out.size)
  have BR1 : Hid (Box w1 w.heap.size 25 #[.int .i64 0, .slice none 0 0]) := BR.out.belowS hb
  clear hb hV HB BR u0 u1 t0 t1 HUN
  obtain ⟨u0, u1⟩ := box2 BR1.out
  have t0 := BR1.out.thaw 0
  have t1 := BR1.out.thaw 1
  cases hu : unsB zs
  · have E : Hid (rdC no zs = 8 ∧ rdR no zs = ⟨0, []⟩) := rd8 (by have := HL.out; omega) hu
    clear hu
    rw [show unsV b off n false = .slice none 0 0 from rfl]
    go_wp2
    refine retG2 Tryd.results14 rfl rfl rfl (put2_box BR1.out _ _) ⟨?_, put2_below B1.out (Nat.le_refl _) _ _⟩
    rw [E.out.1, E.out.2]
    exact ⟨⟨0, none, 0, 0⟩, rfl, own_zero _ _ _ (Nat.le_refl _)⟩
  have HU : Hid (unsB zs = true) := hu
  clear hu
  rw [show unsV b off n true = .slice (some ⟨b, off, none⟩) (n - 4) (n - 4) from rfl]
  have q01 : w.heap.size < w1.heap.size := BR1.out.lt
  have PO : Hid (Calls Tryd.prog 43 #[.int .i64 no, .slice (some ⟨b, off, none⟩) (n - 4) (n - 4)] w1 fun e w' => (∃ h' : HG, e = .returned (.tuple #[.agg #[.int .i64 h'.l, .slice h'.a h'.n h'.c], .bool (rpD no (headZ zs)).isSome]) ∧ OwnG w' w1.heap.size w'.heap.size h' (rpP (rpD no (headZ zs)))) ∧ Below w1.heap.size w1 w') := c_pageOf no b off (n - 4) (headZ zs) w1 ((head_rd HR.out).below B1.out) (head_bytes HZ.out) (by omega)
  go_wp2_with fail
  refine PO.out.mono ?_
  rintro e w2 ⟨⟨h2, rfl, o2⟩, hb⟩
  have B2 : Hid (Below w.heap.size w w2) := B1.out.trans (hb.mono B1.out.size)
  have BR2 : Hid (Box w2 w.heap.size 25 #[.int .i64 0, .slice none 0 0]) := BR1.out.belowS hb
  have O2 : Hid (OwnG w2 w1.heap.size w2.heap.size h2 (rpP (rpD no (headZ zs)))) := o2
  have q12 : w1.heap.size ≤ w2.heap.size := hb.size
  clear hb o2 PO B1 BR1 u0 u1 t0 t1
  obtain ⟨V3, hV3⟩ : ∃ W, w2.alloc (.cells #[.int .i64 h2.l, .slice h2.a h2.n h2.c] 25) = W := ⟨_, rfl⟩
  have hbv : Below w2.heap.size w2 V3 := by rw [← hV3]; exact (Below.refl _ _).alloc (Nat.le_refl _) _
  have B3 : Hid (Below w.heap.size w V3) := B2.out.trans (hbv.mono B2.out.size)
  have BR3 : Hid (Box V3 w.heap.size 25 #[.int .i64 0, .slice none 0 0]) := BR2.out.belowS hbv
  have BP3 : Hid (Box V3 w2.heap.size 25 #[.int .i64 h2.l, .slice h2.a h2.n h2.c]) := by unfold Hid; rw [← hV3]; exact Box.new _ _ _
  have O3 : Hid (OwnG V3 w1.heap.size w2.heap.size h2 (rpP (rpD no (headZ zs)))) := O2.out.below hbv
  clear hbv B2 BR2 O2
  obtain ⟨p0, p1⟩ := box2 BP3.out
  obtain ⟨u0, u1⟩ := box2 BR3.out
  have t0 := BR3.out.thaw 0
  have t1 := BR3.out.thaw 1
  cases hd : rpD no (headZ zs) with
  | none =>
    have E : Hid (rdC no zs = 3 ∧ rdR no zs = ⟨0, []⟩) := rd3 (by have := HL.out; omega) HU.out hd
    clear hd O3
    rw [Option.isSome_none]
    go_wp2
    refine retG2 Tryd.results14 rfl rfl rfl (put2_box BR3.out _ _) ⟨?_, put2_below B3.out (Nat.le_refl _) _ _⟩
    rw [E.out.1, E.out.2]
    exact ⟨⟨0, none, 0, 0⟩, rfl, own_zero _ _ _ (Nat.le_refl _)⟩
  | some D =>
    have E : Hid (rdC no zs = 0 ∧ rdR no zs = D) := rd0 (by have := HL.out; omega) HU.out hd
    have O4 : Hid (OwnG V3 w1.heap.size w2.heap.size h2 D) := by have := O3.out; rw [hd] at this; exact this
    clear hd O3
    rw [Option.isSome_some]
    go_wp2
    refine retG2 Tryd.results14 rfl rfl rfl (put2_box BR3.out _ _) ⟨?_, put2_below B3.out (Nat.le_refl _) _ _⟩
    rw [E.out.1, E.out.2]
    have := O4.out.put2 (r := w.heap.size) (.inl (by omega)) (.int .i64 h2.l) (.slice h2.a h2.n h2.c)
    exact ⟨h2, rfl, this.wide (B' := w.heap.size) (by omega)⟩

end Go.Proofs.YtggnfkdeakkpaaaDoor
