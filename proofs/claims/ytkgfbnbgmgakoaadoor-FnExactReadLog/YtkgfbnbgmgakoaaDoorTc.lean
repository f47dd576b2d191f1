/-
  Records that are read: the walk of the program's ReadRecord.
-/
import Derived.Test.YtkgfbnbgmgakoaaDoorTb
import Derived.Test.YtkgfbnbgmgakoaaDoorRv
namespace Go.Proofs.YtkgfbnbgmgakoaaDoor
open Go Go.RowKit
attribute [local go_sem ↓] Go.wp_at_zero Go.wp_at_succ


def rdC2 (zs : List Int) : Int := if 65536 < zs.length then 2 else if unsB zs then (if (rrD (headZ zs)).isSome then 0 else 3) else 8
def rdR2 (zs : List Int) : DR := if 65536 < zs.length then zeroR else if unsB zs then (rrD (headZ zs)).getD zeroR else zeroR
theorem rq2 {zs : List Int} (h : 65536 < zs.length) : rdC2 zs = 2 ∧ rdR2 zs = zeroR := by unfold rdC2 rdR2; rw [if_pos h, if_pos h]; exact ⟨rfl, rfl⟩
theorem rq8 {zs : List Int} (h : ¬ 65536 < zs.length) (h1 : unsB zs = false) : rdC2 zs = 8 ∧ rdR2 zs = zeroR := by unfold rdC2 rdR2; rw [if_neg h, if_neg h, h1]; exact ⟨rfl, rfl⟩
theorem rq3 {zs : List Int} (h : ¬ 65536 < zs.length) (h1 : unsB zs = true) (h2 : rrD (headZ zs) = none) : rdC2 zs = 3 ∧ rdR2 zs = zeroR := by unfold rdC2 rdR2; rw [if_neg h, if_neg h, h1, h2]; exact ⟨rfl, rfl⟩
theorem rq0 {zs : List Int} {D : DR} (h : ¬ 65536 < zs.length) (h1 : unsB zs = true) (h2 : rrD (headZ zs) = some D) : rdC2 zs = 0 ∧ rdR2 zs = D := by unfold rdC2 rdR2; rw [if_neg h, if_neg h, h1, h2]; exact ⟨rfl, rfl⟩

set_option maxRecDepth 100000 in
set_option maxHeartbeats 4000000 in
theorem c_implRR (a : Option Addr) (n cap : Nat) (zs : List Int) (w : World) (hr : RdV w a n (zs.map (Value.int .u8))) (hz : ∀ z ∈ zs, 0 ≤ z ∧ z < 256) (hn : n ≤ 1048576) (hcap : n ≤ cap) (ht : TabH w) :
    Calls Tryd.prog 46 #[.slice a n cap] w fun e' w' => e' = .returned (.tuple #[.agg (agR (rdR2 zs)), .int .i64 (rdC2 zs)]) ∧ Below w.heap.size w w' := by
  have hl : zs.length = n := by simpa using hr.1
  obtain ⟨V, hV⟩ : ∃ V, w.alloc (.cells #[.int .i64 0, .int .i64 0, .int .i64 0, .int .i64 0, .int .i64 0, .int .i64 0, .int .i64 0, .int .i64 0, .string ⟨#[]⟩, .string ⟨#[]⟩] 75) = V := ⟨_, rfl⟩
  have HB : Hid (Below w.heap.size w V) := by unfold Hid; rw [← hV]; exact (Below.refl _ _).alloc (Nat.le_refl _) _
  have BR : Hid (Box V w.heap.size 75 #[.int .i64 0, .int .i64 0, .int .i64 0, .int .i64 0, .int .i64 0, .int .i64 0, .int .i64 0, .int .i64 0, .string ⟨#[]⟩, .string ⟨#[]⟩]) := by unfold Hid; rw [← hV]; exact Box.new _ _ _
  obtain ⟨u0, u1, u2, u3, u4, u5, u6, u7, u8, u9⟩ := box10 BR.out
  obtain ⟨t0, t1, t2, t3, t4, t5, t6, t7, t8, t9⟩ := thaw10 BR.out
  by_cases h1 : 65536 < n
  · have E : Hid (rdC2 zs = 2 ∧ rdR2 zs = zeroR) := rq2 (by omega)
    clear hr hz ht
    go_enter Tryd.func46, Tryd.ntmps46
    go_wp2
    refine retR2 (D := zeroR) Tryd.results46 rfl rfl rfl (put10_box (D0 := zeroR) BR.out zeroR) ⟨?_, put10_below HB.out (Nat.le_refl _) zeroR⟩
    rw [E.out.1, E.out.2]
    rfl
  by_cases h4 : n < 4
  · have E : Hid (rdC2 zs = 8 ∧ rdR2 zs = zeroR) := rq8 (by omega) (uns_lo (by omega))
    clear hr hz ht
    go_enter Tryd.func46, Tryd.ntmps46
    go_wp2_with fail
    refine (c_unseal_lo a n cap V h4).mono ?_
    rintro e' w1 ⟨rfl, q, hq⟩
    have B1 : Hid (Below w.heap.size w w1) := by unfold Hid; rw [hq]; exact below_drewN HB.out q
    have BR1 : Hid (Box w1 w.heap.size 75 #[.int .i64 0, .int .i64 0, .int .i64 0, .int .i64 0, .int .i64 0, .int .i64 0, .int .i64 0, .int .i64 0, .string ⟨#[]⟩, .string ⟨#[]⟩]) := by unfold Hid; rw [hq]; exact BR.out.drewN q
    clear hq hV HB BR u0 u1 u2 u3 u4 u5 u6 u7 u8 u9 t0 t1 t2 t3 t4 t5 t6 t7 t8 t9
    obtain ⟨u0, u1, u2, u3, u4, u5, u6, u7, u8, u9⟩ := box10 BR1.out
    obtain ⟨t0, t1, t2, t3, t4, t5, t6, t7, t8, t9⟩ := thaw10 BR1.out
    go_wp2
    refine retR2 (D := zeroR) Tryd.results46 rfl rfl rfl (put10_box (D0 := zeroR) BR1.out zeroR) ⟨?_, put10_below B1.out (Nat.le_refl _) zeroR⟩
    rw [E.out.1, E.out.2]
    rfl
  obtain ⟨b, off, rfl, _, _⟩ := hr.2 (by omega)
  have HR : Hid (RdV w (some ⟨b, off, none⟩) n (zs.map (Value.int .u8))) := hr
  have HZ : Hid (∀ z ∈ zs, 0 ≤ z ∧ z < 256) := hz
  have HL : Hid (zs.length = n) := hl
  have HUN : Hid (Calls Tryd.prog 107 #[.slice (some ⟨b, off, none⟩) n cap] V fun e w' => e = .returned (.tuple #[unsV b off n (unsB zs), .bool (unsB zs)]) ∧ Below V.heap.size V w') := c_unseal b off n cap zs V (hr.below HB.out) hz (by omega) hcap (by omega) (ht.below HB.out)
  clear hr hz ht hl
  go_enter Tryd.func46, Tryd.ntmps46
  go_wp2_with fail
  refine HUN.out.mono ?_
  rintro e' w1 ⟨rfl, hb⟩
  have B1 : Hid (Below w.heap.size w w1) := HB.out.trans (hb.mono HB.out.size)
  have BR1 : Hid (Box w1 w.heap.size 75 #[.int .i64 0, .int .i64 0, .int .i64 0, .int .i64 0, .int .i64 0, .int .i64 0, .int .i64 0, .int .i64 0, .string ⟨#[]⟩, .string ⟨#[]⟩]) := BR.out.belowS hb
  clear hb hV HB BR u0 u1 u2 u3 u4 u5 u6 u7 u8 u9 t0 t1 t2 t3 t4 t5 t6 t7 t8 t9 HUN
  obtain ⟨u0, u1, u2, u3, u4, u5, u6, u7, u8, u9⟩ := box10 BR1.out
  obtain ⟨t0, t1, t2, t3, t4, t5, t6, t7, t8, t9⟩ := thaw10 BR1.out
  cases hu : unsB zs
  · have E : Hid (rdC2 zs = 8 ∧ rdR2 zs = zeroR) := rq8 (by have := HL.out; omega) hu
    clear hu
    rw [show unsV b off n false = .slice none 0 0 from rfl]
    go_wp2
    refine retR2 (D := zeroR) Tryd.results46 rfl rfl rfl (put10_box (D0 := zeroR) BR1.out zeroR) ⟨?_, put10_below B1.out (Nat.le_refl _) zeroR⟩
    rw [E.out.1, E.out.2]
    rfl
  have HU : Hid (unsB zs = true) := hu
  clear hu
  rw [show unsV b off n true = .slice (some ⟨b, off, none⟩) (n - 4) (n - 4) from rfl]
  have PO : Hid (Calls Tryd.prog 108 #[.slice (some ⟨b, off, none⟩) (n - 4) (n - 4)] w1 fun e' w' => (∃ D, e' = .returned (.tuple #[.agg (agR D), .bool (rrD (headZ zs)).isSome]) ∧ ∀ D', rrD (headZ zs) = some D' → D = D') ∧ Below w1.heap.size w1 w') := c_recordOf b off (n - 4) (headZ zs) w1 ((head_rd HR.out).below B1.out) (head_bytes HZ.out) (by omega)
  go_wp2_with fail
  refine PO.out.mono ?_
  rintro e' w2 ⟨⟨⟨f1, f2, f3, f4, f5, f6, f7, f8, fb, fa⟩, rfl, hD⟩, hb⟩
  have B2 : Hid (Below w.heap.size w w2) := B1.out.trans (hb.mono B1.out.size)
  have BR2 : Hid (Box w2 w.heap.size 75 #[.int .i64 0, .int .i64 0, .int .i64 0, .int .i64 0, .int .i64 0, .int .i64 0, .int .i64 0, .int .i64 0, .string ⟨#[]⟩, .string ⟨#[]⟩]) := BR1.out.belowS hb
  have HD : Hid (∀ D', rrD (headZ zs) = some D' → (⟨f1, f2, f3, f4, f5, f6, f7, f8, fb, fa⟩ : DR) = D') := hD
  clear hb hD PO B1 BR1 u0 u1 u2 u3 u4 u5 u6 u7 u8 u9 t0 t1 t2 t3 t4 t5 t6 t7 t8 t9
  rw [show agR ⟨f1, f2, f3, f4, f5, f6, f7, f8, fb, fa⟩ = #[.int .i64 f1, .int .i64 f2, .int .i64 f3, .int .i64 f4, .int .i64 f5, .int .i64 f6, .int .i64 f7, .int .i64 f8, .string fb, .string fa] from rfl]
  obtain ⟨V3, hV3⟩ : ∃ W, w2.alloc (.cells #[.int .i64 f1, .int .i64 f2, .int .i64 f3, .int .i64 f4, .int .i64 f5, .int .i64 f6, .int .i64 f7, .int .i64 f8, .string fb, .string fa] 75) = W := ⟨_, rfl⟩
  have hbv : Below w2.heap.size w2 V3 := by rw [← hV3]; exact (Below.refl _ _).alloc (Nat.le_refl _) _
  have B3 : Hid (Below w.heap.size w V3) := B2.out.trans (hbv.mono B2.out.size)
  have BR3 : Hid (Box V3 w.heap.size 75 #[.int .i64 0, .int .i64 0, .int .i64 0, .int .i64 0, .int .i64 0, .int .i64 0, .int .i64 0, .int .i64 0, .string ⟨#[]⟩, .string ⟨#[]⟩]) := BR2.out.belowS hbv
  have BP3 : Hid (Box V3 w2.heap.size 75 #[.int .i64 f1, .int .i64 f2, .int .i64 f3, .int .i64 f4, .int .i64 f5, .int .i64 f6, .int .i64 f7, .int .i64 f8, .string fb, .string fa]) := by unfold Hid; rw [← hV3]; exact Box.new _ _ _
  clear hbv B2 BR2
  obtain ⟨p0, p1, p2, p3, p4, p5, p6, p7, p8, p9⟩ := box10 BP3.out
  obtain ⟨u0, u1, u2, u3, u4, u5, u6, u7, u8, u9⟩ := box10 BR3.out
  obtain ⟨t0, t1, t2, t3, t4, t5, t6, t7, t8, t9⟩ := thaw10 BR3.out
  cases hd : rrD (headZ zs) with
  | none =>
    have E : Hid (rdC2 zs = 3 ∧ rdR2 zs = zeroR) := rq3 (by have := HL.out; omega) HU.out hd
    clear hd HD
    rw [Option.isSome_none]
    go_wp2
    refine retR2 (D := zeroR) Tryd.results46 rfl rfl rfl (put10_box (D0 := zeroR) BR3.out zeroR) ⟨?_, put10_below B3.out (Nat.le_refl _) zeroR⟩
    rw [E.out.1, E.out.2]
    rfl
  | some D =>
    have E : Hid (rdC2 zs = 0 ∧ rdR2 zs = ⟨f1, f2, f3, f4, f5, f6, f7, f8, fb, fa⟩) := by have := rq0 (by have := HL.out; omega) HU.out hd; rw [← HD.out D hd] at this; exact this
    clear hd HD
    rw [Option.isSome_some]
    go_wp2
    refine retR2 (D := ⟨f1, f2, f3, f4, f5, f6, f7, f8, fb, fa⟩) Tryd.results46 rfl rfl rfl (put10_box (D0 := zeroR) BR3.out ⟨f1, f2, f3, f4, f5, f6, f7, f8, fb, fa⟩) ⟨?_, put10_below B3.out (Nat.le_refl _) ⟨f1, f2, f3, f4, f5, f6, f7, f8, fb, fa⟩⟩
    rw [E.out.1, E.out.2]
    rfl

end Go.Proofs.YtkgfbnbgmgakoaaDoor
