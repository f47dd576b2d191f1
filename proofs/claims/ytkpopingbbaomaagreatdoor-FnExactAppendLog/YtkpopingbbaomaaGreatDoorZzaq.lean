/-
  How a record that came in is read.
-/
import Derived.Test.YtkpopingbbaomaaGreatDoorTbq
import Derived.Test.YtkpopingbbaomaaGreatDoorZzaj
import Derived.Test.YtkpopingbbaomaaGreatDoorRows
import Derived.ProofKit
import Derived.OpenShut
import Derived.SliceStrings
import Derived.ChangeSlices
import Derived.Lib.SmallJoins
import Derived.Deep.Slices
import Derived.Deep.Strs
namespace Go.Proofs.YtkpopingbbaomaaGreatDoor
open Go Go.RowKit
attribute [local go_sem ↓] Go.wp_at_zero Go.wp_at_succ


def rdC2 (zs : List Int) : Int := if 65536 < zs.length then 2 else if unsB zs then (if (rrD (headZ zs)).isSome then 0 else 3) else 8
def rdR2 (zs : List Int) : DR := if 65536 < zs.length then zeroR else if unsB zs then (rrD (headZ zs)).getD zeroR else zeroR
theorem rq2 {zs : List Int} (h : 65536 < zs.length) : rdC2 zs = 2 ∧ rdR2 zs = zeroR := by unfold rdC2 rdR2; rw [if_pos h, if_pos h]; exact ⟨rfl, rfl⟩
theorem rq8 {zs : List Int} (h : ¬ 65536 < zs.length) (h1 : unsB zs = false) : rdC2 zs = 8 ∧ rdR2 zs = zeroR := by unfold rdC2 rdR2; rw [if_neg h, if_neg h, h1]; exact ⟨rfl, rfl⟩
theorem rq3 {zs : List Int} (h : ¬ 65536 < zs.length) (h1 : unsB zs = true) (h2 : rrD (headZ zs) = none) : rdC2 zs = 3 ∧ rdR2 zs = zeroR := by unfold rdC2 rdR2; rw [if_neg h, if_neg h, h1, h2]; exact ⟨rfl, rfl⟩
theorem rq0 {zs : List Int} {D : DR} (h : ¬ 65536 < zs.length) (h1 : unsB zs = true) (h2 : rrD (headZ zs) = some D) : rdC2 zs = 0 ∧ rdR2 zs = D := by unfold rdC2 rdR2; rw [if_neg h, if_neg h, h1, h2]; exact ⟨rfl, rfl⟩

set_option maxRecDepth 100000 in
set_option maxHeartbeats 4000000 in
theorem c_implRR (a : Option Addr) (n cap : Nat) (zs : List Int) (w : World) (hr : RdV w a n (zs.map (Value.int .u8))) (hz : ∀ z ∈ zs, 0 ≤ z ∧ z < 256) (hn : n ≤ 1048576) (hcap : n ≤ cap) (ht : TabH w) :
    Calls Tryz.prog 236 #[.slice a n cap] w fun e' w' => e' = .returned (.tuple #[.agg (agR (rdR2 zs)), .int .i64 (rdC2 zs)]) ∧ Below w.heap.size w w' := by
  have hl : zs.length = n := by simpa using hr.1
  obtain ⟨V, hV⟩ : ∃ V, w.alloc (.cells #[.int .i64 0, .int .i64 0, .int .i64 0, .int .i64 0, .int .i64 0, .int .i64 0, .int .i64 0, .int .i64 0, .string ⟨#[]⟩, .string ⟨#[]⟩] 78) = V := ⟨_, rfl⟩
  have HB : Hid (Below w.heap.size w V) := by unfold Hid; rw [← hV]; exact (Below.refl _ _).alloc (Nat.le_refl _) _
  have BR : Hid (Box V w.heap.size 78 #[.int .i64 0, .int .i64 0, .int .i64 0, .int .i64 0, .int .i64 0, .int .i64 0, .int .i64 0, .int .i64 0, .string ⟨#[]⟩, .string ⟨#[]⟩]) := by unfold Hid; rw [← hV]; exact Box.new _ _ _
  obtain ⟨u0, u1, u2, u3, u4, u5, u6, u7, u8, u9⟩ := box10 BR.out
  obtain ⟨t0, t1, t2, t3, t4, t5, t6, t7, t8, t9⟩ := thaw10 BR.out
  by_cases h1 : 65536 < n
  · have E : Hid (rdC2 zs = 2 ∧ rdR2 zs = zeroR) := rq2 (by omega)
    clear hr hz ht
    go_enter Tryz.func236, Tryz.ntmps236
    go_wp2
    refine retR2 (D := zeroR) Tryz.results236 rfl rfl rfl (put10_box (D0 := zeroR) BR.out zeroR) ⟨?_, put10_below HB.out (Nat.le_refl _) zeroR⟩
    rw [E.out.1, E.out.2]
    rfl
  by_cases h4 : n < 4
  · have E : Hid (rdC2 zs = 8 ∧ rdR2 zs = zeroR) := rq8 (by omega) (uns_lo (by omega))
    clear hr hz ht
    go_enter Tryz.func236, Tryz.ntmps236
    go_wp2_with fail
    refine (c_unseal_lo a n cap V h4).mono ?_
    rintro e' w1 ⟨rfl, q, hq⟩
    have B1 : Hid (Below w.heap.size w w1) := by unfold Hid; rw [hq]; exact below_drewN HB.out q
    have BR1 : Hid (Box w1 w.heap.size 78 #[.int .i64 0, .int .i64 0, .int .i64 0, .int .i64 0, .int .i64 0, .int .i64 0, .int .i64 0, .int .i64 0, .string ⟨#[]⟩, .string ⟨#[]⟩]) := by unfold Hid; rw [hq]; exact BR.out.drewN q
    clear hq hV HB BR u0 u1 u2 u3 u4 u5 u6 u7 u8 u9 t0 t1 t2 t3 t4 t5 t6 t7 t8 t9
    obtain ⟨u0, u1, u2, u3, u4, u5, u6, u7, u8, u9⟩ := box10 BR1.out
    obtain ⟨t0, t1, t2, t3, t4, t5, t6, t7, t8, t9⟩ := thaw10 BR1.out
    go_wp2
    refine retR2 (D := zeroR) Tryz.results236 rfl rfl rfl (put10_box (D0 := zeroR) BR1.out zeroR) ⟨?_, put10_below B1.out (Nat.le_refl _) zeroR⟩
    rw [E.out.1, E.out.2]
    rfl
  obtain ⟨b, off, rfl, _, _⟩ := hr.2 (by omega)
  have HR : Hid (RdV w (some ⟨b, off, none⟩) n (zs.map (Value.int .u8))) := hr
  have HZ : Hid (∀ z ∈ zs, 0 ≤ z ∧ z < 256) := hz
  have HL : Hid (zs.length = n) := hl
  have HUN : Hid (Calls Tryz.prog 281 #[.slice (some ⟨b, off, none⟩) n cap] V fun e w' => e = .returned (.tuple #[unsV b off n (unsB zs), .bool (unsB zs)]) ∧ Below V.heap.size V w') := c_unseal b off n cap zs V (hr.below HB.out) hz (by omega) hcap (by omega) (ht.below HB.out)
  clear hr hz ht hl
  go_enter Tryz.func236, Tryz.ntmps236
  go_wp2_with fail
  refine HUN.out.mono ?_
  rintro e' w1 ⟨rfl, hb⟩
  have B1 : Hid (Below w.heap.size w w1) := HB.out.trans (hb.mono HB.out.size)
  have BR1 : Hid (Box w1 w.heap.size 78 #[.int .i64 0, .int .i64 0, .int .i64 0, .int .i64 0, .int .i64 0, .int .i64 0, .int .i64 0, .int .i64 0, .string ⟨#[]⟩, .string ⟨#[]⟩]) := BR.out.belowS hb
  clear hb hV HB BR u0 u1 u2 u3 u4 u5 u6 u7 u8 u9 t0 t1 t2 t3 t4 t5 t6 t7 t8 t9 HUN
  obtain ⟨u0, u1, u2, u3, u4, u5, u6, u7, u8, u9⟩ := box10 BR1.out
  obtain ⟨t0, t1, t2, t3, t4, t5, t6, t7, t8, t9⟩ := thaw10 BR1.out
  cases hu : unsB zs
  · have E : Hid (rdC2 zs = 8 ∧ rdR2 zs = zeroR) := rq8 (by have := HL.out; omega) hu
    clear hu
    rw [show unsV b off n false = .slice none 0 0 from rfl]
    go_wp2
    refine retR2 (D := zeroR) Tryz.results236 rfl rfl rfl (put10_box (D0 := zeroR) BR1.out zeroR) ⟨?_, put10_below B1.out (Nat.le_refl _) zeroR⟩
    rw [E.out.1, E.out.2]
    rfl
  have HU : Hid (unsB zs = true) := hu
  clear hu
  rw [show unsV b off n true = .slice (some ⟨b, off, none⟩) (n - 4) (n - 4) from rfl]
  have PO : Hid (Calls Tryz.prog 282 #[.slice (some ⟨b, off, none⟩) (n - 4) (n - 4)] w1 fun e' w' => (∃ D, e' = .returned (.tuple #[.agg (agR D), .bool (rrD (headZ zs)).isSome]) ∧ ∀ D', rrD (headZ zs) = some D' → D = D') ∧ Below w1.heap.size w1 w') := c_recordOf b off (n - 4) (headZ zs) w1 ((head_rd HR.out).below B1.out) (head_bytes HZ.out) (by omega)
  go_wp2_with fail
  refine PO.out.mono ?_
  rintro e' w2 ⟨⟨⟨f1, f2, f3, f4, f5, f6, f7, f8, fb, fa⟩, rfl, hD⟩, hb⟩
  have B2 : Hid (Below w.heap.size w w2) := B1.out.trans (hb.mono B1.out.size)
  have BR2 : Hid (Box w2 w.heap.size 78 #[.int .i64 0, .int .i64 0, .int .i64 0, .int .i64 0, .int .i64 0, .int .i64 0, .int .i64 0, .int .i64 0, .string ⟨#[]⟩, .string ⟨#[]⟩]) := BR1.out.belowS hb
  have HD : Hid (∀ D', rrD (headZ zs) = some D' → (⟨f1, f2, f3, f4, f5, f6, f7, f8, fb, fa⟩ : DR) = D') := hD
  clear hb hD PO B1 BR1 u0 u1 u2 u3 u4 u5 u6 u7 u8 u9 t0 t1 t2 t3 t4 t5 t6 t7 t8 t9
  rw [show agR ⟨f1, f2, f3, f4, f5, f6, f7, f8, fb, fa⟩ = #[.int .i64 f1, .int .i64 f2, .int .i64 f3, .int .i64 f4, .int .i64 f5, .int .i64 f6, .int .i64 f7, .int .i64 f8, .string fb, .string fa] from rfl]
  obtain ⟨V3, hV3⟩ : ∃ W, w2.alloc (.cells #[.int .i64 f1, .int .i64 f2, .int .i64 f3, .int .i64 f4, .int .i64 f5, .int .i64 f6, .int .i64 f7, .int .i64 f8, .string fb, .string fa] 78) = W := ⟨_, rfl⟩
  have hbv : Below w2.heap.size w2 V3 := by rw [← hV3]; exact (Below.refl _ _).alloc (Nat.le_refl _) _
  have B3 : Hid (Below w.heap.size w V3) := B2.out.trans (hbv.mono B2.out.size)
  have BR3 : Hid (Box V3 w.heap.size 78 #[.int .i64 0, .int .i64 0, .int .i64 0, .int .i64 0, .int .i64 0, .int .i64 0, .int .i64 0, .int .i64 0, .string ⟨#[]⟩, .string ⟨#[]⟩]) := BR2.out.belowS hbv
  have BP3 : Hid (Box V3 w2.heap.size 78 #[.int .i64 f1, .int .i64 f2, .int .i64 f3, .int .i64 f4, .int .i64 f5, .int .i64 f6, .int .i64 f7, .int .i64 f8, .string fb, .string fa]) := by unfold Hid; rw [← hV3]; exact Box.new _ _ _
  clear hbv B2 BR2
  obtain ⟨p0, p1, p2, p3, p4, p5, p6, p7, p8, p9⟩ := box10 BP3.out
  obtain ⟨u0, u1, u2, u3, u4, u5, u6, u7, u8, u9⟩ := box10 BR3.out
  obtain ⟨t0, t1, t2, t3, t4, t5, t6, t7, t8, t9⟩ := thaw10 BR3.out
  cases hd : rrD (headZ zs) with
  | none =>
    have E : Hid (rdC2 zs = 3 ∧ rdR2 zs = zeroR) := rq3 (by have := HL.out; omega) HU.out hd
    clear hd HD
    rw [Option.isSome_none]
    go_wp2
    refine retR2 (D := zeroR) Tryz.results236 rfl rfl rfl (put10_box (D0 := zeroR) BR3.out zeroR) ⟨?_, put10_below B3.out (Nat.le_refl _) zeroR⟩
    rw [E.out.1, E.out.2]
    rfl
  | some D =>
    have E : Hid (rdC2 zs = 0 ∧ rdR2 zs = ⟨f1, f2, f3, f4, f5, f6, f7, f8, fb, fa⟩) := by have := rq0 (by have := HL.out; omega) HU.out hd; rw [← HD.out D hd] at this; exact this
    clear hd HD
    rw [Option.isSome_some]
    go_wp2
    refine retR2 (D := ⟨f1, f2, f3, f4, f5, f6, f7, f8, fb, fa⟩) Tryz.results236 rfl rfl rfl (put10_box (D0 := zeroR) BR3.out ⟨f1, f2, f3, f4, f5, f6, f7, f8, fb, fa⟩) ⟨?_, put10_below B3.out (Nat.le_refl _) ⟨f1, f2, f3, f4, f5, f6, f7, f8, fb, fa⟩⟩
    rw [E.out.1, E.out.2]
    rfl

end Go.Proofs.YtkpopingbbaomaaGreatDoor
namespace Go.Proofs.YtkpopingbbaomaaGreatDoor
open Go Go.RowKit
attribute [local go_sem ↓] Go.wp_at_zero Go.wp_at_succ


set_option maxRecDepth 100000 in
set_option maxHeartbeats 2000000 in
theorem c_unsealS (zs : List Int) (w : World) (hz : ∀ z ∈ zs, 0 ≤ z ∧ z < 256) (hn : zs.length ≤ 65536) (h4 : 4 ≤ zs.length) :
    Calls Tryz.prog 265 #[.string (strOfNums zs)] w fun e w' => e = .returned (.tuple #[.string (unsT zs (unsB zs)), .bool (unsB zs)]) ∧ Below w.heap.size w w' := by
  obtain ⟨t, ht⟩ : ∃ t, t = strOfNums zs := ⟨_, rfl⟩
  obtain ⟨hd, hhd⟩ : ∃ t, t = strOfNums (headZ zs) := ⟨_, rfl⟩
  obtain ⟨tl, htl⟩ : ∃ t, t = strOfNums (tailZ zs) := ⟨_, rfl⟩
  obtain ⟨m, hm⟩ : ∃ m, m = zs.length - 4 := ⟨_, rfl⟩
  have hts : t.size = m + 4 := by rw [ht, strOfNums_size]; omega
  have x1 : t.extract 0 m = hd := by rw [ht, hhd, hm]; exact cut_head
  have x2 : t.extract m (m + 4) = tl := by rw [ht, htl, hm, show zs.length - 4 + 4 = zs.length by omega]; exact cut_tail
  obtain ⟨C, hC⟩ : ∃ C : Int, C = (Crc.crc (headZ zs) : Nat) := ⟨_, rfl⟩
  obtain ⟨O, hO⟩ : ∃ O : Int, O = ofL (tailZ zs) := ⟨_, rfl⟩
  have hcmp : (C != O) = !unsB zs := by rw [hC, hO]; exact of_sum h4 hz
  have hcv : ∀ W : World, (convert 9 237 (.string hd)).run Tryz.prog W = .ok (.slice (some ⟨W.heap.size, 0, none⟩) m (grownCap W m 0 5)) (W.drew.alloc (.cells (bytesRow hd (grownCap W m 0 5)) 5 ((bytesRow hd (grownCap W m 0 5)).size, (bytesRow hd (grownCap W m 0 5)).size + 1))) := fun W => by
    have hs : hd.size = m := by rw [hhd, strOfNums_size, headZ_len, hm]
    have := run_bytes_of_string (P := Tryz.prog) W 9 237 5 hd Tryz.underlying9 Tryz.underlying237 Tryz.underlying5
    rw [hs] at this
    exact this
  have CHK : Hid (∀ (c cp : Nat) (fr : Nat × Nat), Calls Tryz.prog 296 #[.slice (some ⟨w.heap.size, 0, none⟩) m cp] (w.alloc (.cells (bytesRow hd c) 5 fr)).drew.drew fun e w' => e = .returned (.int .i64 C) ∧ w' = (w.alloc (.cells (bytesRow hd c) 5 fr)).drew.drew) := fun c cp fr => by
    rw [hC, hhd]
    have hs : m = (headZ zs).length := by rw [headZ_len, hm]
    rw [hs]
    exact c14 _ _ cp (headZ zs) _ (conv_rd (head_bytes hz)) (by rw [headZ_len]; omega)
  have OFF : Hid (∀ W : World, Calls Tryz.prog 267 #[.string tl] W fun e w' => e = .returned (.int .i64 O) ∧ w' = W) := fun W => by
    rw [hO, htl]
    exact c_of (tailZ zs) W (fun z h => hz z (List.mem_of_mem_drop h)) (by unfold tailZ; rw [List.length_drop]; omega)
  have HH : Hid (hd = strOfNums (headZ zs)) := hhd
  have hmb : m ≤ 65536 := by omega
  rw [← ht]
  clear hz ht hhd htl hC hO h4 hm hn
  have z0 : ¬ (m : Int) < 0 := by omega
  have z1 : (0 : Int) ≤ (m : Int) := by omega
  have z2 : (m : Int) ≤ (m : Int) + 4 := by omega
  cases hu : unsB zs
  all_goals
    rw [hu] at hcmp
    go_enter Tryz.func265, Tryz.ntmps265
    go_wp2_with fail
    go_region_held (fun _ => True) (trivial) (first
        | (go_at_call 296; refine (CHK.out _ _ _).mono ?_; rintro e w1 ⟨rfl, hq1⟩; have B1 : Hid (Below w.heap.size w w1) := (by unfold Hid; rw [hq1]; exact ((Below.refl _ _).alloc (Nat.le_refl _) _).drew.drew); clear hq1)
        | (go_at_call 267; refine (OFF.out _).mono ?_; rintro e w2 ⟨rfl, hq2⟩; have B2 : Hid (Below w.heap.size w w2) := (by unfold Hid; rw [hq2]; exact B1.out); clear hq2))
    clear hcv CHK OFF
    go_wp2
    go_ret2
    exact ⟨by first | rfl | (unfold unsT; rw [← HH.out]; rfl), B2.out⟩

end Go.Proofs.YtkpopingbbaomaaGreatDoor
namespace Go.Proofs.YtkpopingbbaomaaGreatDoor
open Go Go.RowKit Go.ChangeShapes Go.WideShapes Go.Deep Go.WideElems

theorem array10 {α : Type} {cs : Array α} (h : cs.size = 10) : ∃ c0 c1 c2 c3 c4 c5 c6 c7 c8 c9, cs = #[c0, c1, c2, c3, c4, c5, c6, c7, c8, c9] := by
  obtain ⟨l⟩ := cs
  match l, h with
  | [c0, c1, c2, c3, c4, c5, c6, c7, c8, c9], _ => exact ⟨c0, c1, c2, c3, c4, c5, c6, c7, c8, c9, rfl⟩
theorem cells3i : Tryz.prog.cellsOf 3 = 1 := by kernel_rfl
theorem cells9i : Tryz.prog.cellsOf 9 = 1 := by kernel_rfl
set_option maxRecDepth 100000 in
theorem open_rec {H : Type} {enc : TypeId × Value → H} {w : World} {held : Bool} {r : Reach} {b0 : Nat} {v : Value} {d : DataW H} {p : List MemPlace} (hv : Value.okWide Tryz.prog w r b0 72 v) (h : DataW.Trod enc Tryz.prog w 0 (fun _ => true) held 72 v d p) :
    ∃ (e l t k q n g s : Int) (b a : ByteArray), v = .agg #[.int .i64 e, .int .i64 l, .int .i64 t, .int .i64 k, .int .i64 q, .int .i64 n, .int .i64 g, .int .i64 s, .string b, .string a] ∧ b.size ≤ maxLen ∧ a.size ≤ maxLen := by
  obtain ⟨cs, rfl, hsz⟩ := okWide_struct Tryz.underlying72 hv
  obtain ⟨c0, c1, c2, c3, c4, c5, c6, c7, c8, c9, rfl⟩ := array10 (hsz.trans (by kernel_rfl))
  obtain ⟨fuel, hf⟩ := h
  obtain ⟨xs, n, _, _, _, hlen, hff⟩ := DataW.trod_struct Tryz.underlying72 hf
  have g : ∀ i, i < 10 → ∃ y, xs[i]? = some y := fun i hi => ⟨_, List.getElem?_eq_getElem (by rw [hlen]; exact hi)⟩
  obtain ⟨y0, hy0⟩ := g 0 (by omega)
  obtain ⟨k0, e0, _, _⟩ := DataW.trod_int Tryz.underlying3 ((hff 0 _ rfl).trans hy0)
  obtain ⟨y1, hy1⟩ := g 1 (by omega)
  obtain ⟨k1, e1, _, _⟩ := DataW.trod_int Tryz.underlying3 ((hff 1 _ rfl).trans hy1)
  obtain ⟨y2, hy2⟩ := g 2 (by omega)
  obtain ⟨k2, e2, _, _⟩ := DataW.trod_int Tryz.underlying3 ((hff 2 _ rfl).trans hy2)
  obtain ⟨y3, hy3⟩ := g 3 (by omega)
  obtain ⟨k3, e3, _, _⟩ := DataW.trod_int Tryz.underlying3 ((hff 3 _ rfl).trans hy3)
  obtain ⟨y4, hy4⟩ := g 4 (by omega)
  obtain ⟨k4, e4, _, _⟩ := DataW.trod_int Tryz.underlying3 ((hff 4 _ rfl).trans hy4)
  obtain ⟨y5, hy5⟩ := g 5 (by omega)
  obtain ⟨k5, e5, _, _⟩ := DataW.trod_int Tryz.underlying3 ((hff 5 _ rfl).trans hy5)
  obtain ⟨y6, hy6⟩ := g 6 (by omega)
  obtain ⟨k6, e6, _, _⟩ := DataW.trod_int Tryz.underlying3 ((hff 6 _ rfl).trans hy6)
  obtain ⟨y7, hy7⟩ := g 7 (by omega)
  obtain ⟨k7, e7, _, _⟩ := DataW.trod_int Tryz.underlying3 ((hff 7 _ rfl).trans hy7)
  obtain ⟨y8, hy8⟩ := g 8 (by omega)
  obtain ⟨k8, e8, _, m8⟩ := DataW.trod_string Tryz.underlying9 ((hff 8 _ rfl).trans hy8)
  obtain ⟨y9, hy9⟩ := g 9 (by omega)
  obtain ⟨k9, e9, _, m9⟩ := DataW.trod_string Tryz.underlying9 ((hff 9 _ rfl).trans hy9)
  simp [Value.cells, cells3i, cells9i] at e0 e1 e2 e3 e4 e5 e6 e7 e8 e9
  subst e0 e1 e2 e3 e4 e5 e6 e7 e8 e9
  exact ⟨_, _, _, _, _, _, _, _, _, _, rfl, m8, m9⟩

end Go.Proofs.YtkpopingbbaomaaGreatDoor
