/-
  RunCode on both sides.
-/
import Derived.Test.YtcgcaomaofppiaaDoorDe
import Derived.Test.YtcgcaomaofppiaaDoorDf
import Derived.Deep.RegionHeld3
namespace Go.Proofs.YtcgcaomaofppiaaDoor
open Go Go.RowKit
attribute [local go_sem ↓] Go.wp_at_zero Go.wp_at_succ

set_option linter.unusedVariables false
set_option linter.unusedSimpArgs false
def rcE (L : List IN) (n : Nat) (i : Int) (u v : VV) : EV := if 4096 < n then errE 2 else if okC n L && rowB i u v then ranC L n i u v else errE 1
theorem ok_parts {n : Nat} {L : List IN} (h : okC n L = true) : n ≤ 80 ∧ 0 < n ∧ ∃ ds, resC n L = some ds := by
  unfold okC at h
  rw [Bool.and_eq_true] at h
  obtain ⟨ds, hds⟩ : ∃ ds, resC n L = some ds := by
    cases hr : resC n L with
    | none => rw [hr] at h; exact absurd h.2 (by simp)
    | some ds => exact ⟨ds, rfl⟩
  refine ⟨of_decide_eq_true h.1, ?_, ds, hds⟩
  rcases Nat.eq_zero_or_pos n with rfl | hp
  · have := (wf_of hds)
    have h1 := this.z
    have h2 := this.e
    omega
  · exact hp
theorem row_parts {i : Int} {u v : VV} (h : rowB i u v = true) : inB i 0 1000 = true ∧ okV u = true ∧ okV v = true := by
  unfold rowB at h
  simp only [Bool.and_eq_true] at h
  exact ⟨h.1.1.1.1, h.1.1.1.2, h.1.1.2⟩
set_option maxRecDepth 100000 in
set_option maxHeartbeats 4000000 in
theorem c_implRC (L : List IN) (a : Option Addr) (n c : Nat) (i : Int) (u v : VV) (w : World) (hr : RdI w a n L) (hm : n ≤ maxLen) (hs : ∀ x ∈ L, x.t.size ≤ maxLen) (h1 : u.2.2.size ≤ maxLen) (h2 : v.2.2.size ≤ maxLen) (ht : TakH w) : Calls Tryd.prog 10 #[.slice a n c, .agg #[.int .i64 i, .int .i64 u.1, .int .i64 u.2.1, .string u.2.2, .int .i64 v.1, .int .i64 v.2.1, .string v.2.2]] w fun e w' => e = .returned (.tuple #[.agg #[.int .i64 (rcE L n i u v).k, .int .i64 (rcE L n i u v).n, .string (rcE L n i u v).t], .int .i64 (rcE L n i u v).c]) ∧ Below w.heap.size w w' := by
  obtain ⟨q, hq⟩ : ∃ q, rcE L n i u v = q := ⟨_, rfl⟩
  rw [hq]
  have HQ : Hid (q = rcE L n i u v) := hq.symm
  have HRD : Hid (RdI w a n L) := hr
  have HS : Hid (∀ x ∈ L, x.t.size ≤ maxLen) := hs
  obtain ⟨V, hV⟩ : ∃ V, (w.alloc (.cells #[.int .i64 i, .int .i64 u.1, .int .i64 u.2.1, .string u.2.2, .int .i64 v.1, .int .i64 v.2.1, .string v.2.2] 35)).alloc (.cells #[.int .i64 0, .int .i64 0, .string ⟨#[]⟩] 29) = V := ⟨_, rfl⟩
  have bV : Below w.heap.size w V := by rw [← hV]; exact ((Below.refl _ _).alloc (Nat.le_refl _) _).alloc (by simp) _
  have RB : Hid (Box V w.heap.size 35 #[.int .i64 i, .int .i64 u.1, .int .i64 u.2.1, .string u.2.2, .int .i64 v.1, .int .i64 v.2.1, .string v.2.2]) := by unfold Hid; rw [← hV]; exact (Box.new _ _ _).alloc _
  have ZV : Hid (Box V (w.heap.size + 1) 29 #[.int .i64 0, .int .i64 0, .string ⟨#[]⟩]) := by unfold Hid; rw [← hV]; exact Box.new2 _ _ _ _
  have BV : Hid (Below w.heap.size w V) := bV
  have C1 := c_implCO L a n c V (hr.below bV) hm hs (ht.below bV)
  obtain ⟨K, hK⟩ : ∃ K, okC n L = K := ⟨_, rfl⟩
  rw [hK] at C1
  have HK : Hid (okC n L = K) := hK
  have hm' := hm
  unfold maxLen at hm'
  clear hr hs hq bV hK ht
  by_cases h4 : 4096 < n
  · clear C1
    have E : Hid (q = errE 2) := by unfold Hid; rw [HQ.out, rcE, if_pos h4]
    obtain ⟨z0, z1, z2⟩ := box3 ZV.out
    have t0 := ZV.out.thaw 0
    have t1 := ZV.out.thaw 1
    have t2 := ZV.out.thaw 2
    go_enter Tryd.func10, Tryd.ntmps10
    go_wp2
    refine ret32 Tryd.results10 rfl rfl rfl (put3_box ZV.out _ _ _) ⟨by rw [E.out]; rfl, put3_below BV.out (by omega) _ _ _⟩
  go_enter Tryd.func10, Tryd.ntmps10
  go_wp2_with fail
  refine C1.mono ?_
  rintro e w1 ⟨rfl, hb1⟩
  have B1 : Hid (Below w.heap.size w w1) := BV.out.trans (hb1.mono BV.out.size)
  have R1 : Hid (Box w1 w.heap.size 35 #[.int .i64 i, .int .i64 u.1, .int .i64 u.2.1, .string u.2.2, .int .i64 v.1, .int .i64 v.2.1, .string v.2.2]) := RB.out.belowS hb1
  have Z1 : Hid (Box w1 (w.heap.size + 1) 29 #[.int .i64 0, .int .i64 0, .string ⟨#[]⟩]) := ZV.out.belowS hb1
  clear hb1 C1 BV RB ZV hV
  cases K
  · have E0 : Hid (q = errE 1) := by unfold Hid; rw [HQ.out, rcE, if_neg h4, HK.out]; rfl
    have E : Hid (q = errE 1) := E0
    obtain ⟨z0, z1, z2⟩ := box3 Z1.out
    have t0 := Z1.out.thaw 0
    have t1 := Z1.out.thaw 1
    have t2 := Z1.out.thaw 2
    go_wp2
    refine ret32 Tryd.results10 rfl rfl rfl (put3_box Z1.out _ _ _) ⟨by rw [E.out]; rfl, put3_below B1.out (by omega) _ _ _⟩
  obtain ⟨r0, r1, r2, r3, r4, r5, r6⟩ := box7 R1.out
  have C2 := c_isRow i u v w1 h1 h2
  obtain ⟨J, hJ⟩ : ∃ J, rowB i u v = J := ⟨_, rfl⟩
  rw [hJ] at C2
  have HJ : Hid (rowB i u v = J) := hJ
  clear hJ
  go_wp2_with fail
  refine C2.mono ?_
  rintro e w2 ⟨rfl, hb2⟩
  have B2 : Hid (Below w.heap.size w w2) := B1.out.trans (hb2.mono B1.out.size)
  have R2 : Hid (Box w2 w.heap.size 35 #[.int .i64 i, .int .i64 u.1, .int .i64 u.2.1, .string u.2.2, .int .i64 v.1, .int .i64 v.2.1, .string v.2.2]) := R1.out.belowS hb2
  have Z2 : Hid (Box w2 (w.heap.size + 1) 29 #[.int .i64 0, .int .i64 0, .string ⟨#[]⟩]) := Z1.out.belowS hb2
  clear hb2 C2 B1 R1 Z1 r0 r1 r2 r3 r4 r5 r6
  cases J
  · have E0 : Hid (q = errE 1) := by unfold Hid; rw [HQ.out, rcE, if_neg h4, HK.out, HJ.out]; rfl
    have E : Hid (q = errE 1) := E0
    obtain ⟨z0, z1, z2⟩ := box3 Z2.out
    have t0 := Z2.out.thaw 0
    have t1 := Z2.out.thaw 1
    have t2 := Z2.out.thaw 2
    go_wp2
    refine ret32 Tryd.results10 rfl rfl rfl (put3_box Z2.out _ _ _) ⟨by rw [E.out]; rfl, put3_below B2.out (by omega) _ _ _⟩
  obtain ⟨h80, hpos, ds, hds⟩ := ok_parts HK.out
  obtain ⟨ri, ru, rv⟩ := row_parts HJ.out
  have EQ : Hid (q = ranC L n i u v) := by unfold Hid; rw [HQ.out, rcE, if_neg h4, HK.out, HJ.out]; rfl
  have b3 : Below w2.heap.size w2 (w2.alloc (.cells #[.int .i64 i, .int .i64 u.1, .int .i64 u.2.1, .string u.2.2, .int .i64 v.1, .int .i64 v.2.1, .string v.2.2, .slice none 0 0, .int .i64 0] 64)) := (Below.refl _ _).alloc (Nat.le_refl _) _
  have X3 : Box (w2.alloc (.cells #[.int .i64 i, .int .i64 u.1, .int .i64 u.2.1, .string u.2.2, .int .i64 v.1, .int .i64 v.2.1, .string v.2.2, .slice none 0 0, .int .i64 0] 64)) w2.heap.size 64 #[.int .i64 i, .int .i64 u.1, .int .i64 u.2.1, .string u.2.2, .int .i64 v.1, .int .i64 v.2.1, .string v.2.2, .slice none 0 0, .int .i64 0] := Box.new _ _ _
  have B3 : Hid (Below w.heap.size w (w2.alloc (.cells #[.int .i64 i, .int .i64 u.1, .int .i64 u.2.1, .string u.2.2, .int .i64 v.1, .int .i64 v.2.1, .string v.2.2, .slice none 0 0, .int .i64 0] 64))) := B2.out.trans (b3.mono B2.out.size)
  have Z3' : Hid (Box (w2.alloc (.cells #[.int .i64 i, .int .i64 u.1, .int .i64 u.2.1, .string u.2.2, .int .i64 v.1, .int .i64 v.2.1, .string v.2.2, .slice none 0 0, .int .i64 0] 64)) (w.heap.size + 1) 29 #[.int .i64 0, .int .i64 0, .string ⟨#[]⟩]) := Z2.out.belowS b3
  have lz : w.heap.size + 1 < w2.heap.size := Z2.out.lt
  have C3 := c_all L a n c i u v w2.heap.size (w2.alloc (.cells #[.int .i64 i, .int .i64 u.1, .int .i64 u.2.1, .string u.2.2, .int .i64 v.1, .int .i64 v.2.1, .string v.2.2, .slice none 0 0, .int .i64 0] 64)) (HRD.out.below B3.out) h80 ds (wf_of hds) (res_60 hds) ri ru rv X3 (fun b off e => by obtain ⟨b', off', e', hl, _⟩ := HRD.out.2 hpos; rw [e] at e'; cases e'; omega)
  rw [← EQ.out] at C3
  obtain ⟨r0, r1, r2, r3, r4, r5, r6⟩ := box7 R2.out
  clear b3 X3 hds ri ru rv hpos h80
  go_wp2_with fail
  refine C3.mono ?_
  rintro e w4 ⟨rfl, hb4⟩
  have B4 : Hid (Below w.heap.size w w4) := B3.out.trans (hb4.mono (by omega))
  have Z4 : Hid (Box w4 (w.heap.size + 1) 29 #[.int .i64 0, .int .i64 0, .string ⟨#[]⟩]) := Z3'.out.below hb4 lz
  clear hb4 C3
  obtain ⟨z0, z1, z2⟩ := box3 Z4.out
  have t0 := Z4.out.thaw 0
  have t1 := Z4.out.thaw 1
  have t2 := Z4.out.thaw 2
  go_wp2
  refine ret32 Tryd.results10 rfl rfl rfl (put3_box Z4.out _ _ _) ⟨rfl, put3_below B4.out (by omega) _ _ _⟩
set_option maxRecDepth 100000 in
set_option maxHeartbeats 4000000 in
theorem c_specRC (L : List IN) (a : Option Addr) (n c : Nat) (i : Int) (u v : VV) (w : World) (hr : RdI w a n L) (hm : n ≤ maxLen) (hs : ∀ x ∈ L, x.t.size ≤ maxLen) (h1 : u.2.2.size ≤ maxLen) (h2 : v.2.2.size ≤ maxLen) : Calls Tryd.prog 7 #[.slice a n c, .agg #[.int .i64 i, .int .i64 u.1, .int .i64 u.2.1, .string u.2.2, .int .i64 v.1, .int .i64 v.2.1, .string v.2.2]] w fun e w' => e = .returned (.tuple #[.agg #[.int .i64 (rcE L n i u v).k, .int .i64 (rcE L n i u v).n, .string (rcE L n i u v).t], .int .i64 (rcE L n i u v).c]) ∧ Below w.heap.size w w' := by
  obtain ⟨q, hq⟩ : ∃ q, rcE L n i u v = q := ⟨_, rfl⟩
  rw [hq]
  have HQ : Hid (q = rcE L n i u v) := hq.symm
  have HRD : Hid (RdI w a n L) := hr
  have HS : Hid (∀ x ∈ L, x.t.size ≤ maxLen) := hs
  obtain ⟨V, hV⟩ : ∃ V, (w.alloc (.cells #[.int .i64 i, .int .i64 u.1, .int .i64 u.2.1, .string u.2.2, .int .i64 v.1, .int .i64 v.2.1, .string v.2.2] 35)).alloc (.cells #[.int .i64 0, .int .i64 0, .string ⟨#[]⟩] 29) = V := ⟨_, rfl⟩
  have bV : Below w.heap.size w V := by rw [← hV]; exact ((Below.refl _ _).alloc (Nat.le_refl _) _).alloc (by simp) _
  have RB : Hid (Box V w.heap.size 35 #[.int .i64 i, .int .i64 u.1, .int .i64 u.2.1, .string u.2.2, .int .i64 v.1, .int .i64 v.2.1, .string v.2.2]) := by unfold Hid; rw [← hV]; exact (Box.new _ _ _).alloc _
  have ZV : Hid (Box V (w.heap.size + 1) 29 #[.int .i64 0, .int .i64 0, .string ⟨#[]⟩]) := by unfold Hid; rw [← hV]; exact Box.new2 _ _ _ _
  have BV : Hid (Below w.heap.size w V) := bV
  have C1 := c_specCO L a n c V (hr.below bV) hm hs
  obtain ⟨K, hK⟩ : ∃ K, okC n L = K := ⟨_, rfl⟩
  rw [hK] at C1
  have HK : Hid (okC n L = K) := hK
  have hm' := hm
  unfold maxLen at hm'
  clear hr hs hq bV hK
  by_cases h4 : 4096 < n
  · clear C1
    have E : Hid (q = errE 2) := by unfold Hid; rw [HQ.out, rcE, if_pos h4]
    obtain ⟨z0, z1, z2⟩ := box3 ZV.out
    have t0 := ZV.out.thaw 0
    have t1 := ZV.out.thaw 1
    have t2 := ZV.out.thaw 2
    go_enter Tryd.func7, Tryd.ntmps7
    go_wp2
    refine ret32 Tryd.results7 rfl rfl rfl (put3_box ZV.out _ _ _) ⟨by rw [E.out]; rfl, put3_below BV.out (by omega) _ _ _⟩
  go_enter Tryd.func7, Tryd.ntmps7
  go_wp2_with fail
  refine C1.mono ?_
  rintro e w1 ⟨rfl, hb1⟩
  have B1 : Hid (Below w.heap.size w w1) := BV.out.trans (hb1.mono BV.out.size)
  have R1 : Hid (Box w1 w.heap.size 35 #[.int .i64 i, .int .i64 u.1, .int .i64 u.2.1, .string u.2.2, .int .i64 v.1, .int .i64 v.2.1, .string v.2.2]) := RB.out.belowS hb1
  have Z1 : Hid (Box w1 (w.heap.size + 1) 29 #[.int .i64 0, .int .i64 0, .string ⟨#[]⟩]) := ZV.out.belowS hb1
  clear hb1 C1 BV RB ZV hV
  cases K
  · have E0 : Hid (q = errE 1) := by unfold Hid; rw [HQ.out, rcE, if_neg h4, HK.out]; rfl
    have E : Hid (q = errE 1) := E0
    obtain ⟨z0, z1, z2⟩ := box3 Z1.out
    have t0 := Z1.out.thaw 0
    have t1 := Z1.out.thaw 1
    have t2 := Z1.out.thaw 2
    go_wp2
    refine ret32 Tryd.results7 rfl rfl rfl (put3_box Z1.out _ _ _) ⟨by rw [E.out]; rfl, put3_below B1.out (by omega) _ _ _⟩
  obtain ⟨r0, r1, r2, r3, r4, r5, r6⟩ := box7 R1.out
  have C2 := c_lRow i u v w1 h1 h2
  obtain ⟨J, hJ⟩ : ∃ J, rowB i u v = J := ⟨_, rfl⟩
  rw [hJ] at C2
  have HJ : Hid (rowB i u v = J) := hJ
  clear hJ
  go_wp2_with fail
  refine C2.mono ?_
  rintro e w2 ⟨rfl, hb2⟩
  have B2 : Hid (Below w.heap.size w w2) := B1.out.trans (hb2.mono B1.out.size)
  have R2 : Hid (Box w2 w.heap.size 35 #[.int .i64 i, .int .i64 u.1, .int .i64 u.2.1, .string u.2.2, .int .i64 v.1, .int .i64 v.2.1, .string v.2.2]) := R1.out.belowS hb2
  have Z2 : Hid (Box w2 (w.heap.size + 1) 29 #[.int .i64 0, .int .i64 0, .string ⟨#[]⟩]) := Z1.out.belowS hb2
  clear hb2 C2 B1 R1 Z1 r0 r1 r2 r3 r4 r5 r6
  cases J
  · have E0 : Hid (q = errE 1) := by unfold Hid; rw [HQ.out, rcE, if_neg h4, HK.out, HJ.out]; rfl
    have E : Hid (q = errE 1) := E0
    obtain ⟨z0, z1, z2⟩ := box3 Z2.out
    have t0 := Z2.out.thaw 0
    have t1 := Z2.out.thaw 1
    have t2 := Z2.out.thaw 2
    go_wp2
    refine ret32 Tryd.results7 rfl rfl rfl (put3_box Z2.out _ _ _) ⟨by rw [E.out]; rfl, put3_below B2.out (by omega) _ _ _⟩
  obtain ⟨h80, hpos, ds, hds⟩ := ok_parts HK.out
  obtain ⟨ri, ru, rv⟩ := row_parts HJ.out
  have EQ : Hid (q = ranC L n i u v) := by unfold Hid; rw [HQ.out, rcE, if_neg h4, HK.out, HJ.out]; rfl
  have C3 := c_l11Run L a n c i u v w2 (HRD.out.below B2.out) h80 ds (wf_of hds) (res_60 hds) ri ru rv
  rw [← EQ.out] at C3
  obtain ⟨r0, r1, r2, r3, r4, r5, r6⟩ := box7 R2.out
  clear hds ri ru rv hpos h80
  go_wp2_with fail
  refine C3.mono ?_
  rintro e w4 ⟨rfl, hb4⟩
  have B4 : Hid (Below w.heap.size w w4) := B2.out.trans (hb4.mono B2.out.size)
  have Z4 : Hid (Box w4 (w.heap.size + 1) 29 #[.int .i64 0, .int .i64 0, .string ⟨#[]⟩]) := Z2.out.belowS hb4
  clear hb4 C3
  obtain ⟨z0, z1, z2⟩ := box3 Z4.out
  have t0 := Z4.out.thaw 0
  have t1 := Z4.out.thaw 1
  have t2 := Z4.out.thaw 2
  go_wp2
  refine ret32 Tryd.results7 rfl rfl rfl (put3_box Z4.out _ _ _) ⟨rfl, put3_below B4.out (by omega) _ _ _⟩

end Go.Proofs.YtcgcaomaofppiaaDoor
