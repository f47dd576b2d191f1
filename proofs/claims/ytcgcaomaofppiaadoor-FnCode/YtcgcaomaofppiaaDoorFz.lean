/-
  How what came in is read.
-/
import Derived.Test.YtcgcaomaofppiaaDoorDe
import Derived.Deep.RegionHeld3
import Derived.Test.YtcgcaomaofppiaaDoorDr
import Derived.Test.YtcgcaomaofppiaaDoorXr
import Derived.Laws.OwnMore
import Derived.Test.YtcgcaomaofppiaaDoorKz
import Derived.Test.YtcgcaomaofppiaaDoorXb
import Derived.Laws.AppendOwn
import Derived.Laws.AppendOwnNone
import Derived.Maps.AppendAt
import Derived.Test.YtcgcaomaofppiaaDoorEb
import Derived.Test.YtcgcaomaofppiaaDoorEc
import Derived.Test.YtcgcaomaofppiaaDoorCi
import Derived.Test.YtcgcaomaofppiaaDoorBx
import Derived.ProofKit
import Derived.OpenShut
import Derived.SliceStrings
import Derived.ChangeSlices
import Derived.Lib.SmallJoins
import Derived.Deep.Slices
import Derived.Deep.Strs
namespace Go.Proofs.YtcgcaomaofppiaaDoor
open Go Go.RowKit
attribute [local go_sem ↓] Go.wp_at_zero Go.wp_at_succ

set_option linter.unusedVariables false
set_option linter.unusedSimpArgs false
theorem goS_le {n : Nat} {L : List IN} : ∀ (f k : Nat) (ds d : List Int), (∀ j, ds.getD j 0 ≤ 60) → goS n L f k ds = some d → ∀ j, d.getD j 0 ≤ 60
  | 0, k, ds, d, h0, h => by
    unfold goS finD at h
    split at h
    · simp only [Option.some.injEq] at h; rw [← h]; exact h0
    · cases h
  | f + 1, k, ds, d, h0, h => by
    unfold goS at h
    cases hs : stS n k (L.getD k zeroI) ds with
    | none => rw [hs] at h; cases h
    | some e =>
      rw [hs] at h
      refine goS_le f (k + 1) e d ?_ h
      unfold stS at hs
      split at hs
      case isFalse => cases hs
      split at hs
      case isFalse => cases hs
      split at hs
      case isFalse => cases hs
      case isTrue hN =>
      simp only [Option.some.injEq] at hs
      unfold okN at hN
      rw [Bool.and_eq_true] at hN
      rw [← hs]
      refine set_le ?_ (of_decide_eq_true hN.1)
      unfold setJ
      split
      · exact set_le h0 (h0 k)
      · exact h0
theorem res_60 {n : Nat} {L : List IN} {ds : List Int} (h : resC n L = some ds) : ∀ j, ds.getD j 0 ≤ 60 := by
  refine goS_le n 0 _ _ (fun j => ?_) h
  cases j with
  | zero => simp [ds0]
  | succ j =>
    simp only [ds0, List.getD_cons_succ]
    rw [List.getD_eq_getElem?_getD, List.getElem?_replicate]
    split <;> simp
def rcE (L : List IN) (n : Nat) (i : Int) (u v : VV) : EV := if 4096 < n then errE 2 else if okC n L && rowB i u v then ranC L n i u v else errE 1
theorem ok_parts {n : Nat} {L : List IN} (h : okC n L = true) : n ≤ 80 ∧ 0 < n ∧ ∃ ds, resC n L = some ds := by
  unfold okC at h
  rw [Bool.and_eq_true] at h
  obtain ⟨ds, hds⟩ : ∃ ds, resC n L = some ds := by
    cases hr : resC n L with
    | none => rw [hr] at h; exact absurd h.2 (by simp)
    | some ds => exact ⟨ds, rfl⟩
  refine ⟨of_decide_eq_true h.1, ?_, ds, hds⟩
  rcases Nat.eq_zero_or_pos n with rfl | hp
  · have := (wf_of hds)
    have h1 := this.z
    have h2 := this.e
    omega
  · exact hp
theorem row_parts {i : Int} {u v : VV} (h : rowB i u v = true) : inB i 0 1000 = true ∧ okV u = true ∧ okV v = true := by
  unfold rowB at h
  simp only [Bool.and_eq_true] at h
  exact ⟨h.1.1.1.1, h.1.1.1.2, h.1.1.2⟩
set_option maxRecDepth 100000 in
set_option maxHeartbeats 4000000 in
theorem c_implRC (L : List IN) (a : Option Addr) (n c : Nat) (i : Int) (u v : VV) (w : World) (hr : RdI w a n L) (hm : n ≤ maxLen) (hs : ∀ x ∈ L, x.t.size ≤ maxLen) (h1 : u.2.2.size ≤ maxLen) (h2 : v.2.2.size ≤ maxLen) (ht : TakH w) : Calls Tryd.prog 10 #[.slice a n c, .agg #[.int .i64 i, .int .i64 u.1, .int .i64 u.2.1, .string u.2.2, .int .i64 v.1, .int .i64 v.2.1, .string v.2.2]] w fun e w' => e = .returned (.tuple #[.agg #[.int .i64 (rcE L n i u v).k, .int .i64 (rcE L n i u v).n, .string (rcE L n i u v).t], .int .i64 (rcE L n i u v).c]) ∧ Below w.heap.size w w' := by
  obtain ⟨q, hq⟩ : ∃ q, rcE L n i u v = q := ⟨_, rfl⟩
  rw [hq]
  have HQ : Hid (q = rcE L n i u v) := hq.symm
  have HRD : Hid (RdI w a n L) := hr
  have HS : Hid (∀ x ∈ L, x.t.size ≤ maxLen) := hs
  obtain ⟨V, hV⟩ : ∃ V, (w.alloc (.cells #[.int .i64 i, .int .i64 u.1, .int .i64 u.2.1, .string u.2.2, .int .i64 v.1, .int .i64 v.2.1, .string v.2.2] 35)).alloc (.cells #[.int .i64 0, .int .i64 0, .string ⟨#[]⟩] 29) = V := ⟨_, rfl⟩
  have bV : Below w.heap.size w V := by rw [← hV]; exact ((Below.refl _ _).alloc (Nat.le_refl _) _).alloc (by simp) _
  have RB : Hid (Box V w.heap.size 35 #[.int .i64 i, .int .i64 u.1, .int .i64 u.2.1, .string u.2.2, .int .i64 v.1, .int .i64 v.2.1, .string v.2.2]) := by unfold Hid; rw [← hV]; exact (Box.new _ _ _).alloc _
  have ZV : Hid (Box V (w.heap.size + 1) 29 #[.int .i64 0, .int .i64 0, .string ⟨#[]⟩]) := by unfold Hid; rw [← hV]; exact Box.new2 _ _ _ _
  have BV : Hid (Below w.heap.size w V) := bV
  have C1 := c_implCO L a n c V (hr.below bV) hm hs (ht.below bV)
  obtain ⟨K, hK⟩ : ∃ K, okC n L = K := ⟨_, rfl⟩
  rw [hK] at C1
  have HK : Hid (okC n L = K) := hK
  have hm' := hm
  unfold maxLen at hm'
  clear hr hs hq bV hK ht
  by_cases h4 : 4096 < n
  · clear C1
    have E : Hid (q = errE 2) := by unfold Hid; rw [HQ.out, rcE, if_pos h4]
    obtain ⟨z0, z1, z2⟩ := box3 ZV.out
    have t0 := ZV.out.thaw 0
    have t1 := ZV.out.thaw 1
    have t2 := ZV.out.thaw 2
    go_enter Tryd.func10, Tryd.ntmps10
    go_wp2
    refine ret32 Tryd.results10 rfl rfl rfl (put3_box ZV.out _ _ _) ⟨by rw [E.out]; rfl, put3_below BV.out (by omega) _ _ _⟩
  go_enter Tryd.func10, Tryd.ntmps10
  go_wp2_with fail
  refine C1.mono ?_
  rintro e w1 ⟨rfl, hb1⟩
  have B1 : Hid (Below w.heap.size w w1) := BV.out.trans (hb1.mono BV.out.size)
  have R1 : Hid (Box w1 w.heap.size 35 #[.int .i64 i, .int .i64 u.1, .int .i64 u.2.1, .string u.2.2, .int .i64 v.1, .int .i64 v.2.1, .string v.2.2]) := RB.out.belowS hb1
  have Z1 : Hid (Box w1 (w.heap.size + 1) 29 #[.int .i64 0, .int .i64 0, .string ⟨#[]⟩]) := ZV.out.belowS hb1
  clear hb1 C1 BV RB ZV hV
  cases K
  · have E0 : Hid (q = errE 1) := by unfold Hid; rw [HQ.out, rcE, if_neg h4, HK.out]; rfl
    have E : Hid (q = errE 1) := E0
    obtain ⟨z0, z1, z2⟩ := box3 Z1.out
    have t0 := Z1.out.thaw 0
    have t1 := Z1.out.thaw 1
    have t2 := Z1.out.thaw 2
    go_wp2
    refine ret32 Tryd.results10 rfl rfl rfl (put3_box Z1.out _ _ _) ⟨by rw [E.out]; rfl, put3_below B1.out (by omega) _ _ _⟩
  obtain ⟨r0, r1, r2, r3, r4, r5, r6⟩ := box7 R1.out
  have C2 := c_isRow i u v w1 h1 h2
  obtain ⟨J, hJ⟩ : ∃ J, rowB i u v = J := ⟨_, rfl⟩
  rw [hJ] at C2
  have HJ : Hid (rowB i u v = J) := hJ
  clear hJ
  go_wp2_with fail
  refine C2.mono ?_
  rintro e w2 ⟨rfl, hb2⟩
  have B2 : Hid (Below w.heap.size w w2) := B1.out.trans (hb2.mono B1.out.size)
  have R2 : Hid (Box w2 w.heap.size 35 #[.int .i64 i, .int .i64 u.1, .int .i64 u.2.1, .string u.2.2, .int .i64 v.1, .int .i64 v.2.1, .string v.2.2]) := R1.out.belowS hb2
  have Z2 : Hid (Box w2 (w.heap.size + 1) 29 #[.int .i64 0, .int .i64 0, .string ⟨#[]⟩]) := Z1.out.belowS hb2
  clear hb2 C2 B1 R1 Z1 r0 r1 r2 r3 r4 r5 r6
  cases J
  · have E0 : Hid (q = errE 1) := by unfold Hid; rw [HQ.out, rcE, if_neg h4, HK.out, HJ.out]; rfl
    have E : Hid (q = errE 1) := E0
    obtain ⟨z0, z1, z2⟩ := box3 Z2.out
    have t0 := Z2.out.thaw 0
    have t1 := Z2.out.thaw 1
    have t2 := Z2.out.thaw 2
    go_wp2
    refine ret32 Tryd.results10 rfl rfl rfl (put3_box Z2.out _ _ _) ⟨by rw [E.out]; rfl, put3_below B2.out (by omega) _ _ _⟩
  obtain ⟨h80, hpos, ds, hds⟩ := ok_parts HK.out
  obtain ⟨ri, ru, rv⟩ := row_parts HJ.out
  have EQ : Hid (q = ranC L n i u v) := by unfold Hid; rw [HQ.out, rcE, if_neg h4, HK.out, HJ.out]; rfl
  have b3 : Below w2.heap.size w2 (w2.alloc (.cells #[.int .i64 i, .int .i64 u.1, .int .i64 u.2.1, .string u.2.2, .int .i64 v.1, .int .i64 v.2.1, .string v.2.2, .slice none 0 0, .int .i64 0] 64)) := (Below.refl _ _).alloc (Nat.le_refl _) _
  have X3 : Box (w2.alloc (.cells #[.int .i64 i, .int .i64 u.1, .int .i64 u.2.1, .string u.2.2, .int .i64 v.1, .int .i64 v.2.1, .string v.2.2, .slice none 0 0, .int .i64 0] 64)) w2.heap.size 64 #[.int .i64 i, .int .i64 u.1, .int .i64 u.2.1, .string u.2.2, .int .i64 v.1, .int .i64 v.2.1, .string v.2.2, .slice none 0 0, .int .i64 0] := Box.new _ _ _
  have B3 : Hid (Below w.heap.size w (w2.alloc (.cells #[.int .i64 i, .int .i64 u.1, .int .i64 u.2.1, .string u.2.2, .int .i64 v.1, .int .i64 v.2.1, .string v.2.2, .slice none 0 0, .int .i64 0] 64))) := B2.out.trans (b3.mono B2.out.size)
  have Z3' : Hid (Box (w2.alloc (.cells #[.int .i64 i, .int .i64 u.1, .int .i64 u.2.1, .string u.2.2, .int .i64 v.1, .int .i64 v.2.1, .string v.2.2, .slice none 0 0, .int .i64 0] 64)) (w.heap.size + 1) 29 #[.int .i64 0, .int .i64 0, .string ⟨#[]⟩]) := Z2.out.belowS b3
  have lz : w.heap.size + 1 < w2.heap.size := Z2.out.lt
  have C3 := c_all L a n c i u v w2.heap.size (w2.alloc (.cells #[.int .i64 i, .int .i64 u.1, .int .i64 u.2.1, .string u.2.2, .int .i64 v.1, .int .i64 v.2.1, .string v.2.2, .slice none 0 0, .int .i64 0] 64)) (HRD.out.below B3.out) h80 ds (wf_of hds) (res_60 hds) ri ru rv X3 (fun b off e => by obtain ⟨b', off', e', hl, _⟩ := HRD.out.2 hpos; rw [e] at e'; cases e'; omega)
  rw [← EQ.out] at C3
  obtain ⟨r0, r1, r2, r3, r4, r5, r6⟩ := box7 R2.out
  clear b3 X3 hds ri ru rv hpos h80
  go_wp2_with fail
  refine C3.mono ?_
  rintro e w4 ⟨rfl, hb4⟩
  have B4 : Hid (Below w.heap.size w w4) := B3.out.trans (hb4.mono (by omega))
  have Z4 : Hid (Box w4 (w.heap.size + 1) 29 #[.int .i64 0, .int .i64 0, .string ⟨#[]⟩]) := Z3'.out.below hb4 lz
  clear hb4 C3
  obtain ⟨z0, z1, z2⟩ := box3 Z4.out
  have t0 := Z4.out.thaw 0
  have t1 := Z4.out.thaw 1
  have t2 := Z4.out.thaw 2
  go_wp2
  refine ret32 Tryd.results10 rfl rfl rfl (put3_box Z4.out _ _ _) ⟨rfl, put3_below B4.out (by omega) _ _ _⟩
end Go.Proofs.YtcgcaomaofppiaaDoor
namespace Go.Proofs.YtcgcaomaofppiaaDoor
open Go Go.RowKit
attribute [local go_sem ↓] Go.wp_at_zero Go.wp_at_succ

/-- A source at g over the code that lies in w0. -/
structure Drw (w0 w : World) (g : Nat) (a : Option Addr) (n c T : Nat) (zs : List Int) : Prop where
  code : RdV w0 a n (zs.map (Value.int .u8))
  bytes : ∀ z ∈ zs, 0 ≤ z ∧ z < 256
  len : n ≤ maxLen
  behind : w0.heap.size ≤ g
  kept : Below w0.heap.size w0 w
  src : Src w g a n c T
theorem Drw.inn {w0 w w' : World} {g n c T B E : Nat} {a : Option Addr} {zs : List Int} (h : Drw w0 w g a n c T zs) (hb : Inn B E w w') (hg : g < B ∨ E ≤ g) (h0 : w0.heap.size ≤ B) : Drw w0 w' g a n c T zs :=
  ⟨h.code, h.bytes, h.len, h.behind, h.kept.trans (hb.below h0 h.kept.size), h.src.inn hb hg⟩
theorem Drw.below {w0 w w' : World} {g n c T : Nat} {a : Option Addr} {zs : List Int} (h : Drw w0 w g a n c T zs) (hb : Below w.heap.size w w') : Drw w0 w' g a n c T zs :=
  ⟨h.code, h.bytes, h.len, h.behind, h.kept.trans (hb.mono h.kept.size), h.src.below hb⟩
theorem Drw.mono {w0 w : World} {g n c T T' : Nat} {a : Option Addr} {zs : List Int} (h : Drw w0 w g a n c T zs) (ht : T ≤ T') : Drw w0 w g a n c T' zs :=
  ⟨h.code, h.bytes, h.len, h.behind, h.kept, h.src.mono ht⟩
theorem c_byteD (w0 w : World) (g : Nat) (a : Option Addr) (n c T : Nat) (zs : List Int) (h : Drw w0 w g a n c T zs) (hT : T ≤ 1000000) :
    Calls Tryd.prog 78 #[.pointer (some ⟨g, 0, none⟩)] w fun e w' => (∃ r : Int, e = .returned (.int .i64 r) ∧ 0 ≤ r ∧ r < 256) ∧ Drw w0 w' g a n c (T + 1) zs ∧ Inn g (g + 1) w w' := by
  refine (c_byte g a n c T zs w h.src (h.code.below h.kept) h.bytes h.len hT ?_).mono ?_
  · intro b off hn e
    obtain ⟨b', off', e', hlt, _⟩ := h.code.2 hn
    rw [e] at e'
    cases e'
    have := h.behind
    omega
  · rintro e w' ⟨hr, hs, hi⟩
    exact ⟨hr, ⟨h.code, h.bytes, h.len, h.behind, h.kept.trans (hi.below h.behind h.kept.size), hs⟩, hi⟩

set_option maxRecDepth 100000 in
set_option maxHeartbeats 1000000 in
theorem c_next (w0 w : World) (g : Nat) (a : Option Addr) (n c T : Nat) (zs : List Int) (m : Int) (h : Drw w0 w g a n c T zs) (hT : T ≤ 1000000) (hm : 1 ≤ m ∧ m ≤ 256) :
    Calls Tryd.prog 57 #[.pointer (some ⟨g, 0, none⟩), .int .i64 m] w fun e w' => (∃ r : Int, e = .returned (.int .i64 r) ∧ 0 ≤ r ∧ r < m) ∧ Drw w0 w' g a n c (T + 1) zs ∧ Inn g (g + 1) w w' := by
  have HD : Hid (Drw w0 w g a n c T zs) := h
  clear h
  by_cases h1 : m ≤ 1
  · go_enter Tryd.func57, Tryd.ntmps57
    go_wp2
    go_ret
    exact ⟨⟨0, rfl, by omega, by omega⟩, HD.out.mono (Nat.le_succ _), Inn.refl _ _ _⟩
  · have h2 : m ≤ 256 := hm.2
    go_enter Tryd.func57, Tryd.ntmps57
    go_wp2_with fail
    refine (c_byteD w0 w g a n c T zs HD.out hT).mono ?_
    rintro e w' ⟨⟨r, rfl, r0, r1⟩, hd, hi⟩
    have hmz : (m == 0) = false := by simp; omega
    have hmz2 : ¬ m = 0 := by omega
    have hq : r.tmod m = r % m := Int.tmod_eq_emod_of_nonneg r0
    have hq2 : 0 ≤ r % m ∧ r % m < m := ⟨Int.emod_nonneg _ (by omega), Int.emod_lt_of_pos _ (by omega)⟩
    have HD2 : Hid (Drw w0 w' g a n c (T + 1) zs) := hd
    have HI : Hid (Inn g (g + 1) w w') := hi
    have hw : IntKind.i64.wrap (r % m) = r % m := by simp [IntKind.wrap_i64]; omega
    clear hd hi
    go_wp2
    go_ret
    exact ⟨⟨_, rfl, by first | exact hq2.1 | (rw [hq]; exact hq2.1), by first | exact hq2.2 | (rw [hq]; exact hq2.2)⟩, HD2.out, HI.out⟩

set_option maxRecDepth 100000 in
set_option maxHeartbeats 1000000 in
theorem c_chance (w0 w : World) (g : Nat) (a : Option Addr) (n c T : Nat) (zs : List Int) (m : Int) (h : Drw w0 w g a n c T zs) (hT : T ≤ 1000000) (hm : 1 ≤ m ∧ m ≤ 256) :
    Calls Tryd.prog 77 #[.pointer (some ⟨g, 0, none⟩), .int .i64 m] w fun e w' => (∃ r : Bool, e = .returned (.bool r)) ∧ Drw w0 w' g a n c (T + 1) zs ∧ Inn g (g + 1) w w' := by
  go_enter Tryd.func77, Tryd.ntmps77
  go_wp2_with fail
  refine (c_next w0 w g a n c T zs m h hT hm).mono ?_
  rintro e w' ⟨⟨r, rfl, r0, r1⟩, hd, hi⟩
  have HD2 : Hid (Drw w0 w' g a n c (T + 1) zs) := hd
  have HI : Hid (Inn g (g + 1) w w') := hi
  have hw : IntKind.i64.wrap (m - 1) = m - 1 := by simp [IntKind.wrap_i64]; omega
  clear hd hi h
  go_wp2
  go_ret
  exact ⟨⟨_, rfl⟩, HD2.out, HI.out⟩

set_option maxRecDepth 100000 in
set_option maxHeartbeats 1000000 in
theorem c_pick (w0 w : World) (g : Nat) (a : Option Addr) (n c T : Nat) (zs : List Int) (la : Option Addr) (ln lc : Nat) (ss : List ByteArray) (h : Drw w0 w g a n c T zs) (hT : T ≤ 1000000) (hl : 1 ≤ ln ∧ ln ≤ 256) (hr : RdV w la ln (ss.map Value.string)) (hg : ∀ b, ob la = some b → g < b) :
    Calls Tryd.prog 59 #[.pointer (some ⟨g, 0, none⟩), .slice la ln lc] w fun e w' => (∃ s ∈ ss, e = .returned (.string s)) ∧ Drw w0 w' g a n c (T + 1) zs ∧ Inn g (g + 1) w w' := by
  have hls : ss.length = ln := by simpa using hr.1
  obtain ⟨b, off, rfl, hbl, hc⟩ := hr.2 (by omega)
  have hgb : g < b := hg b rfl
  have h0 : ((ln : Int) == 0) = false := by simp; omega
  have HC : Hid (∀ i, i < ln → w.cell? ⟨b, off + i, none⟩ = (ss.map Value.string)[i]?) := hc
  clear hc hr hg
  go_enter Tryd.func59, Tryd.ntmps59
  go_wp2_with fail
  refine (c_next w0 w g a n c T zs ln h hT (by omega)).mono ?_
  rintro e w' ⟨⟨r, rfl, r0, r1⟩, hd, hi⟩
  obtain ⟨k, rfl⟩ : ∃ k : Nat, r = (k : Int) := ⟨r.toNat, by omega⟩
  have hk : k < ln := by omega
  obtain ⟨s, hs⟩ : ∃ s, s = ss.getD k ⟨#[]⟩ := ⟨_, rfl⟩
  have hms : Hid (s ∈ ss) := by unfold Hid; rw [hs, List.getD_eq_getElem?_getD, List.getElem?_eq_getElem (by omega)]; exact List.getElem_mem (by omega)
  have e0 : w'.cell? ⟨b, off + k, none⟩ = some (.string s) := by
    rw [World.cell?_of_block (a := ⟨b, off + k, none⟩) (hi.block b hbl (.inr (by omega))), HC.out k hk, hs]; exact map_get _ _ _ _ (by omega)
  have HD2 : Hid (Drw w0 w' g a n c (T + 1) zs) := hd
  have HI : Hid (Inn g (g + 1) w w') := hi
  clear hd hi h hs
  go_wp2
  go_ret
  exact ⟨⟨s, hms.out, rfl⟩, HD2.out, HI.out⟩

theorem Inn.trans_grown {B E : Nat} {w w1 w2 : World} {row : Option Nat} (h : Inn B E w w1) (hg : w1.grownBy w2 row) (hr : ∀ x, row = some x → w.heap.size ≤ x) : Inn B E w w2 :=
  ⟨hg.os.trans h.os, hg.tape.trans h.tape, hg.output.trans h.output, Nat.le_trans h.size hg.size, fun k hk ho => (hg.block k (Nat.lt_of_lt_of_le hk h.size) (fun e => by have := hr k e.symm; omega)).trans (h.block k hk ho)⟩
theorem Drw.grown {w0 w w' : World} {g n c T : Nat} {a : Option Addr} {zs : List Int} {row : Option Nat} (h : Drw w0 w g a n c T zs) (hg : w.grownBy w' row) (hr : ∀ x, row = some x → g < x) : Drw w0 w' g a n c T zs := by
  obtain ⟨i, z, hx, h1⟩ := h.src
  exact ⟨h.code, h.bytes, h.len, h.behind, h.kept.grown hg h.kept.size (fun x e => by have := hr x e; have := h.behind; omega), ⟨i, z, hx.grown hg (fun e => by have := hr g e; omega), h1⟩⟩
theorem cell_num1 (w : World) (x : Value) (t : TypeId) : ∀ j u, [x][j]? = some u → (w.alloc (.cells #[x] t)).cell? ((⟨w.heap.size, 0, none⟩ : Addr).add j) = some u := by
  intro j u hj
  have hb := Box.new w #[x] t
  rw [addr_add, Nat.zero_add, hb.cell j]
  rw [← hj]
  simp
set_option maxRecDepth 100000 in
set_option maxHeartbeats 1000000 in
theorem c_source (a : Option Addr) (n c : Nat) (zs : List Int) (w : World) (hr : RdV w a n (zs.map (Value.int .u8))) (hz : ∀ z ∈ zs, 0 ≤ z ∧ z < 256) (hn : n ≤ 1048576) :
    Calls Tryd.prog 30 #[.slice a n c] w fun e w' => e = .returned (.pointer (some ⟨w.heap.size, 0, none⟩)) ∧ Drw w w' w.heap.size a n c 0 zs ∧ Below w.heap.size w w' := by
  have HR : Hid (RdV w a n (zs.map (Value.int .u8))) := hr
  have HZ : Hid (∀ z ∈ zs, 0 ≤ z ∧ z < 256) := hz
  have hm : (n : Int).tmod 1000 = (n : Int) % 1000 := Int.tmod_eq_emod_of_nonneg (by omega)
  have hw : IntKind.i64.wrap ((n : Int) % 1000) = (n : Int) % 1000 := by simp [IntKind.wrap_i64]; omega
  clear hr hz
  go_enter Tryd.func30, Tryd.ntmps30
  go_wp2
  go_ret
  have hb : Below w.heap.size w (w.alloc (.cells #[.slice a n c, .int .i64 0, .int .i64 ((n : Int) % 1000)] 96)) := (Below.refl _ _).alloc (Nat.le_refl _) _
  exact ⟨rfl, ⟨HR.out, HZ.out, by unfold maxLen; omega, Nat.le_refl _, hb, ⟨0, (n : Int) % 1000, Box.new _ _ _, by omega, by omega, by omega, by omega⟩⟩, hb⟩

end Go.Proofs.YtcgcaomaofppiaaDoor
namespace Go.Proofs.YtcgcaomaofppiaaDoor
open Go Go.RowKit
attribute [local go_sem ↓] Go.wp_at_zero Go.wp_at_succ

def lst6 : List ByteArray := [⟨#[]⟩, ⟨#[97]⟩, ⟨#[97, 98]⟩, ⟨#[97, 98, 99]⟩, ⟨#[98]⟩, ⟨#[122, 122]⟩]
theorem lst6_ok (s : ByteArray) (h : s ∈ lst6) : okV (2, 0, s) = true := by
  unfold lst6 at h
  simp only [List.mem_cons, List.not_mem_nil, or_false] at h
  rcases h with rfl | rfl | rfl | rfl | rfl | rfl <;> decide
theorem lst6_rd (w : World) : RdV (w.alloc (.cells #[.string ⟨#[]⟩, .string ⟨#[97]⟩, .string ⟨#[97, 98]⟩, .string ⟨#[97, 98, 99]⟩, .string ⟨#[98]⟩, .string ⟨#[122, 122]⟩] 9)) (some ⟨w.heap.size, 0, none⟩) 6 (lst6.map Value.string) :=
  RdV.own (World.ownsRow_lit (base := w.heap.size) (e := 9) (size := 1) w #[.string ⟨#[]⟩, .string ⟨#[97]⟩, .string ⟨#[97, 98]⟩, .string ⟨#[97, 98, 99]⟩, .string ⟨#[98]⟩, .string ⟨#[122, 122]⟩] 6 (Nat.le_refl _) (by unfold maxLen; omega) rfl)
theorem okV_num {n : Int} (h0 : -1000000000 ≤ n) (h1 : n ≤ 1000000000) : okV (1, n, ⟨#[]⟩) = true := by
  show valB 1 n ⟨#[]⟩ = true
  rw [val1]
  have : inB n (-1000000000) 1000000000 = true := by unfold inB; exact decide_eq_true ⟨h0, h1⟩
  rw [this]
  simp
theorem okV_null : okV (0, 0, ⟨#[]⟩) = true := by
  show valB 0 0 ⟨#[]⟩ = true
  rw [val0]
  simp
theorem thaw3 {w : World} {g : Nat} {t : TypeId} {c : Array Value} (h : Box w g t c) : w.frozen? ⟨g, 0, none⟩ = false ∧ w.frozen? ⟨g, 1, none⟩ = false ∧ w.frozen? ⟨g, 2, none⟩ = false := ⟨h.thaw 0, h.thaw 1, h.thaw 2⟩
def put3v (w : World) (g : Nat) (v0 v1 v2 : Value) : World := ((w.setCell ⟨g, 0, none⟩ v0).setCell ⟨g, 1, none⟩ v1).setCell ⟨g, 2, none⟩ v2
theorem put3v_box {w : World} {g : Nat} {t : TypeId} {a0 a1 a2 : Value} (h : Box w g t #[a0, a1, a2]) (v0 v1 v2 : Value) : Box (put3v w g v0 v1 v2) g t #[v0, v1, v2] := ((h.set 0 v0).set 1 v1).set 2 v2
theorem put3v_inn (w : World) (g : Nat) (v0 v1 v2 : Value) : Inn g (g + 1) w (put3v w g v0 v1 v2) := by
  have st : ∀ (W : World) (i : Nat) (v : Value), Inn g (g + 1) W (W.setCell ⟨g, i, none⟩ v) := fun W i v => ⟨rfl, rfl, rfl, by simp, fun k _ ho => Below.heap_setCell W ⟨g, i, none⟩ v k (by show k ≠ g; omega)⟩
  exact ((st _ 0 _).trans (st _ 1 _)).trans (st _ 2 _)
theorem retV {fn : Func} {R : Ending → World → Prop} {w' : World} {g : Nat} {a : Act} {v0 v1 v2 : Value} (hres : fn.results = #[.cell 2 29]) (h2 : a.tmps.getD 2 undef = .pointer (some ⟨g, 0, none⟩)) (hd : a.defers = []) (hb : Box w' g 29 #[v0, v1, v2]) (hR : R (.returned (.agg #[v0, v1, v2])) w') : bodyPost Tryd.prog fn R .ret a w' := by
  have b0 : w'.cell? ⟨g, 0, none⟩ = some v0 := hb.cell 0
  have b1 : w'.cell? ⟨g, 1, none⟩ = some v1 := hb.cell 1
  have b2 : w'.cell? ⟨g, 2, none⟩ = some v2 := hb.cell 2
  refine bodyPost_ret (v := .agg #[v0, v1, v2]) ?_ hd hR
  have h2' : a.tmps[2]?.getD undef = .pointer (some ⟨g, 0, none⟩) := by simpa using h2
  have hl : (loadVar 29 ⟨g, 0, none⟩).run Tryd.prog w' = .ok (.agg #[v0, v1, v2]) w' := by simp [go_sem, b0, b1, b2]
  simp only [results, hres]
  simp [h2', asAddr, hl]
theorem inn_fresh {g E B F : Nat} {w w1 w2 : World} (h : Inn g E w w1) (i : Inn B F w1 w2) (hB : w.heap.size ≤ B) : Inn g E w w2 :=
  ⟨i.os.trans h.os, i.tape.trans h.tape, i.output.trans h.output, Nat.le_trans h.size i.size, fun k hk ho => (i.block k (Nat.lt_of_lt_of_le hk h.size) (.inl (by omega))).trans (h.block k hk ho)⟩
theorem Inn.ofB {B E : Nat} {w w' : World} (h : Below w.heap.size w w') : Inn B E w w' := ⟨h.os, h.tape, h.output, h.size, fun k hk _ => h.block k hk⟩
set_option maxRecDepth 100000 in
set_option maxHeartbeats 4000000 in
theorem c_value (w0 w : World) (g : Nat) (a : Option Addr) (n c T : Nat) (zs : List Int) (h : Drw w0 w g a n c T zs) (hT : T ≤ 900000) :
    Calls Tryd.prog 58 #[.pointer (some ⟨g, 0, none⟩)] w fun e w' => (∃ u : VV, e = .returned (.agg #[.int .i64 u.1, .int .i64 u.2.1, .string u.2.2]) ∧ okV u = true) ∧ Drw w0 w' g a n c (T + 4) zs ∧ Inn g (g + 1) w w' := by
  have lg : g < w.heap.size := h.src.lt
  have lb : w0.heap.size ≤ g := h.behind
  obtain ⟨w1, hw1⟩ : ∃ Q, w.alloc (.cells #[.int .i64 0, .int .i64 0, .string ⟨#[]⟩] 29) = Q := ⟨_, rfl⟩
  have b1 : Below w.heap.size w w1 := by rw [← hw1]; exact (Below.refl _ _).alloc (Nat.le_refl _) _
  have X1 : Hid (Box w1 w.heap.size 29 #[.int .i64 0, .int .i64 0, .string ⟨#[]⟩]) := by unfold Hid; rw [← hw1]; exact Box.new _ _ _
  have D1 : Hid (Drw w0 w1 g a n c (T + 0) zs) := h.below b1
  have I1 : Hid (Inn g (g + 1) w w1) := Inn.ofB b1
  clear h b1
  go_enter Tryd.func58, Tryd.ntmps58
  go_wp2_with fail
  refine (c_next w0 w1 g a n c (T + 0) zs 4 D1.out (by omega) (by omega)).mono ?_
  rintro e w2 ⟨⟨r2, rfl, p2, q2⟩, hd, hi⟩
  have D2 : Hid (Drw w0 w2 g a n c (T + 1) zs) := hd
  have I2 : Hid (Inn g (g + 1) w w2) := I1.out.trans hi
  have X2 : Hid (Box w2 w.heap.size 29 #[.int .i64 0, .int .i64 0, .string ⟨#[]⟩]) := X1.out.innO hi (.inr (by omega))
  clear hd hi D1 I1 X1
  clear hw1
  by_cases k0 : r2 = 0
  · subst k0
    obtain ⟨s0, s1, s2⟩ := thaw3 X2.out
    have y0 : w2.cell? ⟨w.heap.size, 0, none⟩ = some (.int .i64 0) := X2.out.cell 0
    have y1 : w2.cell? ⟨w.heap.size, 1, none⟩ = some (.int .i64 0) := X2.out.cell 1
    have y2 : w2.cell? ⟨w.heap.size, 2, none⟩ = some (.string ⟨#[]⟩) := X2.out.cell 2
    obtain ⟨N, hN⟩ : ∃ Q, put3v w2 w.heap.size (.int .i64 0) (.int .i64 0) (.string ⟨#[]⟩) = Q := ⟨_, rfl⟩
    have iN : Inn w.heap.size (w.heap.size + 1) w2 N := by rw [← hN]; exact put3v_inn _ _ _ _ _
    have XN : Hid (Box N w.heap.size 29 #[.int .i64 ((0, 0, ⟨#[]⟩) : VV).1, .int .i64 ((0, 0, ⟨#[]⟩) : VV).2.1, .string ((0, 0, ⟨#[]⟩) : VV).2.2]) := by unfold Hid; rw [← hN]; exact put3v_box X2.out _ _ _
    have DN : Hid (Drw w0 N g a n c (T + 4) zs) := (D2.out.inn iN (.inl lg) (by have := D2.out.behind; omega)).mono (by omega)
    have IN : Hid (Inn g (g + 1) w N) := inn_fresh I2.out iN (Nat.le_refl _)
    unfold put3v at hN
    clear iN
    go_wp2
    exact retV Tryd.results58 rfl rfl XN.out ⟨⟨((0, 0, ⟨#[]⟩) : VV), rfl, okV_null⟩, DN.out, IN.out⟩
  have e0 : (r2 == 0) = false := by simpa using k0
  by_cases k1 : r2 = 1
  · subst k1
    obtain ⟨w3, hw3⟩ : ∃ Q, w2.alloc (.cells #[.string ⟨#[]⟩, .string ⟨#[97]⟩, .string ⟨#[97, 98]⟩, .string ⟨#[97, 98, 99]⟩, .string ⟨#[98]⟩, .string ⟨#[122, 122]⟩] 9) = Q := ⟨_, rfl⟩
    have b3 : Below w2.heap.size w2 w3 := by rw [← hw3]; exact (Below.refl _ _).alloc (Nat.le_refl _) _
    have X3 : Hid (Box w3 w.heap.size 29 #[.int .i64 0, .int .i64 0, .string ⟨#[]⟩]) := X2.out.belowS b3
    have D3 : Hid (Drw w0 w3 g a n c (T + 1) zs) := D2.out.below b3
    have I3 : Hid (Inn g (g + 1) w w3) := I2.out.trans (Inn.ofB b3)
    have RL : Hid (RdV w3 (some ⟨w2.heap.size, 0, none⟩) 6 (lst6.map Value.string)) := by unfold Hid; rw [← hw3]; exact lst6_rd w2
    have l3 : w.heap.size < w2.heap.size := X2.out.lt
    clear b3 X2 D2 I2
    go_wp2_with fail
    refine (c_pick w0 w3 g a n c (T + 1) zs (some ⟨w2.heap.size, 0, none⟩) 6 6 lst6 D3.out (by omega) (by omega) RL.out (fun b e => by have e1 : w2.heap.size = b := Option.some.inj e; omega)).mono ?_
    rintro e w4 ⟨⟨s, hs, rfl⟩, hd, hi⟩
    have D4 : Hid (Drw w0 w4 g a n c (T + 2) zs) := hd
    have I4 : Hid (Inn g (g + 1) w w4) := I3.out.trans hi
    have X4 : Hid (Box w4 w.heap.size 29 #[.int .i64 0, .int .i64 0, .string ⟨#[]⟩]) := X3.out.innO hi (.inr (by omega))
    have HS : Hid (okV (2, 0, s) = true) := lst6_ok s hs
    clear hd hi D3 I3 X3 RL hs hw3
    obtain ⟨s0, s1, s2⟩ := thaw3 X4.out
    have y0 : w4.cell? ⟨w.heap.size, 0, none⟩ = some (.int .i64 0) := X4.out.cell 0
    have y1 : w4.cell? ⟨w.heap.size, 1, none⟩ = some (.int .i64 0) := X4.out.cell 1
    have y2 : w4.cell? ⟨w.heap.size, 2, none⟩ = some (.string ⟨#[]⟩) := X4.out.cell 2
    obtain ⟨N, hN⟩ : ∃ Q, put3v w4 w.heap.size (.int .i64 2) (.int .i64 0) (.string s) = Q := ⟨_, rfl⟩
    have iN : Inn w.heap.size (w.heap.size + 1) w4 N := by rw [← hN]; exact put3v_inn _ _ _ _ _
    have XN : Hid (Box N w.heap.size 29 #[.int .i64 ((2, 0, s) : VV).1, .int .i64 ((2, 0, s) : VV).2.1, .string ((2, 0, s) : VV).2.2]) := by unfold Hid; rw [← hN]; exact put3v_box X4.out _ _ _
    have DN : Hid (Drw w0 N g a n c (T + 4) zs) := (D4.out.inn iN (.inl lg) (by have := D4.out.behind; omega)).mono (by omega)
    have IN : Hid (Inn g (g + 1) w N) := inn_fresh I4.out iN (Nat.le_refl _)
    unfold put3v at hN
    clear iN
    go_wp2
    exact retV Tryd.results58 rfl rfl XN.out ⟨⟨((2, 0, s) : VV), rfl, HS.out⟩, DN.out, IN.out⟩
  have e1 : (r2 == 1) = false := by simpa using k1
  go_wp2_with fail
  refine (c_next w0 w2 g a n c (T + 1) zs 20 D2.out (by omega) (by omega)).mono ?_
  rintro e w3 ⟨⟨r3, rfl, p3, q3⟩, hd, hi⟩
  have D3 : Hid (Drw w0 w3 g a n c (T + 2) zs) := hd
  have I3 : Hid (Inn g (g + 1) w w3) := I2.out.trans hi
  have X3 : Hid (Box w3 w.heap.size 29 #[.int .i64 0, .int .i64 0, .string ⟨#[]⟩]) := X2.out.innO hi (.inr (by omega))
  clear hd hi D2 I2 X2
  have s3 : IntKind.i64.wrap (r3 - 5) = r3 - 5 := by simp [IntKind.wrap_i64]; omega
  go_wp2_with fail
  refine (c_next w0 w3 g a n c (T + 2) zs 20 D3.out (by omega) (by omega)).mono ?_
  rintro e w4 ⟨⟨r4, rfl, p4, q4⟩, hd, hi⟩
  have D4 : Hid (Drw w0 w4 g a n c (T + 3) zs) := hd
  have I4 : Hid (Inn g (g + 1) w w4) := I3.out.trans hi
  have X4 : Hid (Box w4 w.heap.size 29 #[.int .i64 0, .int .i64 0, .string ⟨#[]⟩]) := X3.out.innO hi (.inr (by omega))
  clear hd hi D3 I3 X3
  obtain ⟨w5, hw5⟩ : ∃ Q, w4.alloc (.cells #[.int .i64 (r3 - 5), .int .i64 r4, .int .i64 1000000000, .int .i64 (-1000000000)] 3) = Q := ⟨_, rfl⟩
  have b5 : Below w4.heap.size w4 w5 := by rw [← hw5]; exact (Below.refl _ _).alloc (Nat.le_refl _) _
  have X5 : Hid (Box w5 w.heap.size 29 #[.int .i64 0, .int .i64 0, .string ⟨#[]⟩]) := X4.out.belowS b5
  have D5 : Hid (Drw w0 w5 g a n c (T + 3) zs) := D4.out.below b5
  have I5 : Hid (Inn g (g + 1) w w5) := I4.out.trans (Inn.ofB b5)
  have A5 : Hid (Box w5 w4.heap.size 3 #[.int .i64 (r3 - 5), .int .i64 r4, .int .i64 1000000000, .int .i64 (-1000000000)]) := by unfold Hid; rw [← hw5]; exact Box.new _ _ _
  have l4 : w.heap.size < w4.heap.size := X4.out.lt
  clear b5 X4 D4 I4
  go_wp2_with fail
  refine (c_next w0 w5 g a n c (T + 3) zs 8 D5.out (by omega) (by omega)).mono ?_
  rintro e w6 ⟨⟨r6, rfl, p6, q6⟩, hd, hi⟩
  have D6 : Hid (Drw w0 w6 g a n c (T + 4) zs) := hd
  have I6 : Hid (Inn g (g + 1) w w6) := I5.out.trans hi
  have X6 : Hid (Box w6 w.heap.size 29 #[.int .i64 0, .int .i64 0, .string ⟨#[]⟩]) := X5.out.innO hi (.inr (by omega))
  have A6 : Hid (Box w6 w4.heap.size 3 #[.int .i64 (r3 - 5), .int .i64 r4, .int .i64 1000000000, .int .i64 (-1000000000)]) := A5.out.innO hi (.inr (by omega))
  clear hd hi D5 I5 X5 A5 hw5
  have a0 : w6.cell? ⟨w4.heap.size, 0, none⟩ = some (.int .i64 (r3 - 5)) := A6.out.cell 0
  have a1 : w6.cell? ⟨w4.heap.size, 1, none⟩ = some (.int .i64 r4) := A6.out.cell 1
  have a2 : w6.cell? ⟨w4.heap.size, 2, none⟩ = some (.int .i64 1000000000) := A6.out.cell 2
  have a3 : w6.cell? ⟨w4.heap.size, 3, none⟩ = some (.int .i64 (-1000000000)) := A6.out.cell 3
  have cs : r6 = 0 ∨ r6 = 1 ∨ r6 = 2 ∨ r6 = 3 ∨ r6 = 4 ∨ r6 = 5 ∨ r6 = 6 ∨ r6 = 7 := by omega
  obtain ⟨s0, s1, s2⟩ := thaw3 X6.out
  have y0 : w6.cell? ⟨w.heap.size, 0, none⟩ = some (.int .i64 0) := X6.out.cell 0
  have y1 : w6.cell? ⟨w.heap.size, 1, none⟩ = some (.int .i64 0) := X6.out.cell 1
  have y2 : w6.cell? ⟨w.heap.size, 2, none⟩ = some (.string ⟨#[]⟩) := X6.out.cell 2
  have FIN : Hid (∀ z : Int, -1000000000 ≤ z → z ≤ 1000000000 → ∀ N, put3v w6 w.heap.size (.int .i64 1) (.int .i64 z) (.string ⟨#[]⟩) = N → Box N w.heap.size 29 #[.int .i64 ((1, z, ⟨#[]⟩) : VV).1, .int .i64 ((1, z, ⟨#[]⟩) : VV).2.1, .string ((1, z, ⟨#[]⟩) : VV).2.2] ∧ ((∃ u : VV, Ending.returned (.agg #[.int .i64 ((1, z, ⟨#[]⟩) : VV).1, .int .i64 ((1, z, ⟨#[]⟩) : VV).2.1, .string ((1, z, ⟨#[]⟩) : VV).2.2]) = .returned (.agg #[.int .i64 u.1, .int .i64 u.2.1, .string u.2.2]) ∧ okV u = true) ∧ Drw w0 N g a n c (T + 4) zs ∧ Inn g (g + 1) w N)) := fun z z0 z1 N hN => by
    have iN : Inn w.heap.size (w.heap.size + 1) w6 N := by rw [← hN]; exact put3v_inn _ _ _ _ _
    refine ⟨by rw [← hN]; exact put3v_box X6.out _ _ _, ⟨(1, z, ⟨#[]⟩), rfl, okV_num z0 z1⟩, ?_, inn_fresh I6.out iN (Nat.le_refl _)⟩
    exact (D6.out.inn iN (.inl lg) (by have := D6.out.behind; omega)).mono (by omega)
  clear p6 q6
  rcases cs with rfl | rfl | rfl | rfl | rfl | rfl | rfl | rfl
  · obtain ⟨N, hN⟩ : ∃ Q, put3v w6 w.heap.size (.int .i64 1) (.int .i64 (r3 - 5)) (.string ⟨#[]⟩) = Q := ⟨_, rfl⟩
    have HF := FIN.out (r3 - 5) (by omega) (by omega) N hN
    have XN : Hid (Box N w.heap.size 29 _) := HF.1
    unfold put3v at hN
    go_wp2
    exact retV Tryd.results58 rfl rfl XN.out HF.2
  · obtain ⟨N, hN⟩ : ∃ Q, put3v w6 w.heap.size (.int .i64 1) (.int .i64 (r3 - 5)) (.string ⟨#[]⟩) = Q := ⟨_, rfl⟩
    have HF := FIN.out (r3 - 5) (by omega) (by omega) N hN
    have XN : Hid (Box N w.heap.size 29 _) := HF.1
    unfold put3v at hN
    go_wp2
    exact retV Tryd.results58 rfl rfl XN.out HF.2
  · obtain ⟨N, hN⟩ : ∃ Q, put3v w6 w.heap.size (.int .i64 1) (.int .i64 (r4)) (.string ⟨#[]⟩) = Q := ⟨_, rfl⟩
    have HF := FIN.out (r4) (by omega) (by omega) N hN
    have XN : Hid (Box N w.heap.size 29 _) := HF.1
    unfold put3v at hN
    go_wp2
    exact retV Tryd.results58 rfl rfl XN.out HF.2
  · obtain ⟨N, hN⟩ : ∃ Q, put3v w6 w.heap.size (.int .i64 1) (.int .i64 (r4)) (.string ⟨#[]⟩) = Q := ⟨_, rfl⟩
    have HF := FIN.out (r4) (by omega) (by omega) N hN
    have XN : Hid (Box N w.heap.size 29 _) := HF.1
    unfold put3v at hN
    go_wp2
    exact retV Tryd.results58 rfl rfl XN.out HF.2
  · obtain ⟨N, hN⟩ : ∃ Q, put3v w6 w.heap.size (.int .i64 1) (.int .i64 (1000000000)) (.string ⟨#[]⟩) = Q := ⟨_, rfl⟩
    have HF := FIN.out (1000000000) (by omega) (by omega) N hN
    have XN : Hid (Box N w.heap.size 29 _) := HF.1
    unfold put3v at hN
    go_wp2
    exact retV Tryd.results58 rfl rfl XN.out HF.2
  · obtain ⟨N, hN⟩ : ∃ Q, put3v w6 w.heap.size (.int .i64 1) (.int .i64 (1000000000)) (.string ⟨#[]⟩) = Q := ⟨_, rfl⟩
    have HF := FIN.out (1000000000) (by omega) (by omega) N hN
    have XN : Hid (Box N w.heap.size 29 _) := HF.1
    unfold put3v at hN
    go_wp2
    exact retV Tryd.results58 rfl rfl XN.out HF.2
  · obtain ⟨N, hN⟩ : ∃ Q, put3v w6 w.heap.size (.int .i64 1) (.int .i64 (-1000000000)) (.string ⟨#[]⟩) = Q := ⟨_, rfl⟩
    have HF := FIN.out (-1000000000) (by omega) (by omega) N hN
    have XN : Hid (Box N w.heap.size 29 _) := HF.1
    unfold put3v at hN
    go_wp2
    exact retV Tryd.results58 rfl rfl XN.out HF.2
  · obtain ⟨N, hN⟩ : ∃ Q, put3v w6 w.heap.size (.int .i64 1) (.int .i64 (-1000000000)) (.string ⟨#[]⟩) = Q := ⟨_, rfl⟩
    have HF := FIN.out (-1000000000) (by omega) (by omega) N hN
    have XN : Hid (Box N w.heap.size 29 _) := HF.1
    unfold put3v at hN
    go_wp2
    exact retV Tryd.results58 rfl rfl XN.out HF.2

end Go.Proofs.YtcgcaomaofppiaaDoor
namespace Go.Proofs.YtcgcaomaofppiaaDoor
open Go Go.RowKit
attribute [local go_sem ↓] Go.wp_at_zero Go.wp_at_succ

set_option linter.unusedVariables false
set_option linter.unusedSimpArgs false
structure FrB (g B : Nat) (w w' : World) : Prop where
  os : w'.os = w.os
  tape : w'.tape = w.tape
  output : w'.output = w.output
  size : w.heap.size ≤ w'.heap.size
  block : ∀ k, k < w.heap.size → k ≠ g → k < B → w'.heap[k]? = w.heap[k]?
theorem FrB.refl (g B : Nat) (w : World) : FrB g B w w := ⟨rfl, rfl, rfl, Nat.le_refl _, fun _ _ _ _ => rfl⟩
theorem FrB.trans {g B : Nat} {a b c : World} (h : FrB g B a b) (k : FrB g B b c) : FrB g B a c := ⟨k.os.trans h.os, k.tape.trans h.tape, k.output.trans h.output, Nat.le_trans h.size k.size, fun i hi h1 h2 => (k.block i (Nat.lt_of_lt_of_le hi h.size) h1 h2).trans (h.block i hi h1 h2)⟩
theorem FrB.ofInn {g B : Nat} {w w' : World} (h : Inn g (g + 1) w w') : FrB g B w w' := ⟨h.os, h.tape, h.output, h.size, fun k hk h1 _ => h.block k hk (by omega)⟩
theorem FrB.ofBelow {g B : Nat} {w w' : World} (h : Below w.heap.size w w') : FrB g B w w' := ⟨h.os, h.tape, h.output, h.size, fun k hk _ _ => h.block k hk⟩
theorem FrB.ofGrown {g B : Nat} {w w' : World} {r : Option Nat} (h : w.grownBy w' r) (hr : ∀ x, r = some x → B ≤ x) : FrB g B w w' := ⟨h.os, h.tape, h.output, h.size, fun k hk _ h2 => h.block k hk (fun e => by have := hr k e.symm; omega)⟩
theorem own_blkN {w : World} {B t s n cap : Nat} {a : Option Addr} {xs : List Value} (h : w.ownsRow B t s (.slice a n cap) n xs) : ∀ g, ob a = some g → B ≤ g ∧ g < w.heap.size := fun g hg => by
  rcases own_form h with ⟨e, _⟩ | ⟨g', c', hv, hb, hl⟩
  · simp only [Value.slice.injEq] at e; rw [e.1] at hg; cases hg
  · simp only [Value.slice.injEq] at hv; rw [hv.1] at hg; cases hg; exact ⟨hb, hl⟩
theorem own_inn {w w' : World} {g B t s n cap : Nat} {a : Option Addr} {xs : List Value} (h : w.ownsRow B t s (.slice a n cap) n xs) (hi : Inn g (g + 1) w w') (hg : g < B) : w'.ownsRow B t s (.slice a n cap) n xs :=
  own_same h fun x e => by
    rw [ob_slice] at e
    have := own_blkN h x e
    exact hi.block x this.2 (by omega)
theorem cellsE_app (xs ys : List EN) : cellsE (xs ++ ys) = cellsE xs ++ cellsE ys := by unfold cellsE; rw [List.flatMap_append]
theorem cellsE_one (x : EN) : cellsE [x] = cE x := by simp [cellsE]
theorem oneE (x : EN) : ∀ y ∈ cE x, y.oneCell' = true := by
  intro y hy
  simp only [cE, List.mem_cons, List.not_mem_nil, or_false] at hy
  rcases hy with rfl | rfl | rfl | rfl | rfl | rfl | rfl <;> rfl
theorem news_boxE {w : World} {g : Nat} (x : EN) (h : Box w g 121 #[.int .i64 x.o, .int .i64 x.a, .int .i64 x.b, .int .i64 x.c, .int .i64 x.k, .int .i64 x.n, .string x.t]) : ∀ ad, some (⟨g, 0, none⟩ : Addr) = some ad → ∀ j y, (cE x)[j]? = some y → w.cell? (ad.add j) = some y := by
  intro ad ea j y hj
  cases ea
  have hx := h.cell j
  rw [addr_add, Nat.zero_add, hx]
  simpa [cE] using hj
theorem snocE (L : List EN) (x : EN) : (L ++ [x]).length = L.length + 1 := by simp
theorem nd_app {w0 W V w5 : World} {g B sn sc T c2 : Nat} {sa a a2 : Option Addr} {zs : List Int} {L : List EN} {x : EN} (hb : Below W.heap.size W V) (ho : w5.ownsRow B 121 7 (.slice a2 (L.length + 1) c2) (L.length + 1) (cellsE L ++ cE x)) (hg : V.grownBy w5 (ob a)) (hB : ∀ x, ob a = some x → B ≤ x) (hgB : g < B) (D : Drw w0 W g sa sn sc T zs) :
    w5.ownsRow B 121 7 (.slice a2 (L ++ [x]).length c2) (L ++ [x]).length (cellsE (L ++ [x])) ∧ Drw w0 w5 g sa sn sc T zs ∧ FrB g B W w5 :=
  ⟨by rw [snocE, cellsE_app, cellsE_one]; exact ho, (D.below hb).grown hg (fun x e => by have := hB x e; omega), (FrB.ofBelow hb).trans (FrB.ofGrown hg hB)⟩
/-- What a draw of a node leaves behind. -/
def NPost (w0 w : World) (g : Nat) (sa : Option Addr) (sn sc T : Nat) (zs : List Int) (B : Nat) (L : List EN) (deep : Nat) (e : Ending) (w' : World) : Prop :=
  ∃ (p : PT) (L1 : List EN) (a1 : Option Addr) (c1 : Nat), e = .returned (.slice a1 L1.length c1) ∧ Hid (L1 = L ++ nodesP p L.length ∧ p.ok = true ∧ p.dep ≤ deep + 1) ∧ p.cnt + 1 ≤ 2 ^ (deep + 1) ∧ L1.length = L.length + p.cnt ∧ w'.ownsRow B 121 7 (.slice a1 L1.length c1) L1.length (cellsE L1) ∧ Drw w0 w' g sa sn sc (T + 8 * p.cnt) zs ∧ FrB g B w w'
set_option maxRecDepth 100000 in
set_option maxHeartbeats 8000000 in
theorem c_node0 (w0 : World) (g : Nat) (sa : Option Addr) (sn sc : Nat) (zs : List Int) (B : Nat) (hgB : g < B) : ∀ (w : World) (T : Nat) (L : List EN) (a : Option Addr) (cap : Nat) (D : Int), D = ((0 : Nat) : Int) → Drw w0 w g sa sn sc T zs → w.ownsRow B 121 7 (.slice a L.length cap) L.length (cellsE L) → B ≤ w.heap.size → T + 8 * 2 ^ (0 + 1) ≤ 800000 → L.length + 2 ^ (0 + 1) ≤ 1000 → Calls Tryd.prog 56 #[.pointer (some ⟨g, 0, none⟩), .slice a L.length cap, .int .i64 D] w fun e w' => NPost w0 w g sa sn sc T zs B L (0) e w' := by
  intro w T L a cap D hD h hO hB hT hL
  obtain ⟨iE, giV, gz0, gz1, gz2⟩ := info_parts infoE
  have hiE : Hid (Tryd.prog.info? 121 = some iE) := giV
  have hz0 : Hid (iE.zero = some (.agg #[.int .i64 0, .int .i64 0, .int .i64 0, .int .i64 0, .int .i64 0, .int .i64 0, .string ⟨#[]⟩])) := gz0
  have hz1 : Hid (iE.size = 7) := gz1
  have hz2 : Hid (iE.bytes = 64) := gz2
  clear giV gz0 gz1 gz2
  have D1 : Hid (Drw w0 w g sa sn sc (T + 0) zs) := h
  have O1 : Hid (w.ownsRow B 121 7 (.slice a L.length cap) L.length (cellsE L)) := hO
  have F1 : Hid (FrB g B w w) := FrB.refl _ _ _
  have l1 : B ≤ w.heap.size := hB
  clear h hO
  have e0 : (D == 0) = true := by rw [hD]; rfl
  have hL2 : L.length + 2 ≤ 1000 := hL
  have hT2 : T + 16 ≤ 800000 := hT
  clear hL hT hD
  go_enter Tryd.func56, Tryd.ntmps56
  go_wp2_with fail
  refine (c_chance w0 w g sa sn sc (T + 0) zs 2 D1.out (by omega) (by omega)).mono ?_
  rintro e w2 ⟨⟨r2, rfl⟩, hd, hi⟩
  have D2 : Hid (Drw w0 w2 g sa sn sc (T + 1) zs) := hd
  have O2 : Hid (w2.ownsRow B 121 7 (.slice a L.length cap) L.length (cellsE L)) := own_inn O1.out hi hgB
  have F2 : Hid (FrB g B w w2) := F1.out.trans (FrB.ofInn hi)
  have l2 : B ≤ w2.heap.size := Nat.le_trans l1 hi.size
  clear hd hi D1 O1 F1
  cases r2
  · go_wp2_with fail
    refine (c_value w0 w2 g sa sn sc (T + 1) zs D2.out (by omega)).mono ?_
    rintro e w3 ⟨⟨u, rfl, hu⟩, hd, hi⟩
    have HU : Hid (okV u = true) := hu
    have D3 : Hid (Drw w0 w3 g sa sn sc (T + 1 + 4) zs) := hd
    have O3 : Hid (w3.ownsRow B 121 7 (.slice a L.length cap) L.length (cellsE L)) := own_inn O2.out hi hgB
    have F3 : Hid (FrB g B w w3) := F2.out.trans (FrB.ofInn hi)
    have l3 : B ≤ w3.heap.size := Nat.le_trans l2 hi.size
    clear hd hi D2 O2 F2
    clear hu
    obtain ⟨VN, hVN⟩ : ∃ W, w3.alloc (.cells #[.int .i64 1, .int .i64 0, .int .i64 0, .int .i64 0, .int .i64 u.1, .int .i64 u.2.1, .string u.2.2] 121) = W := ⟨_, rfl⟩
    have bVN : Hid (Below w3.heap.size w3 VN) := by unfold Hid; rw [← hVN]; exact (Below.refl _ _).alloc (Nat.le_refl _) _
    have BVN : Hid (Box VN w3.heap.size 121 #[.int .i64 1, .int .i64 0, .int .i64 0, .int .i64 0, .int .i64 u.1, .int .i64 u.2.1, .string u.2.2]) := by unfold Hid; rw [← hVN]; exact Box.new _ _ _
    have OVN : Hid (VN.ownsRow B 121 7 (.slice a L.length cap) L.length (cellsE L)) := own_below O3.out bVN.out
    have lVN : B ≤ VN.heap.size := by have := bVN.out.size; omega
    have GB : Hid (∀ x, ob a = some x → B ≤ x) := fun x e => (own_blkN O3.out x e).1
    go_wp2_with (at_builtin; refine app_any _ rfl (.tmp 22) (.tmp 26) 41 rfl B 121 iE (.agg #[.int .i64 0, .int .i64 0, .int .i64 0, .int .i64 0, .int .i64 0, .int .i64 0, .string ⟨#[]⟩]) 7 64 Tryd.underlying41 hiE.out hz0.out hz1.out hz2.out rfl (by omega) (.slice a L.length cap) L.length (cellsE L) rfl OVN.out _ 1 1 (cE (⟨1, 0, 0, 0, u.1, u.2.1, u.2.2⟩ : EN)) rfl (fun ex => by cases ex) rfl (news_boxE (⟨1, 0, 0, 0, u.1, u.2.1, u.2.2⟩ : EN) BVN.out) (oneE _) (by unfold maxLen; omega) (by omega) lVN ?_; intro a9 c9 w9 ho9 hg9 hx9; rw [ob_slice] at hg9; have P9 : Hid (_ ∧ _ ∧ _) := nd_app bVN.out ho9 hg9 GB.out hgB D3.out; clear ho9 hg9 hx9)
    go_ret
    exact ⟨.con u.1 u.2.1 u.2.2, L ++ [(⟨1, 0, 0, 0, u.1, u.2.1, u.2.2⟩ : EN)], a9, c9, by rw [snocE]; rfl, ⟨rfl, HU.out, by simp [PT.dep]⟩, by simp [PT.cnt] <;> omega, by rw [snocE]; rfl, P9.out.1, P9.out.2.1.mono (by simp [PT.cnt] <;> omega), F3.out.trans P9.out.2.2⟩
  · go_wp2_with fail
    refine (c_next w0 w2 g sa sn sc (T + 1) zs 3 D2.out (by omega) (by omega)).mono ?_
    rintro e w3 ⟨⟨r3, rfl, p3, q3⟩, hd, hi⟩
    have D3 : Hid (Drw w0 w3 g sa sn sc (T + 2) zs) := hd
    have O3 : Hid (w3.ownsRow B 121 7 (.slice a L.length cap) L.length (cellsE L)) := own_inn O2.out hi hgB
    have F3 : Hid (FrB g B w w3) := F2.out.trans (FrB.ofInn hi)
    have l3 : B ≤ w3.heap.size := Nat.le_trans l2 hi.size
    clear hd hi D2 O2 F2
    have HC : Hid (inB r3 0 2 = true) := decide_eq_true (by omega)
    obtain ⟨VN, hVN⟩ : ∃ W, w3.alloc (.cells #[.int .i64 2, .int .i64 0, .int .i64 0, .int .i64 r3, .int .i64 0, .int .i64 0, .string ⟨#[]⟩] 121) = W := ⟨_, rfl⟩
    have bVN : Hid (Below w3.heap.size w3 VN) := by unfold Hid; rw [← hVN]; exact (Below.refl _ _).alloc (Nat.le_refl _) _
    have BVN : Hid (Box VN w3.heap.size 121 #[.int .i64 2, .int .i64 0, .int .i64 0, .int .i64 r3, .int .i64 0, .int .i64 0, .string ⟨#[]⟩]) := by unfold Hid; rw [← hVN]; exact Box.new _ _ _
    have OVN : Hid (VN.ownsRow B 121 7 (.slice a L.length cap) L.length (cellsE L)) := own_below O3.out bVN.out
    have lVN : B ≤ VN.heap.size := by have := bVN.out.size; omega
    have GB : Hid (∀ x, ob a = some x → B ≤ x) := fun x e => (own_blkN O3.out x e).1
    go_wp2_with (at_builtin; refine app_any _ rfl (.tmp 16) (.tmp 20) 41 rfl B 121 iE (.agg #[.int .i64 0, .int .i64 0, .int .i64 0, .int .i64 0, .int .i64 0, .int .i64 0, .string ⟨#[]⟩]) 7 64 Tryd.underlying41 hiE.out hz0.out hz1.out hz2.out rfl (by omega) (.slice a L.length cap) L.length (cellsE L) rfl OVN.out _ 1 1 (cE (⟨2, 0, 0, r3, 0, 0, ⟨#[]⟩⟩ : EN)) rfl (fun ex => by cases ex) rfl (news_boxE (⟨2, 0, 0, r3, 0, 0, ⟨#[]⟩⟩ : EN) BVN.out) (oneE _) (by unfold maxLen; omega) (by omega) lVN ?_; intro a9 c9 w9 ho9 hg9 hx9; rw [ob_slice] at hg9; have P9 : Hid (_ ∧ _ ∧ _) := nd_app bVN.out ho9 hg9 GB.out hgB D3.out; clear ho9 hg9 hx9)
    go_ret
    exact ⟨.col r3, L ++ [(⟨2, 0, 0, r3, 0, 0, ⟨#[]⟩⟩ : EN)], a9, c9, by rw [snocE]; rfl, ⟨rfl, HC.out, by simp [PT.dep]⟩, by simp [PT.cnt] <;> omega, by rw [snocE]; rfl, P9.out.1, P9.out.2.1.mono (by simp [PT.cnt] <;> omega), F3.out.trans P9.out.2.2⟩
set_option maxRecDepth 100000 in
set_option maxHeartbeats 8000000 in
theorem c_nodeS (w0 : World) (g : Nat) (sa : Option Addr) (sn sc : Nat) (zs : List Int) (B : Nat) (hgB : g < B) (d : Nat) (h0 : d ≤ 100) (IH : Hid (∀ (w : World) (T : Nat) (L : List EN) (a : Option Addr) (cap : Nat) (D : Int), D = ((d : Nat) : Int) → Drw w0 w g sa sn sc T zs → w.ownsRow B 121 7 (.slice a L.length cap) L.length (cellsE L) → B ≤ w.heap.size → T + 8 * 2 ^ (d + 1) ≤ 800000 → L.length + 2 ^ (d + 1) ≤ 1000 → Calls Tryd.prog 56 #[.pointer (some ⟨g, 0, none⟩), .slice a L.length cap, .int .i64 D] w fun e w' => NPost w0 w g sa sn sc T zs B L (d) e w')) : ∀ (w : World) (T : Nat) (L : List EN) (a : Option Addr) (cap : Nat) (D : Int), D = ((d + 1 : Nat) : Int) → Drw w0 w g sa sn sc T zs → w.ownsRow B 121 7 (.slice a L.length cap) L.length (cellsE L) → B ≤ w.heap.size → T + 8 * 2 ^ (d + 1 + 1) ≤ 800000 → L.length + 2 ^ (d + 1 + 1) ≤ 1000 → Calls Tryd.prog 56 #[.pointer (some ⟨g, 0, none⟩), .slice a L.length cap, .int .i64 D] w fun e w' => NPost w0 w g sa sn sc T zs B L (d + 1) e w' := by
  intro w T L a cap D hD h hO hB hT hL
  obtain ⟨iE, giV, gz0, gz1, gz2⟩ := info_parts infoE
  have hiE : Hid (Tryd.prog.info? 121 = some iE) := giV
  have hz0 : Hid (iE.zero = some (.agg #[.int .i64 0, .int .i64 0, .int .i64 0, .int .i64 0, .int .i64 0, .int .i64 0, .string ⟨#[]⟩])) := gz0
  have hz1 : Hid (iE.size = 7) := gz1
  have hz2 : Hid (iE.bytes = 64) := gz2
  clear giV gz0 gz1 gz2
  have D1 : Hid (Drw w0 w g sa sn sc (T + 0) zs) := h
  have O1 : Hid (w.ownsRow B 121 7 (.slice a L.length cap) L.length (cellsE L)) := hO
  have F1 : Hid (FrB g B w w) := FrB.refl _ _ _
  have l1 : B ≤ w.heap.size := hB
  clear h hO
  have e0 : (D == 0) = false := by simp; omega
  obtain ⟨P, hP⟩ : ∃ P, 2 ^ (d + 1) = P := ⟨_, rfl⟩
  have hP2 : 2 ^ (d + 1 + 1) = 2 * P := by rw [Nat.pow_succ, hP]; omega
  have hP1 : 2 ≤ P := by rw [← hP, Nat.pow_succ]; have := Nat.one_le_two_pow (n := d); omega
  unfold NPost at IH ⊢
  rw [hP2] at hT hL
  simp only [hP2, hP] at IH ⊢
  clear hP hP2
  have hD0 : 1 ≤ D := by omega
  have hD1 : D ≤ 101 := by omega
  have HD : Hid (D - 1 = (d : Int)) := by unfold Hid; omega
  clear hD e0
  have e0 : (D == 0) = false := by simp; omega
  go_enter Tryd.func56, Tryd.ntmps56
  go_wp2_with fail
  refine (c_chance w0 w g sa sn sc (T + 0) zs 3 D1.out (by omega) (by omega)).mono ?_
  rintro e w3 ⟨⟨r3, rfl⟩, hd, hi⟩
  have D3 : Hid (Drw w0 w3 g sa sn sc (T + 1) zs) := hd
  have O3 : Hid (w3.ownsRow B 121 7 (.slice a L.length cap) L.length (cellsE L)) := own_inn O1.out hi hgB
  have F3 : Hid (FrB g B w w3) := F1.out.trans (FrB.ofInn hi)
  have l3 : B ≤ w3.heap.size := Nat.le_trans l1 hi.size
  clear hd hi D1 O1 F1
  cases r3
  · go_wp2_with fail
    refine (c_chance w0 w3 g sa sn sc (T + 1) zs 4 D3.out (by omega) (by omega)).mono ?_
    rintro e w4 ⟨⟨r4, rfl⟩, hd, hi⟩
    have D4 : Hid (Drw w0 w4 g sa sn sc (T + 2) zs) := hd
    have O4 : Hid (w4.ownsRow B 121 7 (.slice a L.length cap) L.length (cellsE L)) := own_inn O3.out hi hgB
    have F4 : Hid (FrB g B w w4) := F3.out.trans (FrB.ofInn hi)
    have l4 : B ≤ w4.heap.size := Nat.le_trans l3 hi.size
    clear hd hi D3 O3 F3
    cases r4
    · go_wp2_with fail
      refine (IH.out w4 (T + 2) L a cap (D - 1) HD.out D4.out O4.out l4 (by omega) (by omega)).mono ?_
      rintro e w5 ⟨p, L1, a1, c1, rfl, Hp, hcp, hlL1, ho, hd, hf⟩
      have D5 : Hid (Drw w0 w5 g sa sn sc (T + 2 + 8 * p.cnt) zs) := hd
      have O5 : Hid (w5.ownsRow B 121 7 (.slice a1 L1.length c1) L1.length (cellsE L1)) := ho
      have F5 : Hid (FrB g B w w5) := F4.out.trans hf
      have l5 : B ≤ w5.heap.size := Nat.le_trans l4 hf.size
      have HLL1 : Hid (L1.length = L.length + p.cnt) := hlL1
      have hbL1 : L1.length ≤ L.length + p.cnt := Nat.le_of_eq hlL1
      clear ho hd hf D4 O4 F4 hlL1
      have npp := cnt_pos p
      go_wp2_with fail
      refine (IH.out w5 (T + 2 + 8 * p.cnt) L1 a1 c1 (D - 1) HD.out D5.out O5.out l5 (by omega) (by omega)).mono ?_
      rintro e w6 ⟨q, L2, a2, c2, rfl, Hq, hcq, hlL2, ho, hd, hf⟩
      have D6 : Hid (Drw w0 w6 g sa sn sc (T + 2 + 8 * p.cnt + 8 * q.cnt) zs) := hd
      have O6 : Hid (w6.ownsRow B 121 7 (.slice a2 L2.length c2) L2.length (cellsE L2)) := ho
      have F6 : Hid (FrB g B w w6) := F5.out.trans hf
      have l6 : B ≤ w6.heap.size := Nat.le_trans l5 hf.size
      have HLL2 : Hid (L2.length = L1.length + q.cnt) := hlL2
      have hbL2 : L2.length ≤ L1.length + q.cnt := Nat.le_of_eq hlL2
      clear ho hd hf D5 O5 F5 hlL2
      have npq := cnt_pos q
      go_wp2_with fail
      refine (c_next w0 w6 g sa sn sc (T + 2 + 8 * p.cnt + 8 * q.cnt) zs 8 D6.out (by omega) (by omega)).mono ?_
      rintro e w7 ⟨⟨r7, rfl, p7, q7⟩, hd, hi⟩
      have D7 : Hid (Drw w0 w7 g sa sn sc (T + 2 + 8 * p.cnt + 8 * q.cnt + 1) zs) := hd
      have O7 : Hid (w7.ownsRow B 121 7 (.slice a2 L2.length c2) L2.length (cellsE L2)) := own_inn O6.out hi hgB
      have F7 : Hid (FrB g B w w7) := F6.out.trans (FrB.ofInn hi)
      have l7 : B ≤ w7.heap.size := Nat.le_trans l6 hi.size
      clear hd hi D6 O6 F6
      obtain ⟨VN, hVN⟩ : ∃ W, w7.alloc (.cells #[.int .i64 (6 + r7), .int .i64 ((L1.length : Int) - 1), .int .i64 ((L2.length : Int) - 1), .int .i64 0, .int .i64 0, .int .i64 0, .string ⟨#[]⟩] 121) = W := ⟨_, rfl⟩
      have bVN : Hid (Below w7.heap.size w7 VN) := by unfold Hid; rw [← hVN]; exact (Below.refl _ _).alloc (Nat.le_refl _) _
      have BVN : Hid (Box VN w7.heap.size 121 #[.int .i64 (6 + r7), .int .i64 ((L1.length : Int) - 1), .int .i64 ((L2.length : Int) - 1), .int .i64 0, .int .i64 0, .int .i64 0, .string ⟨#[]⟩]) := by unfold Hid; rw [← hVN]; exact Box.new _ _ _
      have OVN : Hid (VN.ownsRow B 121 7 (.slice a2 L2.length c2) L2.length (cellsE L2)) := own_below O7.out bVN.out
      have lVN : B ≤ VN.heap.size := by have := bVN.out.size; omega
      have GB : Hid (∀ x, ob a2 = some x → B ≤ x) := fun x e => (own_blkN O7.out x e).1
      go_wp2_with (at_builtin; refine app_any _ rfl (.tmp 58) (.tmp 67) 41 rfl B 121 iE (.agg #[.int .i64 0, .int .i64 0, .int .i64 0, .int .i64 0, .int .i64 0, .int .i64 0, .string ⟨#[]⟩]) 7 64 Tryd.underlying41 hiE.out hz0.out hz1.out hz2.out rfl (by omega) (.slice a2 L2.length c2) L2.length (cellsE L2) rfl OVN.out _ 1 1 (cE (⟨6 + r7, (L1.length : Int) - 1, (L2.length : Int) - 1, 0, 0, 0, ⟨#[]⟩⟩ : EN)) rfl (fun ex => by cases ex) rfl (news_boxE (⟨6 + r7, (L1.length : Int) - 1, (L2.length : Int) - 1, 0, 0, 0, ⟨#[]⟩⟩ : EN) BVN.out) (oneE _) (by unfold maxLen; omega) (by omega) lVN ?_; intro a9 c9 w9 ho9 hg9 hx9; rw [ob_slice] at hg9; have P9 : Hid (_ ∧ _ ∧ _) := nd_app bVN.out ho9 hg9 GB.out hgB D7.out; clear ho9 hg9 hx9)
      go_ret
      have E : L2 ++ [(⟨6 + r7, (L1.length : Int) - 1, (L2.length : Int) - 1, 0, 0, 0, ⟨#[]⟩⟩ : EN)] = L ++ nodesP (.bin (6 + r7) p q) L.length := by
        have e1 := Hp.out.1
        have e2 := Hq.out.1
        have n1 : L1.length = L.length + (nodesP p L.length).length := by rw [e1, List.length_append]
        rw [n1] at e2
        have n2 : L2.length = L.length + (nodesP p L.length).length + (nodesP q (L.length + (nodesP p L.length).length)).length := by rw [e2, List.length_append, n1]
        rw [n1, n2, e2, e1, nodesP]
        simp only [List.append_assoc]
      exact ⟨.bin (6 + r7) p q, L2 ++ [(⟨6 + r7, (L1.length : Int) - 1, (L2.length : Int) - 1, 0, 0, 0, ⟨#[]⟩⟩ : EN)], a9, c9, by rw [snocE]; rfl, ⟨E, by rw [PT.ok, Hp.out.2.1, Hq.out.2.1]; simp [inB]; omega, by have := Hp.out.2.2; have := Hq.out.2.2; simp [PT.dep]; omega⟩, by simp [PT.cnt] <;> omega, by rw [snocE, HLL2.out, HLL1.out]; simp [PT.cnt] <;> omega, P9.out.1, P9.out.2.1.mono (by simp [PT.cnt] <;> omega), F7.out.trans P9.out.2.2⟩
    · go_wp2_with fail
      refine (IH.out w4 (T + 2) L a cap (D - 1) HD.out D4.out O4.out l4 (by omega) (by omega)).mono ?_
      rintro e w5 ⟨p, L1, a1, c1, rfl, Hp, hcp, hlL1, ho, hd, hf⟩
      have D5 : Hid (Drw w0 w5 g sa sn sc (T + 2 + 8 * p.cnt) zs) := hd
      have O5 : Hid (w5.ownsRow B 121 7 (.slice a1 L1.length c1) L1.length (cellsE L1)) := ho
      have F5 : Hid (FrB g B w w5) := F4.out.trans hf
      have l5 : B ≤ w5.heap.size := Nat.le_trans l4 hf.size
      have HLL1 : Hid (L1.length = L.length + p.cnt) := hlL1
      have hbL1 : L1.length ≤ L.length + p.cnt := Nat.le_of_eq hlL1
      clear ho hd hf D4 O4 F4 hlL1
      have npp := cnt_pos p
      go_wp2_with fail
      refine (c_next w0 w5 g sa sn sc (T + 2 + 8 * p.cnt) zs 3 D5.out (by omega) (by omega)).mono ?_
      rintro e w6 ⟨⟨r6, rfl, p6, q6⟩, hd, hi⟩
      have D6 : Hid (Drw w0 w6 g sa sn sc (T + 2 + 8 * p.cnt + 1) zs) := hd
      have O6 : Hid (w6.ownsRow B 121 7 (.slice a1 L1.length c1) L1.length (cellsE L1)) := own_inn O5.out hi hgB
      have F6 : Hid (FrB g B w w6) := F5.out.trans (FrB.ofInn hi)
      have l6 : B ≤ w6.heap.size := Nat.le_trans l5 hi.size
      clear hd hi D5 O5 F5
      obtain ⟨VN, hVN⟩ : ∃ W, w6.alloc (.cells #[.int .i64 (3 + r6), .int .i64 ((L1.length : Int) - 1), .int .i64 (0), .int .i64 0, .int .i64 0, .int .i64 0, .string ⟨#[]⟩] 121) = W := ⟨_, rfl⟩
      have bVN : Hid (Below w6.heap.size w6 VN) := by unfold Hid; rw [← hVN]; exact (Below.refl _ _).alloc (Nat.le_refl _) _
      have BVN : Hid (Box VN w6.heap.size 121 #[.int .i64 (3 + r6), .int .i64 ((L1.length : Int) - 1), .int .i64 (0), .int .i64 0, .int .i64 0, .int .i64 0, .string ⟨#[]⟩]) := by unfold Hid; rw [← hVN]; exact Box.new _ _ _
      have OVN : Hid (VN.ownsRow B 121 7 (.slice a1 L1.length c1) L1.length (cellsE L1)) := own_below O6.out bVN.out
      have lVN : B ≤ VN.heap.size := by have := bVN.out.size; omega
      have GB : Hid (∀ x, ob a1 = some x → B ≤ x) := fun x e => (own_blkN O6.out x e).1
      go_wp2_with (at_builtin; refine app_any _ rfl (.tmp 35) (.tmp 43) 41 rfl B 121 iE (.agg #[.int .i64 0, .int .i64 0, .int .i64 0, .int .i64 0, .int .i64 0, .int .i64 0, .string ⟨#[]⟩]) 7 64 Tryd.underlying41 hiE.out hz0.out hz1.out hz2.out rfl (by omega) (.slice a1 L1.length c1) L1.length (cellsE L1) rfl OVN.out _ 1 1 (cE (⟨3 + r6, (L1.length : Int) - 1, 0, 0, 0, 0, ⟨#[]⟩⟩ : EN)) rfl (fun ex => by cases ex) rfl (news_boxE (⟨3 + r6, (L1.length : Int) - 1, 0, 0, 0, 0, ⟨#[]⟩⟩ : EN) BVN.out) (oneE _) (by unfold maxLen; omega) (by omega) lVN ?_; intro a9 c9 w9 ho9 hg9 hx9; rw [ob_slice] at hg9; have P9 : Hid (_ ∧ _ ∧ _) := nd_app bVN.out ho9 hg9 GB.out hgB D6.out; clear ho9 hg9 hx9)
      go_ret
      have E : L1 ++ [(⟨3 + r6, (L1.length : Int) - 1, 0, 0, 0, 0, ⟨#[]⟩⟩ : EN)] = L ++ nodesP (.una (3 + r6) p) L.length := by
        rw [Hp.out.1, nodesP, ← List.append_assoc, List.length_append]
      exact ⟨.una (3 + r6) p, L1 ++ [(⟨3 + r6, (L1.length : Int) - 1, 0, 0, 0, 0, ⟨#[]⟩⟩ : EN)], a9, c9, by rw [snocE]; rfl, ⟨E, by rw [PT.ok, Hp.out.2.1]; simp [inB]; omega, by have := Hp.out.2.2; simp [PT.dep]; omega⟩, by simp [PT.cnt] <;> omega, by rw [snocE, HLL1.out]; simp [PT.cnt] <;> omega, P9.out.1, P9.out.2.1.mono (by simp [PT.cnt] <;> omega), F6.out.trans P9.out.2.2⟩
  · go_wp2_with fail
    refine (c_chance w0 w3 g sa sn sc (T + 1) zs 2 D3.out (by omega) (by omega)).mono ?_
    rintro e w4 ⟨⟨r4, rfl⟩, hd, hi⟩
    have D4 : Hid (Drw w0 w4 g sa sn sc (T + 2) zs) := hd
    have O4 : Hid (w4.ownsRow B 121 7 (.slice a L.length cap) L.length (cellsE L)) := own_inn O3.out hi hgB
    have F4 : Hid (FrB g B w w4) := F3.out.trans (FrB.ofInn hi)
    have l4 : B ≤ w4.heap.size := Nat.le_trans l3 hi.size
    clear hd hi D3 O3 F3
    cases r4
    · go_wp2_with fail
      refine (c_value w0 w4 g sa sn sc (T + 2) zs D4.out (by omega)).mono ?_
      rintro e w5 ⟨⟨u, rfl, hu⟩, hd, hi⟩
      have HU : Hid (okV u = true) := hu
      have D5 : Hid (Drw w0 w5 g sa sn sc (T + 2 + 4) zs) := hd
      have O5 : Hid (w5.ownsRow B 121 7 (.slice a L.length cap) L.length (cellsE L)) := own_inn O4.out hi hgB
      have F5 : Hid (FrB g B w w5) := F4.out.trans (FrB.ofInn hi)
      have l5 : B ≤ w5.heap.size := Nat.le_trans l4 hi.size
      clear hd hi D4 O4 F4
      clear hu
      obtain ⟨VN, hVN⟩ : ∃ W, w5.alloc (.cells #[.int .i64 1, .int .i64 0, .int .i64 0, .int .i64 0, .int .i64 u.1, .int .i64 u.2.1, .string u.2.2] 121) = W := ⟨_, rfl⟩
      have bVN : Hid (Below w5.heap.size w5 VN) := by unfold Hid; rw [← hVN]; exact (Below.refl _ _).alloc (Nat.le_refl _) _
      have BVN : Hid (Box VN w5.heap.size 121 #[.int .i64 1, .int .i64 0, .int .i64 0, .int .i64 0, .int .i64 u.1, .int .i64 u.2.1, .string u.2.2]) := by unfold Hid; rw [← hVN]; exact Box.new _ _ _
      have OVN : Hid (VN.ownsRow B 121 7 (.slice a L.length cap) L.length (cellsE L)) := own_below O5.out bVN.out
      have lVN : B ≤ VN.heap.size := by have := bVN.out.size; omega
      have GB : Hid (∀ x, ob a = some x → B ≤ x) := fun x e => (own_blkN O5.out x e).1
      go_wp2_with (at_builtin; refine app_any _ rfl (.tmp 22) (.tmp 26) 41 rfl B 121 iE (.agg #[.int .i64 0, .int .i64 0, .int .i64 0, .int .i64 0, .int .i64 0, .int .i64 0, .string ⟨#[]⟩]) 7 64 Tryd.underlying41 hiE.out hz0.out hz1.out hz2.out rfl (by omega) (.slice a L.length cap) L.length (cellsE L) rfl OVN.out _ 1 1 (cE (⟨1, 0, 0, 0, u.1, u.2.1, u.2.2⟩ : EN)) rfl (fun ex => by cases ex) rfl (news_boxE (⟨1, 0, 0, 0, u.1, u.2.1, u.2.2⟩ : EN) BVN.out) (oneE _) (by unfold maxLen; omega) (by omega) lVN ?_; intro a9 c9 w9 ho9 hg9 hx9; rw [ob_slice] at hg9; have P9 : Hid (_ ∧ _ ∧ _) := nd_app bVN.out ho9 hg9 GB.out hgB D5.out; clear ho9 hg9 hx9)
      go_ret
      exact ⟨.con u.1 u.2.1 u.2.2, L ++ [(⟨1, 0, 0, 0, u.1, u.2.1, u.2.2⟩ : EN)], a9, c9, by rw [snocE]; rfl, ⟨rfl, HU.out, by simp [PT.dep]⟩, by simp [PT.cnt] <;> omega, by rw [snocE]; rfl, P9.out.1, P9.out.2.1.mono (by simp [PT.cnt] <;> omega), F5.out.trans P9.out.2.2⟩
    · go_wp2_with fail
      refine (c_next w0 w4 g sa sn sc (T + 2) zs 3 D4.out (by omega) (by omega)).mono ?_
      rintro e w5 ⟨⟨r5, rfl, p5, q5⟩, hd, hi⟩
      have D5 : Hid (Drw w0 w5 g sa sn sc (T + 3) zs) := hd
      have O5 : Hid (w5.ownsRow B 121 7 (.slice a L.length cap) L.length (cellsE L)) := own_inn O4.out hi hgB
      have F5 : Hid (FrB g B w w5) := F4.out.trans (FrB.ofInn hi)
      have l5 : B ≤ w5.heap.size := Nat.le_trans l4 hi.size
      clear hd hi D4 O4 F4
      have HC : Hid (inB r5 0 2 = true) := decide_eq_true (by omega)
      obtain ⟨VN, hVN⟩ : ∃ W, w5.alloc (.cells #[.int .i64 2, .int .i64 0, .int .i64 0, .int .i64 r5, .int .i64 0, .int .i64 0, .string ⟨#[]⟩] 121) = W := ⟨_, rfl⟩
      have bVN : Hid (Below w5.heap.size w5 VN) := by unfold Hid; rw [← hVN]; exact (Below.refl _ _).alloc (Nat.le_refl _) _
      have BVN : Hid (Box VN w5.heap.size 121 #[.int .i64 2, .int .i64 0, .int .i64 0, .int .i64 r5, .int .i64 0, .int .i64 0, .string ⟨#[]⟩]) := by unfold Hid; rw [← hVN]; exact Box.new _ _ _
      have OVN : Hid (VN.ownsRow B 121 7 (.slice a L.length cap) L.length (cellsE L)) := own_below O5.out bVN.out
      have lVN : B ≤ VN.heap.size := by have := bVN.out.size; omega
      have GB : Hid (∀ x, ob a = some x → B ≤ x) := fun x e => (own_blkN O5.out x e).1
      go_wp2_with (at_builtin; refine app_any _ rfl (.tmp 16) (.tmp 20) 41 rfl B 121 iE (.agg #[.int .i64 0, .int .i64 0, .int .i64 0, .int .i64 0, .int .i64 0, .int .i64 0, .string ⟨#[]⟩]) 7 64 Tryd.underlying41 hiE.out hz0.out hz1.out hz2.out rfl (by omega) (.slice a L.length cap) L.length (cellsE L) rfl OVN.out _ 1 1 (cE (⟨2, 0, 0, r5, 0, 0, ⟨#[]⟩⟩ : EN)) rfl (fun ex => by cases ex) rfl (news_boxE (⟨2, 0, 0, r5, 0, 0, ⟨#[]⟩⟩ : EN) BVN.out) (oneE _) (by unfold maxLen; omega) (by omega) lVN ?_; intro a9 c9 w9 ho9 hg9 hx9; rw [ob_slice] at hg9; have P9 : Hid (_ ∧ _ ∧ _) := nd_app bVN.out ho9 hg9 GB.out hgB D5.out; clear ho9 hg9 hx9)
      go_ret
      exact ⟨.col r5, L ++ [(⟨2, 0, 0, r5, 0, 0, ⟨#[]⟩⟩ : EN)], a9, c9, by rw [snocE]; rfl, ⟨rfl, HC.out, by simp [PT.dep]⟩, by simp [PT.cnt] <;> omega, by rw [snocE]; rfl, P9.out.1, P9.out.2.1.mono (by simp [PT.cnt] <;> omega), F5.out.trans P9.out.2.2⟩

end Go.Proofs.YtcgcaomaofppiaaDoor
namespace Go.Proofs.YtcgcaomaofppiaaDoor
open Go Go.RowKit
attribute [local go_sem ↓] Go.wp_at_zero Go.wp_at_succ

set_option linter.unusedVariables false
set_option linter.unusedSimpArgs false
theorem c_node (w0 : World) (g : Nat) (sa : Option Addr) (sn sc : Nat) (zs : List Int) (B : Nat) (hgB : g < B) : ∀ d, d ≤ 4 → ∀ (w : World) (T : Nat) (L : List EN) (a : Option Addr) (cap : Nat) (D : Int), D = ((d : Nat) : Int) → Drw w0 w g sa sn sc T zs → w.ownsRow B 121 7 (.slice a L.length cap) L.length (cellsE L) → B ≤ w.heap.size → T + 8 * 2 ^ (d + 1) ≤ 800000 → L.length + 2 ^ (d + 1) ≤ 1000 → Calls Tryd.prog 56 #[.pointer (some ⟨g, 0, none⟩), .slice a L.length cap, .int .i64 D] w fun e w' => NPost w0 w g sa sn sc T zs B L (d) e w'
  | 0, _ => c_node0 w0 g sa sn sc zs B hgB
  | d + 1, h => c_nodeS w0 g sa sn sc zs B hgB d (by omega) (c_node w0 g sa sn sc zs B hgB d (by omega))
theorem loadVarX {w : World} {r : Nat} {v0 : Value} (hb : Box w r 43 #[v0]) : (loadVar 43 ⟨r, 0, none⟩).run Tryd.prog w = .ok (.agg #[v0]) w := by
  have x0 : w.cell? ⟨r, 0, none⟩ = some v0 := hb.cell 0
  simp [go_sem, x0]
theorem retX {fn : Func} {p : Tmp} (h : fn.results = #[.cell p 43]) {R : Ending → World → Prop} {a : Act} {w : World} {r : Nat} {v0 : Value} (hp : a.tmps.getD p undef = .pointer (some ⟨r, 0, none⟩)) (hd : a.defers = []) (hb : Box w r 43 #[v0]) (hR : R (.returned (.agg #[v0])) w) : bodyPost Tryd.prog fn R .ret a w := by
  refine bodyPost_ret ?_ hd hR
  have hp' : a.tmps[p]?.getD undef = .pointer (some ⟨r, 0, none⟩) := by simpa using hp
  simp only [results, h]
  simp [hp', asAddr, loadVarX hb]
theorem own_emptyE {w : World} {B g : Nat} (h : Box w g 121 #[]) (hb : B ≤ g) : w.ownsRow B 121 7 (.slice (some ⟨g, 0, none⟩) 0 0) 0 [] :=
  ⟨by simp, .inr ⟨g, 0, #[], rfl, hb, h, Nat.le_refl _, Nat.zero_le _, by simp, by simp⟩⟩
def XPost (w : World) (B : Nat) (e : Ending) (w' : World) : Prop := ∃ (p : PT) (L : List EN) (a1 : Option Addr) (c1 : Nat), e = .returned (.agg #[.slice a1 L.length c1]) ∧ Hid (L = nodesP p 0 ∧ p.ok = true ∧ p.dep ≤ 5) ∧ p.cnt ≤ 31 ∧ L.length = p.cnt ∧ w'.ownsRow B 121 7 (.slice a1 L.length c1) L.length (cellsE L)
set_option maxRecDepth 100000 in
set_option maxHeartbeats 8000000 in
theorem c_expr (w0 w : World) (g : Nat) (sa : Option Addr) (sn sc T : Nat) (zs : List Int) (h : Drw w0 w g sa sn sc T zs) (hT : T ≤ 1000) :
    Calls Tryd.prog 31 #[.pointer (some ⟨g, 0, none⟩)] w fun e w' => XPost w w.heap.size e w' ∧ FrB g w.heap.size w w' := by
  have lg : g < w.heap.size := h.src.lt
  obtain ⟨w1, hw1⟩ : ∃ Q, (w.alloc (.cells #[.slice none 0 0] 43)).alloc (.cells #[] 121) = Q := ⟨_, rfl⟩
  have b1 : Below w.heap.size w w1 := by rw [← hw1]; exact ((Below.refl _ _).alloc (Nat.le_refl _) _).alloc (by simp) _
  have X1 : Hid (Box w1 w.heap.size 43 #[.slice none 0 0]) := by unfold Hid; rw [← hw1]; exact (Box.new _ _ _).alloc _
  have O1 : Hid (w1.ownsRow (w.heap.size + 1) 121 7 (.slice (some ⟨w.heap.size + 1, 0, none⟩) 0 0) 0 []) := by unfold Hid; rw [← hw1]; exact own_emptyE (Box.new2 _ _ _ _) (Nat.le_refl _)
  have s1 : w.heap.size + 1 < w1.heap.size := by rw [← hw1]; simp
  have D1 : Hid (Drw w0 w1 g sa sn sc T zs) := h.below b1
  have F1 : Hid (FrB g w.heap.size w w1) := FrB.ofBelow b1
  clear h b1
  go_enter Tryd.func31, Tryd.ntmps31
  go_wp2_with fail
  refine (c_next w0 w1 g sa sn sc T zs 4 D1.out (by omega) (by omega)).mono ?_
  rintro e w2 ⟨⟨r, rfl, p0, q0⟩, hd, hi⟩
  have D2 : Hid (Drw w0 w2 g sa sn sc (T + 1) zs) := hd
  have X2 : Hid (Box w2 w.heap.size 43 #[.slice none 0 0]) := X1.out.innO hi (.inr (by omega))
  have O2 : Hid (w2.ownsRow (w.heap.size + 1) 121 7 (.slice (some ⟨w.heap.size + 1, 0, none⟩) 0 0) 0 []) := own_inn O1.out hi (by omega)
  have F2 : Hid (FrB g w.heap.size w w2) := F1.out.trans (FrB.ofInn hi)
  have s2 : w.heap.size + 1 < w2.heap.size := Nat.lt_of_lt_of_le s1 hi.size
  clear hd hi D1 X1 O1 F1 hw1
  obtain ⟨d, hd0, hd4⟩ : ∃ d : Nat, 1 + r = (d : Int) ∧ d ≤ 4 := ⟨(1 + r).toNat, by omega, by omega⟩
  have hp : 2 ^ (d + 1) ≤ 32 := by
    have : d = 0 ∨ d = 1 ∨ d = 2 ∨ d = 3 ∨ d = 4 := by omega
    rcases this with rfl | rfl | rfl | rfl | rfl <;> decide
  have C2 := c_node w0 g sa sn sc zs (w.heap.size + 1) (by omega) d hd4 w2 (T + 1) [] (some ⟨w.heap.size + 1, 0, none⟩) 0 (1 + r) hd0 D2.out O2.out (by omega) (by omega) (by simp; omega)
  have HP : Hid (2 ^ (d + 1) ≤ 32 ∧ d ≤ 4) := ⟨hp, hd4⟩
  rw [show ([] : List EN).length = 0 from rfl] at C2
  clear hd0 hd4 hp O2 D2
  go_wp2_with fail
  refine C2.mono ?_
  rintro e w3 ⟨p, L, a1, c1, rfl, Hp, hc, hl, ho, hd, hf⟩
  have X3 : Box w3 w.heap.size 43 #[.slice none 0 0] := (hf.block _ X2.out.lt (by omega) (by omega)).trans X2.out
  have F3 : FrB g w.heap.size w w3 := F2.out.trans ⟨hf.os, hf.tape, hf.output, hf.size, fun k h1 h2 h3 => hf.block k h1 h2 (by omega)⟩
  have x0 : w3.cell? ⟨w.heap.size, 0, none⟩ = some (.slice none 0 0) := X3.cell 0
  have tx := X3.thaw 0
  have X4 : Hid (Box (w3.setCell ⟨w.heap.size, 0, none⟩ (.slice a1 L.length c1)) w.heap.size 43 #[.slice a1 L.length c1]) := X3.set 0 _
  have Q4 : Hid (XPost w w.heap.size (.returned (.agg #[.slice a1 L.length c1])) (w3.setCell ⟨w.heap.size, 0, none⟩ (.slice a1 L.length c1))) := by
    refine ⟨p, L, a1, c1, rfl, ⟨by have := Hp.out.1; simpa using this, Hp.out.2.1, by have := Hp.out.2.2; have := HP.out.2; omega⟩, by have := HP.out.1; omega, by simpa using hl, (own_same ho fun x e => ?_).down (by omega)⟩
    rw [ob_slice] at e
    have := own_blkN ho x e
    exact Below.heap_setCell _ _ _ _ (by show x ≠ w.heap.size; omega)
  have F4 : Hid (FrB g w.heap.size w (w3.setCell ⟨w.heap.size, 0, none⟩ (.slice a1 L.length c1))) := ⟨F3.os, F3.tape, F3.output, by simpa using F3.size, fun k h1 h2 h3 => (Below.heap_setCell _ _ _ _ (by show k ≠ w.heap.size; omega)).trans (F3.block k h1 h2 h3)⟩
  clear ho hd hf F3 C2 Hp hc hl X3 X2 F2 HP
  go_wp2
  exact retX Tryd.results31 rfl rfl X4.out ⟨Q4.out, F4.out⟩
set_option maxRecDepth 100000 in
set_option maxHeartbeats 8000000 in
theorem c_exprOf (a : Option Addr) (n c : Nat) (zs : List Int) (w : World) (hr : RdV w a n (zs.map (Value.int .u8))) (hz : ∀ z ∈ zs, 0 ≤ z ∧ z < 256) (hn : n ≤ 1048576) :
    Calls Tryd.prog 13 #[.slice a n c] w fun e w' => XPost w w.heap.size e w' ∧ Below w.heap.size w w' := by
  obtain ⟨w1, hw1⟩ : ∃ Q, w.alloc (.cells #[.slice none 0 0] 43) = Q := ⟨_, rfl⟩
  have b1 : Below w.heap.size w w1 := by rw [← hw1]; exact (Below.refl _ _).alloc (Nat.le_refl _) _
  have X1 : Hid (Box w1 w.heap.size 43 #[.slice none 0 0]) := by unfold Hid; rw [← hw1]; exact Box.new _ _ _
  have B1 : Hid (Below w.heap.size w w1) := b1
  have C1 := c_source a n c zs w1 (hr.below b1) hz hn
  clear hr b1 hz
  go_enter Tryd.func13, Tryd.ntmps13
  go_wp2_with fail
  refine C1.mono ?_
  rintro e w2 ⟨rfl, hd, hb⟩
  have B2 : Hid (Below w.heap.size w w2) := B1.out.trans (hb.mono B1.out.size)
  have X2 : Hid (Box w2 w.heap.size 43 #[.slice none 0 0]) := X1.out.belowS hb
  have l1 : w.heap.size < w1.heap.size := X1.out.lt
  have l2 : w1.heap.size ≤ w2.heap.size := hb.size
  have C2 := c_expr w1 w2 w1.heap.size a n c 0 zs hd (by omega)
  clear hb hd B1 X1 C1 hw1
  go_wp2_with fail
  refine C2.mono ?_
  rintro e w3 ⟨⟨p, L, a1, c1, rfl, Hp, hc, hl, ho⟩, hf⟩
  have X3 : Box w3 w.heap.size 43 #[.slice none 0 0] := (hf.block _ X2.out.lt (by omega) (by omega)).trans X2.out
  have B3 : Below w.heap.size w w3 := ⟨hf.os.trans B2.out.os, hf.tape.trans B2.out.tape, hf.output.trans B2.out.output, Nat.le_trans B2.out.size hf.size, fun j hj => (hf.block j (by omega) (by omega) (by omega)).trans (B2.out.block j hj)⟩
  have x0 : w3.cell? ⟨w.heap.size, 0, none⟩ = some (.slice none 0 0) := X3.cell 0
  have tx := X3.thaw 0
  have X4 : Hid (Box (w3.setCell ⟨w.heap.size, 0, none⟩ (.slice a1 L.length c1)) w.heap.size 43 #[.slice a1 L.length c1]) := X3.set 0 _
  have Q4 : Hid (XPost w w.heap.size (.returned (.agg #[.slice a1 L.length c1])) (w3.setCell ⟨w.heap.size, 0, none⟩ (.slice a1 L.length c1))) := by
    refine ⟨p, L, a1, c1, rfl, Hp, hc, hl, (own_same ho fun x e => ?_).down (by omega)⟩
    rw [ob_slice] at e
    have := own_blkN ho x e
    exact Below.heap_setCell _ _ _ _ (by show x ≠ w.heap.size; omega)
  have B4 : Hid (Below w.heap.size w (w3.setCell ⟨w.heap.size, 0, none⟩ (.slice a1 L.length c1))) := B3.setCell (by simp) _
  clear ho hf B3 C2 Hp hc hl X3 X2 B2
  go_wp2
  exact retX Tryd.results13 rfl rfl X4.out ⟨Q4.out, B4.out⟩

end Go.Proofs.YtcgcaomaofppiaaDoor
namespace Go.Proofs.YtcgcaomaofppiaaDoor
open Go Go.RowKit
attribute [local go_sem ↓] Go.wp_at_zero Go.wp_at_succ

set_option linter.unusedVariables false
set_option linter.unusedSimpArgs false
def lst3 : List ByteArray := [⟨#[97]⟩, ⟨#[98]⟩, ⟨#[110, 97, 109, 101]⟩]
theorem lst3_ok (s : ByteArray) (h : s ∈ lst3) : okV (2, 0, s) = true := by
  unfold lst3 at h
  simp only [List.mem_cons, List.not_mem_nil, or_false] at h
  rcases h with rfl | rfl | rfl <;> decide
theorem lst3_rd (w : World) : RdV (w.alloc (.cells #[.string ⟨#[97]⟩, .string ⟨#[98]⟩, .string ⟨#[110, 97, 109, 101]⟩] 9)) (some ⟨w.heap.size, 0, none⟩) 3 (lst3.map Value.string) :=
  RdV.own (World.ownsRow_lit (base := w.heap.size) (e := 9) (size := 1) w #[.string ⟨#[97]⟩, .string ⟨#[98]⟩, .string ⟨#[110, 97, 109, 101]⟩] 3 (Nat.le_refl _) (by unfold maxLen; omega) rfl)
theorem loadVarR {w : World} {r : Nat} {v0 v1 v2 v3 v4 v5 v6 : Value} (hb : Box w r 35 #[v0, v1, v2, v3, v4, v5, v6]) : (loadVar 35 ⟨r, 0, none⟩).run Tryd.prog w = .ok (.agg #[v0, v1, v2, v3, v4, v5, v6]) w := by
  obtain ⟨x0, x1, x2, x3, x4, x5, x6⟩ := box7 hb
  simp [go_sem, x0, x1, x2, x3, x4, x5, x6]
theorem retR {fn : Func} {p : Tmp} (h : fn.results = #[.cell p 35]) {R : Ending → World → Prop} {a : Act} {w : World} {r : Nat} {v0 v1 v2 v3 v4 v5 v6 : Value} (hp : a.tmps.getD p undef = .pointer (some ⟨r, 0, none⟩)) (hd : a.defers = []) (hb : Box w r 35 #[v0, v1, v2, v3, v4, v5, v6]) (hR : R (.returned (.agg #[v0, v1, v2, v3, v4, v5, v6])) w) : bodyPost Tryd.prog fn R .ret a w := by
  refine bodyPost_ret ?_ hd hR
  have hp' : a.tmps[p]?.getD undef = .pointer (some ⟨r, 0, none⟩) := by simpa using hp
  simp only [results, h]
  simp [hp', asAddr, loadVarR hb]
def RPost (e : Ending) : Prop := ∃ (i : Int) (u v : VV), e = .returned (.agg #[.int .i64 i, .int .i64 u.1, .int .i64 u.2.1, .string u.2.2, .int .i64 v.1, .int .i64 v.2.1, .string v.2.2]) ∧ rowB i u v = true
set_option maxRecDepth 100000 in
set_option maxHeartbeats 8000000 in
theorem c_row (w0 w : World) (g : Nat) (a : Option Addr) (n c T : Nat) (zs : List Int) (h : Drw w0 w g a n c T zs) (hT : T ≤ 1000) :
    Calls Tryd.prog 32 #[.pointer (some ⟨g, 0, none⟩)] w fun e w' => RPost e ∧ Inn g (g + 1) w w' := by
  have lg : g < w.heap.size := h.src.lt
  have lb : w0.heap.size ≤ g := h.behind
  obtain ⟨w1, hw1⟩ : ∃ Q, w.alloc (.cells #[.int .i64 0, .int .i64 0, .int .i64 0, .string ⟨#[]⟩, .int .i64 0, .int .i64 0, .string ⟨#[]⟩] 35) = Q := ⟨_, rfl⟩
  have b1 : Below w.heap.size w w1 := by rw [← hw1]; exact (Below.refl _ _).alloc (Nat.le_refl _) _
  have X1 : Hid (Box w1 w.heap.size 35 #[.int .i64 0, .int .i64 0, .int .i64 0, .string ⟨#[]⟩, .int .i64 0, .int .i64 0, .string ⟨#[]⟩]) := by unfold Hid; rw [← hw1]; exact Box.new _ _ _
  have D1 : Hid (Drw w0 w1 g a n c (T + 0) zs) := h.below b1
  have I1 : Hid (Inn g (g + 1) w w1) := Inn.ofB b1
  clear h b1
  go_enter Tryd.func32, Tryd.ntmps32
  go_wp2_with fail
  refine (c_next w0 w1 g a n c (T + 0) zs 6 D1.out (by omega) (by omega)).mono ?_
  rintro e w2 ⟨⟨r2, rfl, p2, q2⟩, hd, hi⟩
  have D2 : Hid (Drw w0 w2 g a n c (T + 1) zs) := hd
  have I2 : Hid (Inn g (g + 1) w w2) := I1.out.trans hi
  have X2 : Hid (Box w2 w.heap.size 35 #[.int .i64 0, .int .i64 0, .int .i64 0, .string ⟨#[]⟩, .int .i64 0, .int .i64 0, .string ⟨#[]⟩]) := X1.out.innO hi (.inr (by omega))
  clear hd hi D1 I1 X1
  go_wp2_with fail
  refine (c_value w0 w2 g a n c (T + 1) zs D2.out (by omega)).mono ?_
  rintro e w3 ⟨⟨u, rfl, hu⟩, hd, hi⟩
  have HU : Hid (okV u = true) := hu
  clear hu
  have D3 : Hid (Drw w0 w3 g a n c (T + 1 + 4) zs) := hd
  have I3 : Hid (Inn g (g + 1) w w3) := I2.out.trans hi
  have X3 : Hid (Box w3 w.heap.size 35 #[.int .i64 0, .int .i64 0, .int .i64 0, .string ⟨#[]⟩, .int .i64 0, .int .i64 0, .string ⟨#[]⟩]) := X2.out.innO hi (.inr (by omega))
  clear hd hi D2 I2 X2
  go_wp2_with fail
  refine (c_value w0 w3 g a n c (T + 5) zs D3.out (by omega)).mono ?_
  rintro e w4 ⟨⟨v, rfl, hv⟩, hd, hi⟩
  have HV : Hid (okV v = true) := hv
  clear hv
  have D4 : Hid (Drw w0 w4 g a n c (T + 5 + 4) zs) := hd
  have I4 : Hid (Inn g (g + 1) w w4) := I3.out.trans hi
  have X4 : Hid (Box w4 w.heap.size 35 #[.int .i64 0, .int .i64 0, .int .i64 0, .string ⟨#[]⟩, .int .i64 0, .int .i64 0, .string ⟨#[]⟩]) := X3.out.innO hi (.inr (by omega))
  clear hd hi D3 I3 X3
  obtain ⟨w5, hw5⟩ : ∃ Q, w4.alloc (.cells #[.int .i64 r2, .int .i64 u.1, .int .i64 u.2.1, .string u.2.2, .int .i64 v.1, .int .i64 v.2.1, .string v.2.2] 35) = Q := ⟨_, rfl⟩
  have b : Below w4.heap.size w4 w5 := by rw [← hw5]; exact (Below.refl _ _).alloc (Nat.le_refl _) _
  have Y5 : Hid (Box w5 w4.heap.size 35 #[.int .i64 r2, .int .i64 u.1, .int .i64 u.2.1, .string u.2.2, .int .i64 v.1, .int .i64 v.2.1, .string v.2.2]) := by unfold Hid; rw [← hw5]; exact Box.new _ _ _
  have l4 : w.heap.size < w4.heap.size := X4.out.lt
  have D5 : Hid (Drw w0 w5 g a n c (T + 9) zs) := D4.out.below b
  have I5 : Hid (Inn g (g + 1) w w5) := I4.out.trans (Inn.ofB b)
  have X5 : Hid (Box w5 w.heap.size 35 #[.int .i64 0, .int .i64 0, .int .i64 0, .string ⟨#[]⟩, .int .i64 0, .int .i64 0, .string ⟨#[]⟩]) := X4.out.belowS b
  clear b D4 I4 X4
  by_cases ku : u.1 = 2
  · have eu : (u.1 == 2) = true := by simp [ku]
    clear ku
    obtain ⟨y0, y1, y2, y3, y4, y5, y6⟩ := box7 Y5.out
    go_wp2_with fail
    refine (c_next w0 w5 g a n c (T + 9) zs 9 D5.out (by omega) (by omega)).mono ?_
    rintro e w6 ⟨⟨r6, rfl, p6, q6⟩, hd, hi⟩
    have D6 : Hid (Drw w0 w6 g a n c (T + 10) zs) := hd
    have I6 : Hid (Inn g (g + 1) w w6) := I5.out.trans hi
    have X6 : Hid (Box w6 w.heap.size 35 #[.int .i64 0, .int .i64 0, .int .i64 0, .string ⟨#[]⟩, .int .i64 0, .int .i64 0, .string ⟨#[]⟩]) := X5.out.innO hi (.inr (by omega))
    have Y6 : Hid (Box w6 w4.heap.size 35 #[.int .i64 r2, .int .i64 u.1, .int .i64 u.2.1, .string u.2.2, .int .i64 v.1, .int .i64 v.2.1, .string v.2.2]) := Y5.out.innO hi (.inr (by omega))
    clear hd hi D5 I5 X5 Y5
    clear y0 y1 y2 y3 y4 y5 y6 hw5
    have z1 := Y6.out.thaw 1
    have z2 := Y6.out.thaw 2
    have z3 := Y6.out.thaw 3
    obtain ⟨y0, y1, y2, y3, y4, y5, y6⟩ := box7 Y6.out
    obtain ⟨w7, hw7⟩ : ∃ Q, (((w6.setCell ⟨w4.heap.size, 1, none⟩ (.int .i64 1)).setCell ⟨w4.heap.size, 2, none⟩ (.int .i64 r6)).setCell ⟨w4.heap.size, 3, none⟩ (.string ⟨#[]⟩)) = Q := ⟨_, rfl⟩
    have iN : Inn w4.heap.size (w4.heap.size + 1) w6 w7 := by rw [← hw7]; exact ((((((Inn.refl _ _ _).set ⟨w4.heap.size, 1, none⟩ (.int .i64 1) (by simp))).set ⟨w4.heap.size, 2, none⟩ (.int .i64 r6) (by simp))).set ⟨w4.heap.size, 3, none⟩ (.string ⟨#[]⟩) (by simp))
    have Y7 : Hid (Box w7 w4.heap.size 35 #[.int .i64 r2, .int .i64 ((1, r6, ⟨#[]⟩) : VV).1, .int .i64 ((1, r6, ⟨#[]⟩) : VV).2.1, .string ((1, r6, ⟨#[]⟩) : VV).2.2, .int .i64 v.1, .int .i64 v.2.1, .string v.2.2]) := by unfold Hid; rw [← hw7]; exact (((Y6.out.set 1 (.int .i64 1)).set 2 (.int .i64 r6)).set 3 (.string ⟨#[]⟩))
    have X7 : Hid (Box w7 w.heap.size 35 #[.int .i64 0, .int .i64 0, .int .i64 0, .string ⟨#[]⟩, .int .i64 0, .int .i64 0, .string ⟨#[]⟩]) := by unfold Hid; rw [← hw7]; exact (((X6.out.setOther ⟨w4.heap.size, 1, none⟩ (.int .i64 1) (by simp; omega)).setOther ⟨w4.heap.size, 2, none⟩ (.int .i64 r6) (by simp; omega)).setOther ⟨w4.heap.size, 3, none⟩ (.string ⟨#[]⟩) (by simp; omega))
    have D7 : Hid (Drw w0 w7 g a n c (T + 10) zs) := D6.out.inn iN (.inl (by omega)) (by omega)
    have I7 : Hid (Inn g (g + 1) w w7) := inn_fresh I6.out iN (by omega)
    clear iN D6 I6 X6 Y6
    by_cases kv : v.1 = 1
    · have ev : (v.1 == 1) = true := by simp [kv]
      obtain ⟨y0, y1, y2, y3, y4, y5, y6⟩ := box7 Y7.out
      obtain ⟨w8, hw8⟩ : ∃ Q, w7.alloc (.cells #[.string ⟨#[97]⟩, .string ⟨#[98]⟩, .string ⟨#[110, 97, 109, 101]⟩] 9) = Q := ⟨_, rfl⟩
      have b : Below w7.heap.size w7 w8 := by rw [← hw8]; exact (Below.refl _ _).alloc (Nat.le_refl _) _
      have RL : Hid (RdV w8 (some ⟨w7.heap.size, 0, none⟩) 3 (lst3.map Value.string)) := by unfold Hid; rw [← hw8]; exact lst3_rd w7
      have lh7 : w4.heap.size < w7.heap.size := Y7.out.lt
      have D8 : Hid (Drw w0 w8 g a n c (T + 10) zs) := D7.out.below b
      have I8 : Hid (Inn g (g + 1) w w8) := I7.out.trans (Inn.ofB b)
      have X8 : Hid (Box w8 w.heap.size 35 #[.int .i64 0, .int .i64 0, .int .i64 0, .string ⟨#[]⟩, .int .i64 0, .int .i64 0, .string ⟨#[]⟩]) := X7.out.belowS b
      have Y8 : Hid (Box w8 w4.heap.size 35 #[.int .i64 r2, .int .i64 ((1, r6, ⟨#[]⟩) : VV).1, .int .i64 ((1, r6, ⟨#[]⟩) : VV).2.1, .string ((1, r6, ⟨#[]⟩) : VV).2.2, .int .i64 v.1, .int .i64 v.2.1, .string v.2.2]) := Y7.out.belowS b
      clear b D7 I7 X7 Y7
      clear kv
      go_wp2_with fail
      refine (c_pick w0 w8 g a n c (T + 10) zs (some ⟨w7.heap.size, 0, none⟩) 3 3 lst3 D8.out (by omega) (by omega) RL.out (fun b e => by have e1 : w7.heap.size = b := Option.some.inj e; omega)).mono ?_
      rintro e w9 ⟨⟨s, hs, rfl⟩, hd, hi⟩
      have HS : Hid (okV (2, 0, s) = true) := lst3_ok s hs
      have D9 : Hid (Drw w0 w9 g a n c (T + 10 + 1) zs) := hd
      have I9 : Hid (Inn g (g + 1) w w9) := I8.out.trans hi
      have X9 : Hid (Box w9 w.heap.size 35 #[.int .i64 0, .int .i64 0, .int .i64 0, .string ⟨#[]⟩, .int .i64 0, .int .i64 0, .string ⟨#[]⟩]) := X8.out.innO hi (.inr (by omega))
      have Y9 : Hid (Box w9 w4.heap.size 35 #[.int .i64 r2, .int .i64 ((1, r6, ⟨#[]⟩) : VV).1, .int .i64 ((1, r6, ⟨#[]⟩) : VV).2.1, .string ((1, r6, ⟨#[]⟩) : VV).2.2, .int .i64 v.1, .int .i64 v.2.1, .string v.2.2]) := Y8.out.innO hi (.inr (by omega))
      clear hd hi D8 I8 X8 Y8
      clear hs RL hw8 y0 y1 y2 y3 y4 y5 y6
      have z1 := Y9.out.thaw 4
      have z2 := Y9.out.thaw 5
      have z3 := Y9.out.thaw 6
      obtain ⟨y0, y1, y2, y3, y4, y5, y6⟩ := box7 Y9.out
      obtain ⟨w10, hw10⟩ : ∃ Q, (((w9.setCell ⟨w4.heap.size, 4, none⟩ (.int .i64 2)).setCell ⟨w4.heap.size, 5, none⟩ (.int .i64 0)).setCell ⟨w4.heap.size, 6, none⟩ (.string s)) = Q := ⟨_, rfl⟩
      have iN : Inn w4.heap.size (w4.heap.size + 1) w9 w10 := by rw [← hw10]; exact ((((((Inn.refl _ _ _).set ⟨w4.heap.size, 4, none⟩ (.int .i64 2) (by simp))).set ⟨w4.heap.size, 5, none⟩ (.int .i64 0) (by simp))).set ⟨w4.heap.size, 6, none⟩ (.string s) (by simp))
      have Y10 : Hid (Box w10 w4.heap.size 35 #[.int .i64 r2, .int .i64 ((1, r6, ⟨#[]⟩) : VV).1, .int .i64 ((1, r6, ⟨#[]⟩) : VV).2.1, .string ((1, r6, ⟨#[]⟩) : VV).2.2, .int .i64 ((2, 0, s) : VV).1, .int .i64 ((2, 0, s) : VV).2.1, .string ((2, 0, s) : VV).2.2]) := by unfold Hid; rw [← hw10]; exact (((Y9.out.set 4 (.int .i64 2)).set 5 (.int .i64 0)).set 6 (.string s))
      have X10 : Hid (Box w10 w.heap.size 35 #[.int .i64 0, .int .i64 0, .int .i64 0, .string ⟨#[]⟩, .int .i64 0, .int .i64 0, .string ⟨#[]⟩]) := by unfold Hid; rw [← hw10]; exact (((X9.out.setOther ⟨w4.heap.size, 4, none⟩ (.int .i64 2) (by simp; omega)).setOther ⟨w4.heap.size, 5, none⟩ (.int .i64 0) (by simp; omega)).setOther ⟨w4.heap.size, 6, none⟩ (.string s) (by simp; omega))
      have D10 : Hid (Drw w0 w10 g a n c (T + 10 + 1) zs) := D9.out.inn iN (.inl (by omega)) (by omega)
      have I10 : Hid (Inn g (g + 1) w w10) := inn_fresh I9.out iN (by omega)
      clear iN D9 I9 X9 Y9
      obtain ⟨y0, y1, y2, y3, y4, y5, y6⟩ := box7 Y10.out
      obtain ⟨x0, x1, x2, x3, x4, x5, x6⟩ := box7 X10.out
      have t0 := X10.out.thaw 0
      have t1 := X10.out.thaw 1
      have t2 := X10.out.thaw 2
      have t3 := X10.out.thaw 3
      have t4 := X10.out.thaw 4
      have t5 := X10.out.thaw 5
      have t6 := X10.out.thaw 6
      obtain ⟨N, hN⟩ : ∃ Q, (((((((w10.setCell ⟨w.heap.size, 0, none⟩ (.int .i64 r2)).setCell ⟨w.heap.size, 1, none⟩ (.int .i64 ((1, r6, ⟨#[]⟩) : VV).1)).setCell ⟨w.heap.size, 2, none⟩ (.int .i64 ((1, r6, ⟨#[]⟩) : VV).2.1)).setCell ⟨w.heap.size, 3, none⟩ (.string ((1, r6, ⟨#[]⟩) : VV).2.2)).setCell ⟨w.heap.size, 4, none⟩ (.int .i64 ((2, 0, s) : VV).1)).setCell ⟨w.heap.size, 5, none⟩ (.int .i64 ((2, 0, s) : VV).2.1)).setCell ⟨w.heap.size, 6, none⟩ (.string ((2, 0, s) : VV).2.2)) = Q := ⟨_, rfl⟩
      have XN : Hid (Box N w.heap.size 35 #[.int .i64 r2, .int .i64 ((1, r6, ⟨#[]⟩) : VV).1, .int .i64 ((1, r6, ⟨#[]⟩) : VV).2.1, .string ((1, r6, ⟨#[]⟩) : VV).2.2, .int .i64 ((2, 0, s) : VV).1, .int .i64 ((2, 0, s) : VV).2.1, .string ((2, 0, s) : VV).2.2]) := by unfold Hid; rw [← hN]; exact put7_box X10.out _ _ _ _ _ _ _
      have iN : Inn w.heap.size (w.heap.size + 1) w10 N := by rw [← hN]; exact ((((((((((((((Inn.refl _ _ _).set ⟨w.heap.size, 0, none⟩ (.int .i64 r2) (by simp))).set ⟨w.heap.size, 1, none⟩ (.int .i64 ((1, r6, ⟨#[]⟩) : VV).1) (by simp))).set ⟨w.heap.size, 2, none⟩ (.int .i64 ((1, r6, ⟨#[]⟩) : VV).2.1) (by simp))).set ⟨w.heap.size, 3, none⟩ (.string ((1, r6, ⟨#[]⟩) : VV).2.2) (by simp))).set ⟨w.heap.size, 4, none⟩ (.int .i64 ((2, 0, s) : VV).1) (by simp))).set ⟨w.heap.size, 5, none⟩ (.int .i64 ((2, 0, s) : VV).2.1) (by simp))).set ⟨w.heap.size, 6, none⟩ (.string ((2, 0, s) : VV).2.2) (by simp))
      have IN' : Hid (Inn g (g + 1) w N) := inn_fresh I10.out iN (Nat.le_refl _)
      have OK : Hid (rowB r2 ((1, r6, ⟨#[]⟩) : VV) ((2, 0, s) : VV) = true) := row_yes (decide_eq_true (by omega)) (okV_num (by omega) (by omega)) HS.out (by show ¬ (1 : Int) = 2; decide) (by show ¬ (2 : Int) = 1; decide)
      clear iN D10 I10 X10 Y10
      go_wp2
      exact retR Tryd.results32 rfl rfl XN.out ⟨⟨r2, ((1, r6, ⟨#[]⟩) : VV), ((2, 0, s) : VV), rfl, OK.out⟩, IN'.out⟩
    · have ev : (v.1 == 1) = false := by simp [kv]
      have KV : Hid (¬ v.1 = 1) := kv
      clear kv
      obtain ⟨y0, y1, y2, y3, y4, y5, y6⟩ := box7 Y7.out
      obtain ⟨x0, x1, x2, x3, x4, x5, x6⟩ := box7 X7.out
      have t0 := X7.out.thaw 0
      have t1 := X7.out.thaw 1
      have t2 := X7.out.thaw 2
      have t3 := X7.out.thaw 3
      have t4 := X7.out.thaw 4
      have t5 := X7.out.thaw 5
      have t6 := X7.out.thaw 6
      obtain ⟨N, hN⟩ : ∃ Q, (((((((w7.setCell ⟨w.heap.size, 0, none⟩ (.int .i64 r2)).setCell ⟨w.heap.size, 1, none⟩ (.int .i64 ((1, r6, ⟨#[]⟩) : VV).1)).setCell ⟨w.heap.size, 2, none⟩ (.int .i64 ((1, r6, ⟨#[]⟩) : VV).2.1)).setCell ⟨w.heap.size, 3, none⟩ (.string ((1, r6, ⟨#[]⟩) : VV).2.2)).setCell ⟨w.heap.size, 4, none⟩ (.int .i64 v.1)).setCell ⟨w.heap.size, 5, none⟩ (.int .i64 v.2.1)).setCell ⟨w.heap.size, 6, none⟩ (.string v.2.2)) = Q := ⟨_, rfl⟩
      have XN : Hid (Box N w.heap.size 35 #[.int .i64 r2, .int .i64 ((1, r6, ⟨#[]⟩) : VV).1, .int .i64 ((1, r6, ⟨#[]⟩) : VV).2.1, .string ((1, r6, ⟨#[]⟩) : VV).2.2, .int .i64 v.1, .int .i64 v.2.1, .string v.2.2]) := by unfold Hid; rw [← hN]; exact put7_box X7.out _ _ _ _ _ _ _
      have iN : Inn w.heap.size (w.heap.size + 1) w7 N := by rw [← hN]; exact ((((((((((((((Inn.refl _ _ _).set ⟨w.heap.size, 0, none⟩ (.int .i64 r2) (by simp))).set ⟨w.heap.size, 1, none⟩ (.int .i64 ((1, r6, ⟨#[]⟩) : VV).1) (by simp))).set ⟨w.heap.size, 2, none⟩ (.int .i64 ((1, r6, ⟨#[]⟩) : VV).2.1) (by simp))).set ⟨w.heap.size, 3, none⟩ (.string ((1, r6, ⟨#[]⟩) : VV).2.2) (by simp))).set ⟨w.heap.size, 4, none⟩ (.int .i64 v.1) (by simp))).set ⟨w.heap.size, 5, none⟩ (.int .i64 v.2.1) (by simp))).set ⟨w.heap.size, 6, none⟩ (.string v.2.2) (by simp))
      have IN' : Hid (Inn g (g + 1) w N) := inn_fresh I7.out iN (Nat.le_refl _)
      have OK : Hid (rowB r2 ((1, r6, ⟨#[]⟩) : VV) v = true) := row_yes (decide_eq_true (by omega)) (okV_num (by omega) (by omega)) HV.out (by show ¬ (1 : Int) = 2; decide) KV.out
      clear iN D7 I7 X7 Y7
      go_wp2
      exact retR Tryd.results32 rfl rfl XN.out ⟨⟨r2, ((1, r6, ⟨#[]⟩) : VV), v, rfl, OK.out⟩, IN'.out⟩
  · have eu : (u.1 == 2) = false := by simp [ku]
    have KU : Hid (¬ u.1 = 2) := ku
    clear ku
    by_cases kv : v.1 = 1
    · have ev : (v.1 == 1) = true := by simp [kv]
      obtain ⟨y0, y1, y2, y3, y4, y5, y6⟩ := box7 Y5.out
      obtain ⟨w8, hw8⟩ : ∃ Q, w5.alloc (.cells #[.string ⟨#[97]⟩, .string ⟨#[98]⟩, .string ⟨#[110, 97, 109, 101]⟩] 9) = Q := ⟨_, rfl⟩
      have b : Below w5.heap.size w5 w8 := by rw [← hw8]; exact (Below.refl _ _).alloc (Nat.le_refl _) _
      have RL : Hid (RdV w8 (some ⟨w5.heap.size, 0, none⟩) 3 (lst3.map Value.string)) := by unfold Hid; rw [← hw8]; exact lst3_rd w5
      have lh5 : w4.heap.size < w5.heap.size := Y5.out.lt
      have D8 : Hid (Drw w0 w8 g a n c (T + 9) zs) := D5.out.below b
      have I8 : Hid (Inn g (g + 1) w w8) := I5.out.trans (Inn.ofB b)
      have X8 : Hid (Box w8 w.heap.size 35 #[.int .i64 0, .int .i64 0, .int .i64 0, .string ⟨#[]⟩, .int .i64 0, .int .i64 0, .string ⟨#[]⟩]) := X5.out.belowS b
      have Y8 : Hid (Box w8 w4.heap.size 35 #[.int .i64 r2, .int .i64 u.1, .int .i64 u.2.1, .string u.2.2, .int .i64 v.1, .int .i64 v.2.1, .string v.2.2]) := Y5.out.belowS b
      clear b D5 I5 X5 Y5
      clear kv
      go_wp2_with fail
      refine (c_pick w0 w8 g a n c (T + 9) zs (some ⟨w5.heap.size, 0, none⟩) 3 3 lst3 D8.out (by omega) (by omega) RL.out (fun b e => by have e1 : w5.heap.size = b := Option.some.inj e; omega)).mono ?_
      rintro e w9 ⟨⟨s, hs, rfl⟩, hd, hi⟩
      have HS : Hid (okV (2, 0, s) = true) := lst3_ok s hs
      have D9 : Hid (Drw w0 w9 g a n c (T + 9 + 1) zs) := hd
      have I9 : Hid (Inn g (g + 1) w w9) := I8.out.trans hi
      have X9 : Hid (Box w9 w.heap.size 35 #[.int .i64 0, .int .i64 0, .int .i64 0, .string ⟨#[]⟩, .int .i64 0, .int .i64 0, .string ⟨#[]⟩]) := X8.out.innO hi (.inr (by omega))
      have Y9 : Hid (Box w9 w4.heap.size 35 #[.int .i64 r2, .int .i64 u.1, .int .i64 u.2.1, .string u.2.2, .int .i64 v.1, .int .i64 v.2.1, .string v.2.2]) := Y8.out.innO hi (.inr (by omega))
      clear hd hi D8 I8 X8 Y8
      clear hs RL hw8 y0 y1 y2 y3 y4 y5 y6
      have z1 := Y9.out.thaw 4
      have z2 := Y9.out.thaw 5
      have z3 := Y9.out.thaw 6
      obtain ⟨y0, y1, y2, y3, y4, y5, y6⟩ := box7 Y9.out
      obtain ⟨w10, hw10⟩ : ∃ Q, (((w9.setCell ⟨w4.heap.size, 4, none⟩ (.int .i64 2)).setCell ⟨w4.heap.size, 5, none⟩ (.int .i64 0)).setCell ⟨w4.heap.size, 6, none⟩ (.string s)) = Q := ⟨_, rfl⟩
      have iN : Inn w4.heap.size (w4.heap.size + 1) w9 w10 := by rw [← hw10]; exact ((((((Inn.refl _ _ _).set ⟨w4.heap.size, 4, none⟩ (.int .i64 2) (by simp))).set ⟨w4.heap.size, 5, none⟩ (.int .i64 0) (by simp))).set ⟨w4.heap.size, 6, none⟩ (.string s) (by simp))
      have Y10 : Hid (Box w10 w4.heap.size 35 #[.int .i64 r2, .int .i64 u.1, .int .i64 u.2.1, .string u.2.2, .int .i64 ((2, 0, s) : VV).1, .int .i64 ((2, 0, s) : VV).2.1, .string ((2, 0, s) : VV).2.2]) := by unfold Hid; rw [← hw10]; exact (((Y9.out.set 4 (.int .i64 2)).set 5 (.int .i64 0)).set 6 (.string s))
      have X10 : Hid (Box w10 w.heap.size 35 #[.int .i64 0, .int .i64 0, .int .i64 0, .string ⟨#[]⟩, .int .i64 0, .int .i64 0, .string ⟨#[]⟩]) := by unfold Hid; rw [← hw10]; exact (((X9.out.setOther ⟨w4.heap.size, 4, none⟩ (.int .i64 2) (by simp; omega)).setOther ⟨w4.heap.size, 5, none⟩ (.int .i64 0) (by simp; omega)).setOther ⟨w4.heap.size, 6, none⟩ (.string s) (by simp; omega))
      have D10 : Hid (Drw w0 w10 g a n c (T + 9 + 1) zs) := D9.out.inn iN (.inl (by omega)) (by omega)
      have I10 : Hid (Inn g (g + 1) w w10) := inn_fresh I9.out iN (by omega)
      clear iN D9 I9 X9 Y9
      obtain ⟨y0, y1, y2, y3, y4, y5, y6⟩ := box7 Y10.out
      obtain ⟨x0, x1, x2, x3, x4, x5, x6⟩ := box7 X10.out
      have t0 := X10.out.thaw 0
      have t1 := X10.out.thaw 1
      have t2 := X10.out.thaw 2
      have t3 := X10.out.thaw 3
      have t4 := X10.out.thaw 4
      have t5 := X10.out.thaw 5
      have t6 := X10.out.thaw 6
      obtain ⟨N, hN⟩ : ∃ Q, (((((((w10.setCell ⟨w.heap.size, 0, none⟩ (.int .i64 r2)).setCell ⟨w.heap.size, 1, none⟩ (.int .i64 u.1)).setCell ⟨w.heap.size, 2, none⟩ (.int .i64 u.2.1)).setCell ⟨w.heap.size, 3, none⟩ (.string u.2.2)).setCell ⟨w.heap.size, 4, none⟩ (.int .i64 ((2, 0, s) : VV).1)).setCell ⟨w.heap.size, 5, none⟩ (.int .i64 ((2, 0, s) : VV).2.1)).setCell ⟨w.heap.size, 6, none⟩ (.string ((2, 0, s) : VV).2.2)) = Q := ⟨_, rfl⟩
      have XN : Hid (Box N w.heap.size 35 #[.int .i64 r2, .int .i64 u.1, .int .i64 u.2.1, .string u.2.2, .int .i64 ((2, 0, s) : VV).1, .int .i64 ((2, 0, s) : VV).2.1, .string ((2, 0, s) : VV).2.2]) := by unfold Hid; rw [← hN]; exact put7_box X10.out _ _ _ _ _ _ _
      have iN : Inn w.heap.size (w.heap.size + 1) w10 N := by rw [← hN]; exact ((((((((((((((Inn.refl _ _ _).set ⟨w.heap.size, 0, none⟩ (.int .i64 r2) (by simp))).set ⟨w.heap.size, 1, none⟩ (.int .i64 u.1) (by simp))).set ⟨w.heap.size, 2, none⟩ (.int .i64 u.2.1) (by simp))).set ⟨w.heap.size, 3, none⟩ (.string u.2.2) (by simp))).set ⟨w.heap.size, 4, none⟩ (.int .i64 ((2, 0, s) : VV).1) (by simp))).set ⟨w.heap.size, 5, none⟩ (.int .i64 ((2, 0, s) : VV).2.1) (by simp))).set ⟨w.heap.size, 6, none⟩ (.string ((2, 0, s) : VV).2.2) (by simp))
      have IN' : Hid (Inn g (g + 1) w N) := inn_fresh I10.out iN (Nat.le_refl _)
      have OK : Hid (rowB r2 u ((2, 0, s) : VV) = true) := row_yes (decide_eq_true (by omega)) HU.out HS.out KU.out (by show ¬ (2 : Int) = 1; decide)
      clear iN D10 I10 X10 Y10
      go_wp2
      exact retR Tryd.results32 rfl rfl XN.out ⟨⟨r2, u, ((2, 0, s) : VV), rfl, OK.out⟩, IN'.out⟩
    · have ev : (v.1 == 1) = false := by simp [kv]
      have KV : Hid (¬ v.1 = 1) := kv
      clear kv
      obtain ⟨y0, y1, y2, y3, y4, y5, y6⟩ := box7 Y5.out
      obtain ⟨x0, x1, x2, x3, x4, x5, x6⟩ := box7 X5.out
      have t0 := X5.out.thaw 0
      have t1 := X5.out.thaw 1
      have t2 := X5.out.thaw 2
      have t3 := X5.out.thaw 3
      have t4 := X5.out.thaw 4
      have t5 := X5.out.thaw 5
      have t6 := X5.out.thaw 6
      obtain ⟨N, hN⟩ : ∃ Q, (((((((w5.setCell ⟨w.heap.size, 0, none⟩ (.int .i64 r2)).setCell ⟨w.heap.size, 1, none⟩ (.int .i64 u.1)).setCell ⟨w.heap.size, 2, none⟩ (.int .i64 u.2.1)).setCell ⟨w.heap.size, 3, none⟩ (.string u.2.2)).setCell ⟨w.heap.size, 4, none⟩ (.int .i64 v.1)).setCell ⟨w.heap.size, 5, none⟩ (.int .i64 v.2.1)).setCell ⟨w.heap.size, 6, none⟩ (.string v.2.2)) = Q := ⟨_, rfl⟩
      have XN : Hid (Box N w.heap.size 35 #[.int .i64 r2, .int .i64 u.1, .int .i64 u.2.1, .string u.2.2, .int .i64 v.1, .int .i64 v.2.1, .string v.2.2]) := by unfold Hid; rw [← hN]; exact put7_box X5.out _ _ _ _ _ _ _
      have iN : Inn w.heap.size (w.heap.size + 1) w5 N := by rw [← hN]; exact ((((((((((((((Inn.refl _ _ _).set ⟨w.heap.size, 0, none⟩ (.int .i64 r2) (by simp))).set ⟨w.heap.size, 1, none⟩ (.int .i64 u.1) (by simp))).set ⟨w.heap.size, 2, none⟩ (.int .i64 u.2.1) (by simp))).set ⟨w.heap.size, 3, none⟩ (.string u.2.2) (by simp))).set ⟨w.heap.size, 4, none⟩ (.int .i64 v.1) (by simp))).set ⟨w.heap.size, 5, none⟩ (.int .i64 v.2.1) (by simp))).set ⟨w.heap.size, 6, none⟩ (.string v.2.2) (by simp))
      have IN' : Hid (Inn g (g + 1) w N) := inn_fresh I5.out iN (Nat.le_refl _)
      have OK : Hid (rowB r2 u v = true) := row_yes (decide_eq_true (by omega)) HU.out HV.out KU.out KV.out
      clear iN D5 I5 X5 Y5
      go_wp2
      exact retR Tryd.results32 rfl rfl XN.out ⟨⟨r2, u, v, rfl, OK.out⟩, IN'.out⟩

set_option maxRecDepth 100000 in
set_option maxHeartbeats 8000000 in
theorem c_rowOf (a : Option Addr) (n c : Nat) (zs : List Int) (w : World) (hr : RdV w a n (zs.map (Value.int .u8))) (hz : ∀ z ∈ zs, 0 ≤ z ∧ z < 256) (hn : n ≤ 1048576) :
    Calls Tryd.prog 14 #[.slice a n c] w fun e w' => RPost e ∧ Below w.heap.size w w' := by
  obtain ⟨w1, hw1⟩ : ∃ Q, w.alloc (.cells #[.int .i64 0, .int .i64 0, .int .i64 0, .string ⟨#[]⟩, .int .i64 0, .int .i64 0, .string ⟨#[]⟩] 35) = Q := ⟨_, rfl⟩
  have b1 : Below w.heap.size w w1 := by rw [← hw1]; exact (Below.refl _ _).alloc (Nat.le_refl _) _
  have X1 : Hid (Box w1 w.heap.size 35 #[.int .i64 0, .int .i64 0, .int .i64 0, .string ⟨#[]⟩, .int .i64 0, .int .i64 0, .string ⟨#[]⟩]) := by unfold Hid; rw [← hw1]; exact Box.new _ _ _
  have B1 : Hid (Below w.heap.size w w1) := b1
  have C1 := c_source a n c zs w1 (hr.below b1) hz hn
  clear hr b1 hz
  go_enter Tryd.func14, Tryd.ntmps14
  go_wp2_with fail
  refine C1.mono ?_
  rintro e w2 ⟨rfl, hd, hb⟩
  have B2 : Hid (Below w.heap.size w w2) := B1.out.trans (hb.mono B1.out.size)
  have X2 : Hid (Box w2 w.heap.size 35 #[.int .i64 0, .int .i64 0, .int .i64 0, .string ⟨#[]⟩, .int .i64 0, .int .i64 0, .string ⟨#[]⟩]) := X1.out.belowS hb
  have l1 : w.heap.size < w1.heap.size := X1.out.lt
  have C2 := c_row w1 w2 w1.heap.size a n c 0 zs hd (by omega)
  clear hb hd B1 X1 C1 hw1
  go_wp2_with fail
  refine C2.mono ?_
  rintro e w3 ⟨⟨i, u, v, rfl, hok⟩, hi⟩
  have X3 : Box w3 w.heap.size 35 #[.int .i64 0, .int .i64 0, .int .i64 0, .string ⟨#[]⟩, .int .i64 0, .int .i64 0, .string ⟨#[]⟩] := X2.out.innO hi (.inl (by omega))
  have B3 : Below w.heap.size w w3 := ⟨hi.os.trans B2.out.os, hi.tape.trans B2.out.tape, hi.output.trans B2.out.output, Nat.le_trans B2.out.size hi.size, fun j hj => (hi.block j (by have := B2.out.size; omega) (.inl (by omega))).trans (B2.out.block j hj)⟩
  obtain ⟨x0, x1, x2, x3, x4, x5, x6⟩ := box7 X3
  have t0 := X3.thaw 0
  have t1 := X3.thaw 1
  have t2 := X3.thaw 2
  have t3 := X3.thaw 3
  have t4 := X3.thaw 4
  have t5 := X3.thaw 5
  have t6 := X3.thaw 6
  have XN : Hid (∀ v0 v1 v2 v3 v4 v5 v6, Box _ w.heap.size 35 #[v0, v1, v2, v3, v4, v5, v6]) := fun v0 v1 v2 v3 v4 v5 v6 => put7_box X3 v0 v1 v2 v3 v4 v5 v6
  have BN : Hid (∀ v0 v1 v2 v3 v4 v5 v6, Below w.heap.size w _) := fun v0 v1 v2 v3 v4 v5 v6 => put7_below B3 (Nat.le_refl _) v0 v1 v2 v3 v4 v5 v6
  have OK : Hid (rowB i u v = true) := hok
  clear hi B3 X3 C2 X2 B2 hok
  go_wp2
  exact retR Tryd.results14 rfl rfl (XN.out _ _ _ _ _ _ _) ⟨⟨i, u, v, rfl, OK.out⟩, BN.out _ _ _ _ _ _ _⟩

end Go.Proofs.YtcgcaomaofppiaaDoor
namespace Go.Proofs.YtcgcaomaofppiaaDoor
open Go Go.RowKit
set_option linter.unusedVariables false
set_option linter.unusedSimpArgs false

theorem okzX : valB 0 0 (⟨#[]⟩ : ByteArray) = true := by rw [val0, emptyL]; rfl
theorem oktX (b : Bool) : valB 1 (trI b) (⟨#[]⟩ : ByteArray) = true := by rw [val1, emptyL]; cases b <;> rfl
theorem okbX (x : Int) : valB (bndB x).k (bndB x).n (⟨#[]⟩ : ByteArray) = true := by
  cases h : inB x (-1000000000) 1000000000
  · rw [bnd_no h]; exact okzX
  · rw [bnd_yes h, val1, h, emptyL]; rfl
theorem okrX (op a b : Int) : valB (reckB op a b).k (reckB op a b).n (⟨#[]⟩ : ByteArray) = true := by
  unfold reckB
  split
  · exact okzX
  · exact okbX _
theorem binR_okX (op k n : Int) (t : ByteArray) (k' n' : Int) (t' : ByteArray) : valB (binR op k n t k' n' t').k (binR op k n t k' n' t').n (⟨#[]⟩ : ByteArray) = true := by
  unfold binR
  repeat' split
  all_goals first | exact okzX | exact oktX _ | exact okrX _ _ _
theorem oknX (n : Int) (h0 : -1000000000 ≤ n) (h1 : n ≤ 1000000000) : valB 1 n (⟨#[]⟩ : ByteArray) = true := by
  rw [val1, emptyL]
  unfold inB
  rw [decide_eq_true ⟨h0, h1⟩]
  rfl
theorem unaE_okX (op k n : Int) (t : ByteArray) (h : valB k n t = true) : valB (unaE op k n).k (unaE op k n).n (unaE op k n).t = true := by
  have hr := rt_of h
  unfold unaE
  repeat' split
  all_goals first | exact okzX | exact oktX _ | (exact oknX (-n) (by have := hr.n1; omega) (by have := hr.n0; omega))
theorem colE_c (c : Int) (i : Int) (u v : VV) : colE c i u v = ⟨(colE c i u v).k, (colE c i u v).n, (colE c i u v).t, 0⟩ := by
  unfold colE
  repeat' split
  all_goals rfl
theorem ev_val (i : Int) (u v : VV) (hi : inB i 0 1000 = true) (hu : okV u = true) (hv : okV v = true) : ∀ p : PT, p.ok = true → valB (evE p i u v).k (evE p i u v).n (evE p i u v).t = true
  | .con k n t, h => h
  | .col c, _ => by
    show valB (colE c i u v).k (colE c i u v).n (colE c i u v).t = true
    unfold colE
    repeat' split
    · exact oknX i (by unfold inB at hi; simp at hi; omega) (by unfold inB at hi; simp at hi; omega)
    · exact hu
    · exact hv
  | .una op p, h => by
    have hp := ev_val i u v hi hu hv p (by unfold PT.ok at h; simp only [Bool.and_eq_true] at h; exact h.2)
    rw [evE]
    split
    · exact okzX
    · exact unaE_okX _ _ _ _ hp
  | .bin op l r, h => by
    rw [evE]
    split
    · exact okzX
    · split
      · exact oktX _
      · split
        · exact okzX
        · exact binR_okX _ _ _ _ _ _ _
set_option maxHeartbeats 1000000 in
theorem c_pv (i : Int) (u v : VV) (hi : inB i 0 1000 = true) (hu : okV u = true) (hv : okV v = true) : ∀ p : PT, p.ok = true → ∀ w, Calls Tryd.prog 35 #[p.enc, .agg #[.int .i64 i, .int .i64 u.1, .int .i64 u.2.1, .string u.2.2, .int .i64 v.1, .int .i64 v.2.1, .string v.2.2]] w fun e w' => e = .returned (.tuple #[.agg #[.int .i64 (evE p i u v).k, .int .i64 (evE p i u v).n, .string (evE p i u v).t], .int .i64 (evE p i u v).c]) ∧ Below w.heap.size w w'
  | .con k n t, _, w => c_pv_con i u v w k n t _ rfl
  | .col c, h, w => c_pv_col i u v w c h _ (colE_c c i u v)
  | .una op p, h, w => by
    have hp : p.ok = true := by unfold PT.ok at h; simp only [Bool.and_eq_true] at h; exact h.2
    have IH : Hid (∀ W, Calls Tryd.prog 35 #[p.enc, .agg #[.int .i64 i, .int .i64 u.1, .int .i64 u.2.1, .string u.2.2, .int .i64 v.1, .int .i64 v.2.1, .string v.2.2]] W fun e w' => e = .returned (.tuple #[.agg #[.int .i64 (evE p i u v).k, .int .i64 (evE p i u v).n, .string (evE p i u v).t], .int .i64 (evE p i u v).c]) ∧ Below W.heap.size W w') := fun W => c_pv i u v hi hu hv p hp W
    cases cf : ((evE p i u v).c != 0)
    · exact c_pv_una i u v w op p (evE p i u v) IH cf (ev_val i u v hi hu hv p hp) _ (by unfold Hid; rw [evE, cf]; rfl)
    · exact c_pv_unaE i u v w op p (evE p i u v) IH cf (ev_val i u v hi hu hv p hp) _ (by unfold Hid; rw [evE, cf]; rfl)
  | .bin op l r, h, w => by
    have hx : inB op 6 13 = true ∧ l.ok = true ∧ r.ok = true := by unfold PT.ok at h; simp only [Bool.and_eq_true] at h; exact h
    have IL : Hid (∀ W, Calls Tryd.prog 35 #[l.enc, .agg #[.int .i64 i, .int .i64 u.1, .int .i64 u.2.1, .string u.2.2, .int .i64 v.1, .int .i64 v.2.1, .string v.2.2]] W fun e w' => e = .returned (.tuple #[.agg #[.int .i64 (evE l i u v).k, .int .i64 (evE l i u v).n, .string (evE l i u v).t], .int .i64 (evE l i u v).c]) ∧ Below W.heap.size W w') := fun W => c_pv i u v hi hu hv l hx.2.1 W
    have IR : Hid (∀ W, Calls Tryd.prog 35 #[r.enc, .agg #[.int .i64 i, .int .i64 u.1, .int .i64 u.2.1, .string u.2.2, .int .i64 v.1, .int .i64 v.2.1, .string v.2.2]] W fun e w' => e = .returned (.tuple #[.agg #[.int .i64 (evE r i u v).k, .int .i64 (evE r i u v).n, .string (evE r i u v).t], .int .i64 (evE r i u v).c]) ∧ Below W.heap.size W w') := fun W => c_pv i u v hi hu hv r hx.2.2 W
    refine c_pv_bin i u v w op l r _ (fun W => ?_)
    cases ca : ((evE l i u v).c != 0)
    · cases dd : decB op (evE l i u v).k (evE l i u v).n
      · cases cb : ((evE r i u v).c != 0)
        · exact c_jv_v i u v W op l r (evE l i u v) IL ca dd (evE r i u v) IR cb (binR op (evE l i u v).k (evE l i u v).n (evE l i u v).t (evE r i u v).k (evE r i u v).n (evE r i u v).t)
            (fun X => c_binV op _ _ _ _ _ _ X (by have := hx.1; unfold inB at this; simp at this; exact this.1) (by have := hx.1; unfold inB at this; simp at this; exact this.2) (rt_of (ev_val i u v hi hu hv l hx.2.1)) (rt_of (ev_val i u v hi hu hv r hx.2.2))) _ (by unfold Hid; rw [evE, ca, dd, cb]; rfl)
        · exact c_jv_b i u v W op l r (evE l i u v) IL ca dd (evE r i u v) IR cb _ (by unfold Hid; rw [evE, ca, dd, cb]; rfl)
      · exact c_jv_d i u v W op l r (evE l i u v) IL ca dd _ (by unfold Hid; rw [evE, ca, dd]; rfl)
    · exact c_jv_a i u v W op l r (evE l i u v) IL ca _ (by unfold Hid; rw [evE, ca]; rfl)
/-- What a part that stands at a place says of the node there. -/
theorem pF_inv (L : List EN) (fu k : Nat) (p : PT) (f : Nat) (x : EN) (hx : x = L.getD k zeroE) (h : pF L (fu + 1) (k + 1) = some (p, f)) :
    (∃ (_ : (x.o == 1) = true), p = .con x.k x.n x.t ∧ valB x.k x.n x.t = true) ∨
    (∃ (_ : (x.o == 1) = false) (_ : (x.o == 2) = true), p = .col x.c ∧ inB x.c 0 2 = true) ∨
    (∃ (_ : (x.o == 1) = false) (_ : (x.o == 2) = false) (q : PT), inB x.o 3 5 = true ∧ p = .una x.o q ∧ x.a = (k : Int) - 1 ∧ pF L fu k = some (q, f)) ∨
    (∃ (_ : (x.o == 1) = false) (_ : (x.o == 2) = false) (l r : PT) (m : Nat), inB x.o 6 13 = true ∧ p = .bin x.o l r ∧ x.a = (m : Int) - 1 ∧ x.b = (k : Int) - 1 ∧ pF L fu k = some (r, m) ∧ pF L fu m = some (l, f)) := by
  rw [pF_step, ← hx] at h
  cases o1 : (x.o == 1)
  · rw [o1] at h
    cases o2 : (x.o == 2)
    · rw [o2] at h
      cases uu : inB x.o 3 5
      · rw [uu] at h
        cases bi : inB x.o 6 13
        · rw [bi] at h; cases h
        · rw [bi] at h
          simp only [cond_true, cond_false] at h
          cases e : pF L fu k with
          | none => rw [e] at h; cases h
          | some q =>
            obtain ⟨r, m⟩ := q
            rw [e] at h
            dsimp only at h
            cases tt : (x.a == (m : Int) - 1 && (x.b == (k : Int) - 1 && (x.c == 0 && noV x)))
            · rw [tt] at h; cases h
            · rw [tt] at h
              simp only [cond_true] at h
              cases e2 : pF L fu m with
              | none => rw [e2] at h; cases h
              | some q2 =>
                obtain ⟨l, g⟩ := q2
                rw [e2] at h
                simp only [Option.some.injEq, Prod.mk.injEq] at h
                simp only [Bool.and_eq_true, beq_iff_eq] at tt
                exact .inr (.inr (.inr ⟨rfl, rfl, l, r, m, rfl, h.1.symm, tt.1, tt.2.1, rfl, by rw [← h.2]; exact e2⟩))
      · rw [uu] at h
        simp only [cond_true, cond_false] at h
        cases tt : (x.a == (k : Int) - 1 && (x.b == 0 && (x.c == 0 && noV x)))
        · rw [tt] at h; cases h
        · rw [tt] at h
          simp only [cond_true] at h
          cases e : pF L fu k with
          | none => rw [e] at h; cases h
          | some q =>
            obtain ⟨r, m⟩ := q
            rw [e] at h
            simp only [Option.some.injEq, Prod.mk.injEq] at h
            simp only [Bool.and_eq_true, beq_iff_eq] at tt
            exact .inr (.inr (.inl ⟨rfl, rfl, r, rfl, h.1.symm, tt.1, by rw [← h.2]⟩))
    · rw [o2] at h
      simp only [cond_true, cond_false] at h
      cases tt : (x.a == 0 && (x.b == 0 && (noV x && inB x.c 0 2)))
      · rw [tt] at h; cases h
      · rw [tt] at h
        simp only [cond_true, Option.some.injEq, Prod.mk.injEq] at h
        simp only [Bool.and_eq_true] at tt
        exact .inr (.inl ⟨rfl, rfl, h.1.symm, tt.2.2.2⟩)
  · rw [o1] at h
    simp only [cond_true] at h
    cases tt : (x.a == 0 && (x.b == 0 && (x.c == 0 && valB x.k x.n x.t)))
    · rw [tt] at h; cases h
    · rw [tt] at h
      simp only [cond_true, Option.some.injEq, Prod.mk.injEq] at h
      simp only [Bool.and_eq_true] at tt
      exact .inl ⟨rfl, h.1.symm, tt.2.2.2⟩
theorem pF_ok (L : List EN) : ∀ (fu k : Nat) (p : PT) (f : Nat), pF L fu k = some (p, f) → p.ok = true
  | 0, _, _, _, h => by simp [pF] at h
  | _ + 1, 0, _, _, h => by simp [pF] at h
  | fu + 1, k + 1, p, f, h => by
    rcases pF_inv L fu k p f _ rfl h with ⟨_, rfl, h1⟩ | ⟨_, _, rfl, h1⟩ | ⟨_, _, q, h1, rfl, _, h2⟩ | ⟨_, _, l, r, m, h1, rfl, _, _, h2, h3⟩
    · exact h1
    · exact h1
    · unfold PT.ok; rw [h1, pF_ok L fu k q f h2]; rfl
    · unfold PT.ok; rw [h1, pF_ok L fu k r m h2, pF_ok L fu m l f h3]; rfl
set_option maxHeartbeats 2000000 in
theorem c_ev (L : List EN) (a : Option Addr) (n c : Nat) (i : Int) (u v : VV) (hn : n ≤ 1048576) (hi : inB i 0 1000 = true) (hu : okV u = true) (hv : okV v = true) : ∀ (fu k : Nat) (p : PT) (f : Nat) (w : World), pF L fu (k + 1) = some (p, f) → k < n → RdE w a n L →
    Calls Tryd.prog 37 #[.agg #[.slice a n c], .int .i64 (k : Int), .agg #[.int .i64 i, .int .i64 u.1, .int .i64 u.2.1, .string u.2.2, .int .i64 v.1, .int .i64 v.2.1, .string v.2.2]] w fun e w' => e = .returned (.tuple #[.agg #[.int .i64 (evE p i u v).k, .int .i64 (evE p i u v).n, .string (evE p i u v).t], .int .i64 (evE p i u v).c]) ∧ Below w.heap.size w w'
  | 0, _, _, _, _, h, _, _ => by simp [pF] at h
  | fu + 1, k, p, f, w, h, hk, hr => by
    obtain ⟨x, hx⟩ : ∃ x, x = L.getD k zeroE := ⟨_, rfl⟩
    rcases pF_inv L fu k p f x hx h with ⟨o1, rfl, h1⟩ | ⟨o1, o2, rfl, h1⟩ | ⟨o1, o2, p', h1, rfl, ha, h2⟩ | ⟨o1, o2, l, r', m, h1, rfl, ha, hb, h2, h3⟩
    · exact c_le_con L a n c k x i u v w hr hk hn hx  o1 _ rfl
    · exact c_le_col L a n c k x i u v w hr hk hn hx h1 o1 o2 _ (colE_c x.c i u v)
    · have l5 : decide (x.o ≤ 5) = true := by unfold inB at h1; simp at h1; rw [decide_eq_true_eq]; omega
      have IH : Hid (∀ W, Below w.heap.size w W → Calls Tryd.prog 37 #[.agg #[.slice a n c], .int .i64 x.a, .agg #[.int .i64 i, .int .i64 u.1, .int .i64 u.2.1, .string u.2.2, .int .i64 v.1, .int .i64 v.2.1, .string v.2.2]] W fun e w' => e = .returned (.tuple #[.agg #[.int .i64 (evE p' i u v).k, .int .i64 (evE p' i u v).n, .string (evE p' i u v).t], .int .i64 (evE p' i u v).c]) ∧ Below W.heap.size W w') := fun W hW => by
        have hk0 : 0 < k := by have := pF_lt L fu k p' f h2; omega
        obtain ⟨j, rfl⟩ : ∃ j, k = j + 1 := ⟨k - 1, by omega⟩
        rw [ha, show ((j + 1 : Nat) : Int) - 1 = (j : Int) by omega]
        exact c_ev L a n c i u v hn hi hu hv fu j p' f W h2 (by omega) (hr.below hW)
      have vr := ev_val i u v hi hu hv p' (pF_ok L fu k p' f h2)
      cases cr : ((evE p' i u v).c != 0)
      · exact c_le_una L a n c k x i u v w hr hk hn hx (evE p' i u v) IH vr o1 o2 cr l5 _ (by unfold Hid; rw [evE, cr]; rfl)
      · exact c_le_err L a n c k x i u v w hr hk hn hx (evE p' i u v) IH o1 o2 cr _ (by unfold Hid; rw [evE, cr]; rfl)
    · have l5 : decide (x.o ≤ 5) = false := by unfold inB at h1; simp at h1; rw [decide_eq_false_iff_not]; omega
      have hm := pF_lt L fu k r' m h2
      have IH : Hid (∀ W, Below w.heap.size w W → Calls Tryd.prog 37 #[.agg #[.slice a n c], .int .i64 x.a, .agg #[.int .i64 i, .int .i64 u.1, .int .i64 u.2.1, .string u.2.2, .int .i64 v.1, .int .i64 v.2.1, .string v.2.2]] W fun e w' => e = .returned (.tuple #[.agg #[.int .i64 (evE l i u v).k, .int .i64 (evE l i u v).n, .string (evE l i u v).t], .int .i64 (evE l i u v).c]) ∧ Below W.heap.size W w') := fun W hW => by
        have hk0 : 0 < m := by have := pF_lt L fu m l f h3; omega
        obtain ⟨j, rfl⟩ : ∃ j, m = j + 1 := ⟨m - 1, by omega⟩
        rw [ha, show ((j + 1 : Nat) : Int) - 1 = (j : Int) by omega]
        exact c_ev L a n c i u v hn hi hu hv fu j l f W h3 (by omega) (hr.below hW)
      have IJ : Hid (∀ W, Below w.heap.size w W → Calls Tryd.prog 37 #[.agg #[.slice a n c], .int .i64 x.b, .agg #[.int .i64 i, .int .i64 u.1, .int .i64 u.2.1, .string u.2.2, .int .i64 v.1, .int .i64 v.2.1, .string v.2.2]] W fun e w' => e = .returned (.tuple #[.agg #[.int .i64 (evE r' i u v).k, .int .i64 (evE r' i u v).n, .string (evE r' i u v).t], .int .i64 (evE r' i u v).c]) ∧ Below W.heap.size W w') := fun W hW => by
        obtain ⟨j, rfl⟩ : ∃ j, k = j + 1 := ⟨k - 1, by omega⟩
        rw [hb, show ((j + 1 : Nat) : Int) - 1 = (j : Int) by omega]
        exact c_ev L a n c i u v hn hi hu hv fu j r' m W h2 (by omega) (hr.below hW)
      have CB : Hid (∀ W, Calls Tryd.prog 44 #[.int .i64 x.o, .agg #[.int .i64 (evE l i u v).k, .int .i64 (evE l i u v).n, .string (evE l i u v).t], .agg #[.int .i64 (evE r' i u v).k, .int .i64 (evE r' i u v).n, .string (evE r' i u v).t]] W fun e w' => e = .returned (.tuple #[.agg #[.int .i64 (binR x.o (evE l i u v).k (evE l i u v).n (evE l i u v).t (evE r' i u v).k (evE r' i u v).n (evE r' i u v).t).k, .int .i64 (binR x.o (evE l i u v).k (evE l i u v).n (evE l i u v).t (evE r' i u v).k (evE r' i u v).n (evE r' i u v).t).n, .string ⟨#[]⟩], .int .i64 (binR x.o (evE l i u v).k (evE l i u v).n (evE l i u v).t (evE r' i u v).k (evE r' i u v).n (evE r' i u v).t).c]) ∧ Below W.heap.size W w') := fun W => c_l10B x.o _ _ _ _ _ _ W (by unfold inB at h1; simp at h1; exact h1.1) (by unfold inB at h1; simp at h1; exact h1.2) (rt_of (ev_val i u v hi hu hv l (pF_ok L fu m l f h3))) (rt_of (ev_val i u v hi hu hv r' (pF_ok L fu k r' m h2)))
      clear h1 ha hb h2 h3 hm h
      cases cr : ((evE l i u v).c != 0)
      · cases o12 : (x.o == 12)
        · cases o13 : (x.o == 13)
          · have dd : decB x.o (evE l i u v).k (evE l i u v).n = false := by unfold decB; rw [o12, o13]; simp
            cases cs : ((evE r' i u v).c != 0)
            · exact c_le_Vc L a n c k x i u v w hr hk hn hx (evE l i u v) IH (evE r' i u v) IJ (binR x.o (evE l i u v).k (evE l i u v).n (evE l i u v).t (evE r' i u v).k (evE r' i u v).n (evE r' i u v).t) CB o1 o2 cr l5 o12 o13 cs _ (by unfold Hid; rw [evE, cr, dd, cs]; rfl)
            · exact c_le_Ec L a n c k x i u v w hr hk hn hx (evE l i u v) IH (evE r' i u v) IJ o1 o2 cr l5 o12 o13 cs _ (by unfold Hid; rw [evE, cr, dd, cs]; rfl)
          · cases k1 : ((evE l i u v).k == 1)
            · have dd : decB x.o (evE l i u v).k (evE l i u v).n = false := by unfold decB; rw [k1]; rfl
              cases cs : ((evE r' i u v).c != 0)
              · exact c_le_Vd L a n c k x i u v w hr hk hn hx (evE l i u v) IH (evE r' i u v) IJ (binR x.o (evE l i u v).k (evE l i u v).n (evE l i u v).t (evE r' i u v).k (evE r' i u v).n (evE r' i u v).t) CB o1 o2 cr l5 o12 o13 k1 cs _ (by unfold Hid; rw [evE, cr, dd, cs]; rfl)
              · exact c_le_Ed L a n c k x i u v w hr hk hn hx (evE l i u v) IH (evE r' i u v) IJ o1 o2 cr l5 o12 o13 k1 cs _ (by unfold Hid; rw [evE, cr, dd, cs]; rfl)
            · cases nn : ((evE l i u v).n != 0)
              · have dd : decB x.o (evE l i u v).k (evE l i u v).n = false := by unfold decB; rw [o12, nn]; simp
                cases cs : ((evE r' i u v).c != 0)
                · exact c_le_Ve L a n c k x i u v w hr hk hn hx (evE l i u v) IH (evE r' i u v) IJ (binR x.o (evE l i u v).k (evE l i u v).n (evE l i u v).t (evE r' i u v).k (evE r' i u v).n (evE r' i u v).t) CB o1 o2 cr l5 o12 o13 k1 nn cs _ (by unfold Hid; rw [evE, cr, dd, cs]; rfl)
                · exact c_le_Ee L a n c k x i u v w hr hk hn hx (evE l i u v) IH (evE r' i u v) IJ o1 o2 cr l5 o12 o13 k1 nn cs _ (by unfold Hid; rw [evE, cr, dd, cs]; rfl)
              · have dd : decB x.o (evE l i u v).k (evE l i u v).n = true := by unfold decB; rw [k1, o12, o13, nn]; rfl
                exact c_le_or L a n c k x i u v w hr hk hn hx (evE l i u v) IH o1 o2 cr l5 o12 o13 k1 nn _ (by unfold Hid; rw [evE, cr, dd, o13]; rfl)
        · have o13 : (x.o == 13) = false := by rw [show x.o = 12 by simpa using o12]; rfl
          cases k1 : ((evE l i u v).k == 1)
          · have dd : decB x.o (evE l i u v).k (evE l i u v).n = false := by unfold decB; rw [k1]; rfl
            cases cs : ((evE r' i u v).c != 0)
            · exact c_le_Va L a n c k x i u v w hr hk hn hx (evE l i u v) IH (evE r' i u v) IJ (binR x.o (evE l i u v).k (evE l i u v).n (evE l i u v).t (evE r' i u v).k (evE r' i u v).n (evE r' i u v).t) CB o1 o2 cr l5 o12 k1 o13 cs _ (by unfold Hid; rw [evE, cr, dd, cs]; rfl)
            · exact c_le_Ea L a n c k x i u v w hr hk hn hx (evE l i u v) IH (evE r' i u v) IJ o1 o2 cr l5 o12 k1 o13 cs _ (by unfold Hid; rw [evE, cr, dd, cs]; rfl)
          · cases n0 : ((evE l i u v).n == 0)
            · have dd : decB x.o (evE l i u v).k (evE l i u v).n = false := by unfold decB; rw [n0, o13]; simp
              cases cs : ((evE r' i u v).c != 0)
              · exact c_le_Vb L a n c k x i u v w hr hk hn hx (evE l i u v) IH (evE r' i u v) IJ (binR x.o (evE l i u v).k (evE l i u v).n (evE l i u v).t (evE r' i u v).k (evE r' i u v).n (evE r' i u v).t) CB o1 o2 cr l5 o12 k1 n0 o13 cs _ (by unfold Hid; rw [evE, cr, dd, cs]; rfl)
              · exact c_le_Eb L a n c k x i u v w hr hk hn hx (evE l i u v) IH (evE r' i u v) IJ o1 o2 cr l5 o12 k1 n0 o13 cs _ (by unfold Hid; rw [evE, cr, dd, cs]; rfl)
            · have dd : decB x.o (evE l i u v).k (evE l i u v).n = true := by unfold decB; rw [k1, o12, n0]; rfl
              exact c_le_and L a n c k x i u v w hr hk hn hx (evE l i u v) IH o1 o2 cr l5 o12 k1 n0 _ (by unfold Hid; rw [evE, cr, dd, o13]; rfl)
      · exact c_le_err L a n c k x i u v w hr hk hn hx (evE l i u v) IH o1 o2 cr _ (by unfold Hid; rw [evE, cr]; rfl)

end Go.Proofs.YtcgcaomaofppiaaDoor
namespace Go.Proofs.YtcgcaomaofppiaaDoor
open Go Go.RowKit
set_option linter.unusedVariables false
set_option linter.unusedSimpArgs false

def evA (L : List EN) (n : Nat) (i : Int) (u v : VV) : EV := match topX L n with | some p => (if rowB i u v then evE p i u v else errE 1) | none => errE 1
theorem row_partsX {i : Int} {u v : VV} (h : rowB i u v = true) : inB i 0 1000 = true ∧ okV u = true ∧ okV v = true := by
  unfold rowB at h
  simp only [Bool.and_eq_true] at h
  exact ⟨h.1.1.1.1, h.1.1.1.2, h.1.1.2⟩
theorem top_some {L : List EN} {n : Nat} {p : PT} (h : topX L n = some p) : pF L n n = some (p, 0) := by
  unfold topX at h
  split at h
  · cases h
  · split at h
    · rename_i q e
      split at h
      · cases h
      · rw [e]; simp only [Option.some.injEq] at h; rw [h]
    · cases h
set_option maxRecDepth 100000 in
set_option maxHeartbeats 4000000 in
theorem c_iE_n (L : List EN) (a : Option Addr) (n c : Nat) (i : Int) (u v : VV) (w : World) (hr : RdE w a n L) (hn : n ≤ 1048576) (hs : ∀ x ∈ L, x.t.size ≤ maxLen) (h1 : u.2.2.size ≤ maxLen) (h2 : v.2.2.size ≤ maxLen) (CP : Hid (∀ W, Below w.heap.size w W → Calls Tryd.prog 33 #[.agg #[.slice a n c]] W fun e w' => e = .returned (.nilIface) ∧ Below W.heap.size W w')) (q : EV) (E : Hid (q = errE 1)) :
    Calls Tryd.prog 16 #[.agg #[.slice a n c], .agg #[.int .i64 i, .int .i64 u.1, .int .i64 u.2.1, .string u.2.2, .int .i64 v.1, .int .i64 v.2.1, .string v.2.2]] w fun e w' => e = .returned (.tuple #[.agg #[.int .i64 q.k, .int .i64 q.n, .string q.t], .int .i64 q.c]) ∧ Below w.heap.size w w' := by
  obtain ⟨w0, hw0⟩ : ∃ V, ((w.alloc (.cells #[.slice a n c] 43)).alloc (.cells #[.int .i64 i, .int .i64 u.1, .int .i64 u.2.1, .string u.2.2, .int .i64 v.1, .int .i64 v.2.1, .string v.2.2] 35)).alloc (.cells #[.int .i64 0, .int .i64 0, .string ⟨#[]⟩] 29) = V := ⟨_, rfl⟩
  have Bw0 : Hid (Below w.heap.size w w0) := by unfold Hid; rw [← hw0]; exact ((((Below.refl _ _).alloc (Nat.le_refl _) _).alloc (by simp) _).alloc (by simp; omega) _)
  have Ew0 : Hid (Box w0 w.heap.size 43 #[.slice a n c]) := by unfold Hid; rw [← hw0]; exact (((Box.new _ _ _).alloc _).alloc _)
  have Rw0 : Hid (Box w0 (w.heap.size + 1) 35 #[.int .i64 i, .int .i64 u.1, .int .i64 u.2.1, .string u.2.2, .int .i64 v.1, .int .i64 v.2.1, .string v.2.2]) := by unfold Hid; rw [← hw0]; exact ((Box.new2 _ _ _ _).alloc _)
  have Xw0 : Hid (Box w0 (w.heap.size + 2) 29 #[.int .i64 0, .int .i64 0, .string ⟨#[]⟩]) := by unfold Hid; rw [← hw0]; have := Box.new2 (w.alloc (.cells #[.slice a n c] 43)) (.cells #[.int .i64 i, .int .i64 u.1, .int .i64 u.2.1, .string u.2.2, .int .i64 v.1, .int .i64 v.2.1, .string v.2.2] 35) #[.int .i64 0, .int .i64 0, .string ⟨#[]⟩] 29; simpa using this
  have ec0 : w0.cell? ⟨w.heap.size, 0, none⟩ = some (.slice a n c) := Ew0.out.cell 0
  have el := Ew0.out.lt
  have rc0 : w0.cell? ⟨(w.heap.size + 1), 0, none⟩ = some (.int .i64 i) := Rw0.out.cell 0
  have rc1 : w0.cell? ⟨(w.heap.size + 1), 1, none⟩ = some (.int .i64 u.1) := Rw0.out.cell 1
  have rc2 : w0.cell? ⟨(w.heap.size + 1), 2, none⟩ = some (.int .i64 u.2.1) := Rw0.out.cell 2
  have rc3 : w0.cell? ⟨(w.heap.size + 1), 3, none⟩ = some (.string u.2.2) := Rw0.out.cell 3
  have rc4 : w0.cell? ⟨(w.heap.size + 1), 4, none⟩ = some (.int .i64 v.1) := Rw0.out.cell 4
  have rc5 : w0.cell? ⟨(w.heap.size + 1), 5, none⟩ = some (.int .i64 v.2.1) := Rw0.out.cell 5
  have rc6 : w0.cell? ⟨(w.heap.size + 1), 6, none⟩ = some (.string v.2.2) := Rw0.out.cell 6
  have rl := Rw0.out.lt
  have xc0 : w0.cell? ⟨(w.heap.size + 2), 0, none⟩ = some (.int .i64 0) := Xw0.out.cell 0
  have xc1 : w0.cell? ⟨(w.heap.size + 2), 1, none⟩ = some (.int .i64 0) := Xw0.out.cell 1
  have xc2 : w0.cell? ⟨(w.heap.size + 2), 2, none⟩ = some (.string ⟨#[]⟩) := Xw0.out.cell 2
  have xl := Xw0.out.lt
  have xt0 := Xw0.out.thaw 0
  have xt1 := Xw0.out.thaw 1
  have xt2 := Xw0.out.thaw 2
  go_enter Tryd.func16, Tryd.ntmps16
  go_wp2_with fail
  refine (CP.out w0 (Bw0.out)).mono ?_
  rintro e w1 ⟨rfl, hb⟩
  have Bw1 : Hid (Below w.heap.size w w1) := Bw0.out.trans (hb.mono Bw0.out.size)
  have Ew1 : Hid (Box w1 w.heap.size 43 #[.slice a n c]) := (Ew0.out).belowS hb
  have Rw1 : Hid (Box w1 (w.heap.size + 1) 35 #[.int .i64 i, .int .i64 u.1, .int .i64 u.2.1, .string u.2.2, .int .i64 v.1, .int .i64 v.2.1, .string v.2.2]) := (Rw0.out).belowS hb
  have Xw1 : Hid (Box w1 (w.heap.size + 2) 29 #[.int .i64 0, .int .i64 0, .string ⟨#[]⟩]) := (Xw0.out).belowS hb
  clear hb
  clear ec0 el rc0 rc1 rc2 rc3 rc4 rc5 rc6 rl xc0 xc1 xc2 xl xt0 xt1 xt2
  have ec0 : w1.cell? ⟨w.heap.size, 0, none⟩ = some (.slice a n c) := Ew1.out.cell 0
  have el := Ew1.out.lt
  have rc0 : w1.cell? ⟨(w.heap.size + 1), 0, none⟩ = some (.int .i64 i) := Rw1.out.cell 0
  have rc1 : w1.cell? ⟨(w.heap.size + 1), 1, none⟩ = some (.int .i64 u.1) := Rw1.out.cell 1
  have rc2 : w1.cell? ⟨(w.heap.size + 1), 2, none⟩ = some (.int .i64 u.2.1) := Rw1.out.cell 2
  have rc3 : w1.cell? ⟨(w.heap.size + 1), 3, none⟩ = some (.string u.2.2) := Rw1.out.cell 3
  have rc4 : w1.cell? ⟨(w.heap.size + 1), 4, none⟩ = some (.int .i64 v.1) := Rw1.out.cell 4
  have rc5 : w1.cell? ⟨(w.heap.size + 1), 5, none⟩ = some (.int .i64 v.2.1) := Rw1.out.cell 5
  have rc6 : w1.cell? ⟨(w.heap.size + 1), 6, none⟩ = some (.string v.2.2) := Rw1.out.cell 6
  have rl := Rw1.out.lt
  have xc0 : w1.cell? ⟨(w.heap.size + 2), 0, none⟩ = some (.int .i64 0) := Xw1.out.cell 0
  have xc1 : w1.cell? ⟨(w.heap.size + 2), 1, none⟩ = some (.int .i64 0) := Xw1.out.cell 1
  have xc2 : w1.cell? ⟨(w.heap.size + 2), 2, none⟩ = some (.string ⟨#[]⟩) := Xw1.out.cell 2
  have xl := Xw1.out.lt
  have xt0 := Xw1.out.thaw 0
  have xt1 := Xw1.out.thaw 1
  have xt2 := Xw1.out.thaw 2
  go_wp2
  refine ret32 Tryd.results16 rfl rfl rfl (put3_box Xw1.out _ _ _) ⟨?_, put3_below Bw1.out (by omega) _ _ _⟩
  rw [E.out]
  rfl
set_option maxRecDepth 100000 in
set_option maxHeartbeats 4000000 in
theorem c_iE_r (L : List EN) (a : Option Addr) (n c : Nat) (i : Int) (u v : VV) (w : World) (hr : RdE w a n L) (hn : n ≤ 1048576) (hs : ∀ x ∈ L, x.t.size ≤ maxLen) (h1 : u.2.2.size ≤ maxLen) (h2 : v.2.2.size ≤ maxLen) (T9 : TypeId) (y9 : Value) (CP : Hid (∀ W, Below w.heap.size w W → Calls Tryd.prog 33 #[.agg #[.slice a n c]] W fun e w' => e = .returned (.iface T9 y9) ∧ Below W.heap.size W w')) (rb : rowB i u v = false) (q : EV) (E : Hid (q = errE 1)) :
    Calls Tryd.prog 16 #[.agg #[.slice a n c], .agg #[.int .i64 i, .int .i64 u.1, .int .i64 u.2.1, .string u.2.2, .int .i64 v.1, .int .i64 v.2.1, .string v.2.2]] w fun e w' => e = .returned (.tuple #[.agg #[.int .i64 q.k, .int .i64 q.n, .string q.t], .int .i64 q.c]) ∧ Below w.heap.size w w' := by
  obtain ⟨w0, hw0⟩ : ∃ V, ((w.alloc (.cells #[.slice a n c] 43)).alloc (.cells #[.int .i64 i, .int .i64 u.1, .int .i64 u.2.1, .string u.2.2, .int .i64 v.1, .int .i64 v.2.1, .string v.2.2] 35)).alloc (.cells #[.int .i64 0, .int .i64 0, .string ⟨#[]⟩] 29) = V := ⟨_, rfl⟩
  have Bw0 : Hid (Below w.heap.size w w0) := by unfold Hid; rw [← hw0]; exact ((((Below.refl _ _).alloc (Nat.le_refl _) _).alloc (by simp) _).alloc (by simp; omega) _)
  have Ew0 : Hid (Box w0 w.heap.size 43 #[.slice a n c]) := by unfold Hid; rw [← hw0]; exact (((Box.new _ _ _).alloc _).alloc _)
  have Rw0 : Hid (Box w0 (w.heap.size + 1) 35 #[.int .i64 i, .int .i64 u.1, .int .i64 u.2.1, .string u.2.2, .int .i64 v.1, .int .i64 v.2.1, .string v.2.2]) := by unfold Hid; rw [← hw0]; exact ((Box.new2 _ _ _ _).alloc _)
  have Xw0 : Hid (Box w0 (w.heap.size + 2) 29 #[.int .i64 0, .int .i64 0, .string ⟨#[]⟩]) := by unfold Hid; rw [← hw0]; have := Box.new2 (w.alloc (.cells #[.slice a n c] 43)) (.cells #[.int .i64 i, .int .i64 u.1, .int .i64 u.2.1, .string u.2.2, .int .i64 v.1, .int .i64 v.2.1, .string v.2.2] 35) #[.int .i64 0, .int .i64 0, .string ⟨#[]⟩] 29; simpa using this
  have ec0 : w0.cell? ⟨w.heap.size, 0, none⟩ = some (.slice a n c) := Ew0.out.cell 0
  have el := Ew0.out.lt
  have rc0 : w0.cell? ⟨(w.heap.size + 1), 0, none⟩ = some (.int .i64 i) := Rw0.out.cell 0
  have rc1 : w0.cell? ⟨(w.heap.size + 1), 1, none⟩ = some (.int .i64 u.1) := Rw0.out.cell 1
  have rc2 : w0.cell? ⟨(w.heap.size + 1), 2, none⟩ = some (.int .i64 u.2.1) := Rw0.out.cell 2
  have rc3 : w0.cell? ⟨(w.heap.size + 1), 3, none⟩ = some (.string u.2.2) := Rw0.out.cell 3
  have rc4 : w0.cell? ⟨(w.heap.size + 1), 4, none⟩ = some (.int .i64 v.1) := Rw0.out.cell 4
  have rc5 : w0.cell? ⟨(w.heap.size + 1), 5, none⟩ = some (.int .i64 v.2.1) := Rw0.out.cell 5
  have rc6 : w0.cell? ⟨(w.heap.size + 1), 6, none⟩ = some (.string v.2.2) := Rw0.out.cell 6
  have rl := Rw0.out.lt
  have xc0 : w0.cell? ⟨(w.heap.size + 2), 0, none⟩ = some (.int .i64 0) := Xw0.out.cell 0
  have xc1 : w0.cell? ⟨(w.heap.size + 2), 1, none⟩ = some (.int .i64 0) := Xw0.out.cell 1
  have xc2 : w0.cell? ⟨(w.heap.size + 2), 2, none⟩ = some (.string ⟨#[]⟩) := Xw0.out.cell 2
  have xl := Xw0.out.lt
  have xt0 := Xw0.out.thaw 0
  have xt1 := Xw0.out.thaw 1
  have xt2 := Xw0.out.thaw 2
  go_enter Tryd.func16, Tryd.ntmps16
  go_wp2_with fail
  refine (CP.out w0 (Bw0.out)).mono ?_
  rintro e w1 ⟨rfl, hb⟩
  have Bw1 : Hid (Below w.heap.size w w1) := Bw0.out.trans (hb.mono Bw0.out.size)
  have Ew1 : Hid (Box w1 w.heap.size 43 #[.slice a n c]) := (Ew0.out).belowS hb
  have Rw1 : Hid (Box w1 (w.heap.size + 1) 35 #[.int .i64 i, .int .i64 u.1, .int .i64 u.2.1, .string u.2.2, .int .i64 v.1, .int .i64 v.2.1, .string v.2.2]) := (Rw0.out).belowS hb
  have Xw1 : Hid (Box w1 (w.heap.size + 2) 29 #[.int .i64 0, .int .i64 0, .string ⟨#[]⟩]) := (Xw0.out).belowS hb
  clear hb
  clear ec0 el rc0 rc1 rc2 rc3 rc4 rc5 rc6 rl xc0 xc1 xc2 xl xt0 xt1 xt2
  have ec0 : w1.cell? ⟨w.heap.size, 0, none⟩ = some (.slice a n c) := Ew1.out.cell 0
  have el := Ew1.out.lt
  have rc0 : w1.cell? ⟨(w.heap.size + 1), 0, none⟩ = some (.int .i64 i) := Rw1.out.cell 0
  have rc1 : w1.cell? ⟨(w.heap.size + 1), 1, none⟩ = some (.int .i64 u.1) := Rw1.out.cell 1
  have rc2 : w1.cell? ⟨(w.heap.size + 1), 2, none⟩ = some (.int .i64 u.2.1) := Rw1.out.cell 2
  have rc3 : w1.cell? ⟨(w.heap.size + 1), 3, none⟩ = some (.string u.2.2) := Rw1.out.cell 3
  have rc4 : w1.cell? ⟨(w.heap.size + 1), 4, none⟩ = some (.int .i64 v.1) := Rw1.out.cell 4
  have rc5 : w1.cell? ⟨(w.heap.size + 1), 5, none⟩ = some (.int .i64 v.2.1) := Rw1.out.cell 5
  have rc6 : w1.cell? ⟨(w.heap.size + 1), 6, none⟩ = some (.string v.2.2) := Rw1.out.cell 6
  have rl := Rw1.out.lt
  have xc0 : w1.cell? ⟨(w.heap.size + 2), 0, none⟩ = some (.int .i64 0) := Xw1.out.cell 0
  have xc1 : w1.cell? ⟨(w.heap.size + 2), 1, none⟩ = some (.int .i64 0) := Xw1.out.cell 1
  have xc2 : w1.cell? ⟨(w.heap.size + 2), 2, none⟩ = some (.string ⟨#[]⟩) := Xw1.out.cell 2
  have xl := Xw1.out.lt
  have xt0 := Xw1.out.thaw 0
  have xt1 := Xw1.out.thaw 1
  have xt2 := Xw1.out.thaw 2
  go_wp2_with fail
  refine (c_isRow i u v w1 h1 h2).mono ?_
  rintro e w2 ⟨rfl, hb⟩
  have Bw2 : Hid (Below w.heap.size w w2) := Bw1.out.trans (hb.mono Bw1.out.size)
  have Ew2 : Hid (Box w2 w.heap.size 43 #[.slice a n c]) := (Ew1.out).belowS hb
  have Rw2 : Hid (Box w2 (w.heap.size + 1) 35 #[.int .i64 i, .int .i64 u.1, .int .i64 u.2.1, .string u.2.2, .int .i64 v.1, .int .i64 v.2.1, .string v.2.2]) := (Rw1.out).belowS hb
  have Xw2 : Hid (Box w2 (w.heap.size + 2) 29 #[.int .i64 0, .int .i64 0, .string ⟨#[]⟩]) := (Xw1.out).belowS hb
  clear hb
  rw [rb]
  clear ec0 el rc0 rc1 rc2 rc3 rc4 rc5 rc6 rl xc0 xc1 xc2 xl xt0 xt1 xt2
  have ec0 : w2.cell? ⟨w.heap.size, 0, none⟩ = some (.slice a n c) := Ew2.out.cell 0
  have el := Ew2.out.lt
  have rc0 : w2.cell? ⟨(w.heap.size + 1), 0, none⟩ = some (.int .i64 i) := Rw2.out.cell 0
  have rc1 : w2.cell? ⟨(w.heap.size + 1), 1, none⟩ = some (.int .i64 u.1) := Rw2.out.cell 1
  have rc2 : w2.cell? ⟨(w.heap.size + 1), 2, none⟩ = some (.int .i64 u.2.1) := Rw2.out.cell 2
  have rc3 : w2.cell? ⟨(w.heap.size + 1), 3, none⟩ = some (.string u.2.2) := Rw2.out.cell 3
  have rc4 : w2.cell? ⟨(w.heap.size + 1), 4, none⟩ = some (.int .i64 v.1) := Rw2.out.cell 4
  have rc5 : w2.cell? ⟨(w.heap.size + 1), 5, none⟩ = some (.int .i64 v.2.1) := Rw2.out.cell 5
  have rc6 : w2.cell? ⟨(w.heap.size + 1), 6, none⟩ = some (.string v.2.2) := Rw2.out.cell 6
  have rl := Rw2.out.lt
  have xc0 : w2.cell? ⟨(w.heap.size + 2), 0, none⟩ = some (.int .i64 0) := Xw2.out.cell 0
  have xc1 : w2.cell? ⟨(w.heap.size + 2), 1, none⟩ = some (.int .i64 0) := Xw2.out.cell 1
  have xc2 : w2.cell? ⟨(w.heap.size + 2), 2, none⟩ = some (.string ⟨#[]⟩) := Xw2.out.cell 2
  have xl := Xw2.out.lt
  have xt0 := Xw2.out.thaw 0
  have xt1 := Xw2.out.thaw 1
  have xt2 := Xw2.out.thaw 2
  go_wp2
  refine ret32 Tryd.results16 rfl rfl rfl (put3_box Xw2.out _ _ _) ⟨?_, put3_below Bw2.out (by omega) _ _ _⟩
  rw [E.out]
  rfl
set_option maxRecDepth 100000 in
set_option maxHeartbeats 4000000 in
theorem c_iE_v (L : List EN) (a : Option Addr) (n c : Nat) (i : Int) (u v : VV) (w : World) (hr : RdE w a n L) (hn : n ≤ 1048576) (hs : ∀ x ∈ L, x.t.size ≤ maxLen) (h1 : u.2.2.size ≤ maxLen) (h2 : v.2.2.size ≤ maxLen) (T9 : TypeId) (y9 : Value) (CP : Hid (∀ W, Below w.heap.size w W → Calls Tryd.prog 33 #[.agg #[.slice a n c]] W fun e w' => e = .returned (.iface T9 y9) ∧ Below W.heap.size W w')) (rb : rowB i u v = true) (r : EV) (CV : Hid (∀ W, Calls Tryd.prog 35 #[.iface T9 y9, .agg #[.int .i64 i, .int .i64 u.1, .int .i64 u.2.1, .string u.2.2, .int .i64 v.1, .int .i64 v.2.1, .string v.2.2]] W fun e w' => e = .returned (.tuple #[.agg #[.int .i64 r.k, .int .i64 r.n, .string r.t], .int .i64 r.c]) ∧ Below W.heap.size W w')) (q : EV) (E : Hid (q = r)) :
    Calls Tryd.prog 16 #[.agg #[.slice a n c], .agg #[.int .i64 i, .int .i64 u.1, .int .i64 u.2.1, .string u.2.2, .int .i64 v.1, .int .i64 v.2.1, .string v.2.2]] w fun e w' => e = .returned (.tuple #[.agg #[.int .i64 q.k, .int .i64 q.n, .string q.t], .int .i64 q.c]) ∧ Below w.heap.size w w' := by
  obtain ⟨w0, hw0⟩ : ∃ V, ((w.alloc (.cells #[.slice a n c] 43)).alloc (.cells #[.int .i64 i, .int .i64 u.1, .int .i64 u.2.1, .string u.2.2, .int .i64 v.1, .int .i64 v.2.1, .string v.2.2] 35)).alloc (.cells #[.int .i64 0, .int .i64 0, .string ⟨#[]⟩] 29) = V := ⟨_, rfl⟩
  have Bw0 : Hid (Below w.heap.size w w0) := by unfold Hid; rw [← hw0]; exact ((((Below.refl _ _).alloc (Nat.le_refl _) _).alloc (by simp) _).alloc (by simp; omega) _)
  have Ew0 : Hid (Box w0 w.heap.size 43 #[.slice a n c]) := by unfold Hid; rw [← hw0]; exact (((Box.new _ _ _).alloc _).alloc _)
  have Rw0 : Hid (Box w0 (w.heap.size + 1) 35 #[.int .i64 i, .int .i64 u.1, .int .i64 u.2.1, .string u.2.2, .int .i64 v.1, .int .i64 v.2.1, .string v.2.2]) := by unfold Hid; rw [← hw0]; exact ((Box.new2 _ _ _ _).alloc _)
  have Xw0 : Hid (Box w0 (w.heap.size + 2) 29 #[.int .i64 0, .int .i64 0, .string ⟨#[]⟩]) := by unfold Hid; rw [← hw0]; have := Box.new2 (w.alloc (.cells #[.slice a n c] 43)) (.cells #[.int .i64 i, .int .i64 u.1, .int .i64 u.2.1, .string u.2.2, .int .i64 v.1, .int .i64 v.2.1, .string v.2.2] 35) #[.int .i64 0, .int .i64 0, .string ⟨#[]⟩] 29; simpa using this
  have ec0 : w0.cell? ⟨w.heap.size, 0, none⟩ = some (.slice a n c) := Ew0.out.cell 0
  have el := Ew0.out.lt
  have rc0 : w0.cell? ⟨(w.heap.size + 1), 0, none⟩ = some (.int .i64 i) := Rw0.out.cell 0
  have rc1 : w0.cell? ⟨(w.heap.size + 1), 1, none⟩ = some (.int .i64 u.1) := Rw0.out.cell 1
  have rc2 : w0.cell? ⟨(w.heap.size + 1), 2, none⟩ = some (.int .i64 u.2.1) := Rw0.out.cell 2
  have rc3 : w0.cell? ⟨(w.heap.size + 1), 3, none⟩ = some (.string u.2.2) := Rw0.out.cell 3
  have rc4 : w0.cell? ⟨(w.heap.size + 1), 4, none⟩ = some (.int .i64 v.1) := Rw0.out.cell 4
  have rc5 : w0.cell? ⟨(w.heap.size + 1), 5, none⟩ = some (.int .i64 v.2.1) := Rw0.out.cell 5
  have rc6 : w0.cell? ⟨(w.heap.size + 1), 6, none⟩ = some (.string v.2.2) := Rw0.out.cell 6
  have rl := Rw0.out.lt
  have xc0 : w0.cell? ⟨(w.heap.size + 2), 0, none⟩ = some (.int .i64 0) := Xw0.out.cell 0
  have xc1 : w0.cell? ⟨(w.heap.size + 2), 1, none⟩ = some (.int .i64 0) := Xw0.out.cell 1
  have xc2 : w0.cell? ⟨(w.heap.size + 2), 2, none⟩ = some (.string ⟨#[]⟩) := Xw0.out.cell 2
  have xl := Xw0.out.lt
  have xt0 := Xw0.out.thaw 0
  have xt1 := Xw0.out.thaw 1
  have xt2 := Xw0.out.thaw 2
  go_enter Tryd.func16, Tryd.ntmps16
  go_wp2_with fail
  refine (CP.out w0 (Bw0.out)).mono ?_
  rintro e w1 ⟨rfl, hb⟩
  have Bw1 : Hid (Below w.heap.size w w1) := Bw0.out.trans (hb.mono Bw0.out.size)
  have Ew1 : Hid (Box w1 w.heap.size 43 #[.slice a n c]) := (Ew0.out).belowS hb
  have Rw1 : Hid (Box w1 (w.heap.size + 1) 35 #[.int .i64 i, .int .i64 u.1, .int .i64 u.2.1, .string u.2.2, .int .i64 v.1, .int .i64 v.2.1, .string v.2.2]) := (Rw0.out).belowS hb
  have Xw1 : Hid (Box w1 (w.heap.size + 2) 29 #[.int .i64 0, .int .i64 0, .string ⟨#[]⟩]) := (Xw0.out).belowS hb
  clear hb
  clear ec0 el rc0 rc1 rc2 rc3 rc4 rc5 rc6 rl xc0 xc1 xc2 xl xt0 xt1 xt2
  have ec0 : w1.cell? ⟨w.heap.size, 0, none⟩ = some (.slice a n c) := Ew1.out.cell 0
  have el := Ew1.out.lt
  have rc0 : w1.cell? ⟨(w.heap.size + 1), 0, none⟩ = some (.int .i64 i) := Rw1.out.cell 0
  have rc1 : w1.cell? ⟨(w.heap.size + 1), 1, none⟩ = some (.int .i64 u.1) := Rw1.out.cell 1
  have rc2 : w1.cell? ⟨(w.heap.size + 1), 2, none⟩ = some (.int .i64 u.2.1) := Rw1.out.cell 2
  have rc3 : w1.cell? ⟨(w.heap.size + 1), 3, none⟩ = some (.string u.2.2) := Rw1.out.cell 3
  have rc4 : w1.cell? ⟨(w.heap.size + 1), 4, none⟩ = some (.int .i64 v.1) := Rw1.out.cell 4
  have rc5 : w1.cell? ⟨(w.heap.size + 1), 5, none⟩ = some (.int .i64 v.2.1) := Rw1.out.cell 5
  have rc6 : w1.cell? ⟨(w.heap.size + 1), 6, none⟩ = some (.string v.2.2) := Rw1.out.cell 6
  have rl := Rw1.out.lt
  have xc0 : w1.cell? ⟨(w.heap.size + 2), 0, none⟩ = some (.int .i64 0) := Xw1.out.cell 0
  have xc1 : w1.cell? ⟨(w.heap.size + 2), 1, none⟩ = some (.int .i64 0) := Xw1.out.cell 1
  have xc2 : w1.cell? ⟨(w.heap.size + 2), 2, none⟩ = some (.string ⟨#[]⟩) := Xw1.out.cell 2
  have xl := Xw1.out.lt
  have xt0 := Xw1.out.thaw 0
  have xt1 := Xw1.out.thaw 1
  have xt2 := Xw1.out.thaw 2
  go_wp2_with fail
  refine (c_isRow i u v w1 h1 h2).mono ?_
  rintro e w2 ⟨rfl, hb⟩
  have Bw2 : Hid (Below w.heap.size w w2) := Bw1.out.trans (hb.mono Bw1.out.size)
  have Ew2 : Hid (Box w2 w.heap.size 43 #[.slice a n c]) := (Ew1.out).belowS hb
  have Rw2 : Hid (Box w2 (w.heap.size + 1) 35 #[.int .i64 i, .int .i64 u.1, .int .i64 u.2.1, .string u.2.2, .int .i64 v.1, .int .i64 v.2.1, .string v.2.2]) := (Rw1.out).belowS hb
  have Xw2 : Hid (Box w2 (w.heap.size + 2) 29 #[.int .i64 0, .int .i64 0, .string ⟨#[]⟩]) := (Xw1.out).belowS hb
  clear hb
  rw [rb]
  clear ec0 el rc0 rc1 rc2 rc3 rc4 rc5 rc6 rl xc0 xc1 xc2 xl xt0 xt1 xt2
  have ec0 : w2.cell? ⟨w.heap.size, 0, none⟩ = some (.slice a n c) := Ew2.out.cell 0
  have el := Ew2.out.lt
  have rc0 : w2.cell? ⟨(w.heap.size + 1), 0, none⟩ = some (.int .i64 i) := Rw2.out.cell 0
  have rc1 : w2.cell? ⟨(w.heap.size + 1), 1, none⟩ = some (.int .i64 u.1) := Rw2.out.cell 1
  have rc2 : w2.cell? ⟨(w.heap.size + 1), 2, none⟩ = some (.int .i64 u.2.1) := Rw2.out.cell 2
  have rc3 : w2.cell? ⟨(w.heap.size + 1), 3, none⟩ = some (.string u.2.2) := Rw2.out.cell 3
  have rc4 : w2.cell? ⟨(w.heap.size + 1), 4, none⟩ = some (.int .i64 v.1) := Rw2.out.cell 4
  have rc5 : w2.cell? ⟨(w.heap.size + 1), 5, none⟩ = some (.int .i64 v.2.1) := Rw2.out.cell 5
  have rc6 : w2.cell? ⟨(w.heap.size + 1), 6, none⟩ = some (.string v.2.2) := Rw2.out.cell 6
  have rl := Rw2.out.lt
  have xc0 : w2.cell? ⟨(w.heap.size + 2), 0, none⟩ = some (.int .i64 0) := Xw2.out.cell 0
  have xc1 : w2.cell? ⟨(w.heap.size + 2), 1, none⟩ = some (.int .i64 0) := Xw2.out.cell 1
  have xc2 : w2.cell? ⟨(w.heap.size + 2), 2, none⟩ = some (.string ⟨#[]⟩) := Xw2.out.cell 2
  have xl := Xw2.out.lt
  have xt0 := Xw2.out.thaw 0
  have xt1 := Xw2.out.thaw 1
  have xt2 := Xw2.out.thaw 2
  go_wp2_with fail
  refine (CV.out w2).mono ?_
  rintro e w3 ⟨rfl, hb⟩
  have Bw3 : Hid (Below w.heap.size w w3) := Bw2.out.trans (hb.mono Bw2.out.size)
  have Ew3 : Hid (Box w3 w.heap.size 43 #[.slice a n c]) := (Ew2.out).belowS hb
  have Rw3 : Hid (Box w3 (w.heap.size + 1) 35 #[.int .i64 i, .int .i64 u.1, .int .i64 u.2.1, .string u.2.2, .int .i64 v.1, .int .i64 v.2.1, .string v.2.2]) := (Rw2.out).belowS hb
  have Xw3 : Hid (Box w3 (w.heap.size + 2) 29 #[.int .i64 0, .int .i64 0, .string ⟨#[]⟩]) := (Xw2.out).belowS hb
  clear hb
  clear ec0 el rc0 rc1 rc2 rc3 rc4 rc5 rc6 rl xc0 xc1 xc2 xl xt0 xt1 xt2
  have xc0 : w3.cell? ⟨(w.heap.size + 2), 0, none⟩ = some (.int .i64 0) := Xw3.out.cell 0
  have xc1 : w3.cell? ⟨(w.heap.size + 2), 1, none⟩ = some (.int .i64 0) := Xw3.out.cell 1
  have xc2 : w3.cell? ⟨(w.heap.size + 2), 2, none⟩ = some (.string ⟨#[]⟩) := Xw3.out.cell 2
  have xl := Xw3.out.lt
  have xt0 := Xw3.out.thaw 0
  have xt1 := Xw3.out.thaw 1
  have xt2 := Xw3.out.thaw 2
  go_wp2
  refine ret32 Tryd.results16 rfl rfl rfl (put3_box Xw3.out _ _ _) ⟨?_, put3_below Bw3.out (by omega) _ _ _⟩
  rw [E.out]
  rfl
theorem c_implEV (L : List EN) (a : Option Addr) (n c : Nat) (i : Int) (u v : VV) (w : World) (hr : RdE w a n L) (hn : n ≤ 1048576) (hs : ∀ x ∈ L, x.t.size ≤ maxLen) (h1 : u.2.2.size ≤ maxLen) (h2 : v.2.2.size ≤ maxLen) : Calls Tryd.prog 16 #[.agg #[.slice a n c], .agg #[.int .i64 i, .int .i64 u.1, .int .i64 u.2.1, .string u.2.2, .int .i64 v.1, .int .i64 v.2.1, .string v.2.2]] w fun e w' => e = .returned (.tuple #[.agg #[.int .i64 (evA L n i u v).k, .int .i64 (evA L n i u v).n, .string (evA L n i u v).t], .int .i64 (evA L n i u v).c]) ∧ Below w.heap.size w w' := by
  have CP : Hid (∀ W, Below w.heap.size w W → Calls Tryd.prog 33 #[.agg #[.slice a n c]] W fun e w' => e = .returned (encT (topX L n)) ∧ Below W.heap.size W w') := fun W hW => c_partOf L a n c W (hr.below hW) hn hs
  cases e : topX L n with
  | none =>
    rw [e] at CP
    exact c_iE_n L a n c i u v w hr hn hs h1 h2 CP _ (by unfold Hid evA; rw [e])
  | some p =>
    rw [e] at CP
    obtain ⟨T9, y9, hy⟩ := encI p
    simp only [encT] at CP
    rw [hy] at CP
    cases rb : rowB i u v
    · exact c_iE_r L a n c i u v w hr hn hs h1 h2 T9 y9 CP rb _ (by unfold Hid evA; rw [e]; simp only [rb]; rfl)
    · obtain ⟨r0, r1, r2⟩ := row_partsX rb
      have CV : Hid (∀ W, Calls Tryd.prog 35 #[p.enc, .agg #[.int .i64 i, .int .i64 u.1, .int .i64 u.2.1, .string u.2.2, .int .i64 v.1, .int .i64 v.2.1, .string v.2.2]] W fun e w' => e = .returned (.tuple #[.agg #[.int .i64 (evE p i u v).k, .int .i64 (evE p i u v).n, .string (evE p i u v).t], .int .i64 (evE p i u v).c]) ∧ Below W.heap.size W w') := fun W => c_pv i u v r0 r1 r2 p (pF_ok L n n p 0 (top_some e)) W
      rw [hy] at CV
      exact c_iE_v L a n c i u v w hr hn hs h1 h2 T9 y9 CP rb (evE p i u v) CV _ (by unfold Hid evA; rw [e]; simp only [rb]; rfl)
set_option maxRecDepth 100000 in
set_option maxHeartbeats 4000000 in
theorem c_sE_n (L : List EN) (a : Option Addr) (n c : Nat) (i : Int) (u v : VV) (w : World) (hr : RdE w a n L) (hn : n ≤ 1048576) (hs : ∀ x ∈ L, x.t.size ≤ maxLen) (h1 : u.2.2.size ≤ maxLen) (h2 : v.2.2.size ≤ maxLen) (CO : Hid (∀ W, Below w.heap.size w W → Calls Tryd.prog 36 #[.agg #[.slice a n c]] W fun e w' => e = .returned (.bool false) ∧ Below W.heap.size W w')) (q : EV) (E : Hid (q = errE 1)) :
    Calls Tryd.prog 17 #[.agg #[.slice a n c], .agg #[.int .i64 i, .int .i64 u.1, .int .i64 u.2.1, .string u.2.2, .int .i64 v.1, .int .i64 v.2.1, .string v.2.2]] w fun e w' => e = .returned (.tuple #[.agg #[.int .i64 q.k, .int .i64 q.n, .string q.t], .int .i64 q.c]) ∧ Below w.heap.size w w' := by
  obtain ⟨w0, hw0⟩ : ∃ V, ((w.alloc (.cells #[.slice a n c] 43)).alloc (.cells #[.int .i64 i, .int .i64 u.1, .int .i64 u.2.1, .string u.2.2, .int .i64 v.1, .int .i64 v.2.1, .string v.2.2] 35)).alloc (.cells #[.int .i64 0, .int .i64 0, .string ⟨#[]⟩] 29) = V := ⟨_, rfl⟩
  have Bw0 : Hid (Below w.heap.size w w0) := by unfold Hid; rw [← hw0]; exact ((((Below.refl _ _).alloc (Nat.le_refl _) _).alloc (by simp) _).alloc (by simp; omega) _)
  have Ew0 : Hid (Box w0 w.heap.size 43 #[.slice a n c]) := by unfold Hid; rw [← hw0]; exact (((Box.new _ _ _).alloc _).alloc _)
  have Rw0 : Hid (Box w0 (w.heap.size + 1) 35 #[.int .i64 i, .int .i64 u.1, .int .i64 u.2.1, .string u.2.2, .int .i64 v.1, .int .i64 v.2.1, .string v.2.2]) := by unfold Hid; rw [← hw0]; exact ((Box.new2 _ _ _ _).alloc _)
  have Xw0 : Hid (Box w0 (w.heap.size + 2) 29 #[.int .i64 0, .int .i64 0, .string ⟨#[]⟩]) := by unfold Hid; rw [← hw0]; have := Box.new2 (w.alloc (.cells #[.slice a n c] 43)) (.cells #[.int .i64 i, .int .i64 u.1, .int .i64 u.2.1, .string u.2.2, .int .i64 v.1, .int .i64 v.2.1, .string v.2.2] 35) #[.int .i64 0, .int .i64 0, .string ⟨#[]⟩] 29; simpa using this
  have ec0 : w0.cell? ⟨w.heap.size, 0, none⟩ = some (.slice a n c) := Ew0.out.cell 0
  have el := Ew0.out.lt
  have rc0 : w0.cell? ⟨(w.heap.size + 1), 0, none⟩ = some (.int .i64 i) := Rw0.out.cell 0
  have rc1 : w0.cell? ⟨(w.heap.size + 1), 1, none⟩ = some (.int .i64 u.1) := Rw0.out.cell 1
  have rc2 : w0.cell? ⟨(w.heap.size + 1), 2, none⟩ = some (.int .i64 u.2.1) := Rw0.out.cell 2
  have rc3 : w0.cell? ⟨(w.heap.size + 1), 3, none⟩ = some (.string u.2.2) := Rw0.out.cell 3
  have rc4 : w0.cell? ⟨(w.heap.size + 1), 4, none⟩ = some (.int .i64 v.1) := Rw0.out.cell 4
  have rc5 : w0.cell? ⟨(w.heap.size + 1), 5, none⟩ = some (.int .i64 v.2.1) := Rw0.out.cell 5
  have rc6 : w0.cell? ⟨(w.heap.size + 1), 6, none⟩ = some (.string v.2.2) := Rw0.out.cell 6
  have rl := Rw0.out.lt
  have xc0 : w0.cell? ⟨(w.heap.size + 2), 0, none⟩ = some (.int .i64 0) := Xw0.out.cell 0
  have xc1 : w0.cell? ⟨(w.heap.size + 2), 1, none⟩ = some (.int .i64 0) := Xw0.out.cell 1
  have xc2 : w0.cell? ⟨(w.heap.size + 2), 2, none⟩ = some (.string ⟨#[]⟩) := Xw0.out.cell 2
  have xl := Xw0.out.lt
  have xt0 := Xw0.out.thaw 0
  have xt1 := Xw0.out.thaw 1
  have xt2 := Xw0.out.thaw 2
  go_enter Tryd.func17, Tryd.ntmps17
  go_wp2_with fail
  refine (CO.out w0 (Bw0.out)).mono ?_
  rintro e w1 ⟨rfl, hb⟩
  have Bw1 : Hid (Below w.heap.size w w1) := Bw0.out.trans (hb.mono Bw0.out.size)
  have Ew1 : Hid (Box w1 w.heap.size 43 #[.slice a n c]) := (Ew0.out).belowS hb
  have Rw1 : Hid (Box w1 (w.heap.size + 1) 35 #[.int .i64 i, .int .i64 u.1, .int .i64 u.2.1, .string u.2.2, .int .i64 v.1, .int .i64 v.2.1, .string v.2.2]) := (Rw0.out).belowS hb
  have Xw1 : Hid (Box w1 (w.heap.size + 2) 29 #[.int .i64 0, .int .i64 0, .string ⟨#[]⟩]) := (Xw0.out).belowS hb
  clear hb
  clear ec0 el rc0 rc1 rc2 rc3 rc4 rc5 rc6 rl xc0 xc1 xc2 xl xt0 xt1 xt2
  have ec0 : w1.cell? ⟨w.heap.size, 0, none⟩ = some (.slice a n c) := Ew1.out.cell 0
  have el := Ew1.out.lt
  have rc0 : w1.cell? ⟨(w.heap.size + 1), 0, none⟩ = some (.int .i64 i) := Rw1.out.cell 0
  have rc1 : w1.cell? ⟨(w.heap.size + 1), 1, none⟩ = some (.int .i64 u.1) := Rw1.out.cell 1
  have rc2 : w1.cell? ⟨(w.heap.size + 1), 2, none⟩ = some (.int .i64 u.2.1) := Rw1.out.cell 2
  have rc3 : w1.cell? ⟨(w.heap.size + 1), 3, none⟩ = some (.string u.2.2) := Rw1.out.cell 3
  have rc4 : w1.cell? ⟨(w.heap.size + 1), 4, none⟩ = some (.int .i64 v.1) := Rw1.out.cell 4
  have rc5 : w1.cell? ⟨(w.heap.size + 1), 5, none⟩ = some (.int .i64 v.2.1) := Rw1.out.cell 5
  have rc6 : w1.cell? ⟨(w.heap.size + 1), 6, none⟩ = some (.string v.2.2) := Rw1.out.cell 6
  have rl := Rw1.out.lt
  have xc0 : w1.cell? ⟨(w.heap.size + 2), 0, none⟩ = some (.int .i64 0) := Xw1.out.cell 0
  have xc1 : w1.cell? ⟨(w.heap.size + 2), 1, none⟩ = some (.int .i64 0) := Xw1.out.cell 1
  have xc2 : w1.cell? ⟨(w.heap.size + 2), 2, none⟩ = some (.string ⟨#[]⟩) := Xw1.out.cell 2
  have xl := Xw1.out.lt
  have xt0 := Xw1.out.thaw 0
  have xt1 := Xw1.out.thaw 1
  have xt2 := Xw1.out.thaw 2
  go_wp2
  refine ret32 Tryd.results17 rfl rfl rfl (put3_box Xw1.out _ _ _) ⟨?_, put3_below Bw1.out (by omega) _ _ _⟩
  rw [E.out]
  rfl
set_option maxRecDepth 100000 in
set_option maxHeartbeats 4000000 in
theorem c_sE_r (L : List EN) (a : Option Addr) (n c : Nat) (i : Int) (u v : VV) (w : World) (hr : RdE w a n L) (hn : n ≤ 1048576) (hs : ∀ x ∈ L, x.t.size ≤ maxLen) (h1 : u.2.2.size ≤ maxLen) (h2 : v.2.2.size ≤ maxLen) (CO : Hid (∀ W, Below w.heap.size w W → Calls Tryd.prog 36 #[.agg #[.slice a n c]] W fun e w' => e = .returned (.bool true) ∧ Below W.heap.size W w')) (rb : rowB i u v = false) (q : EV) (E : Hid (q = errE 1)) :
    Calls Tryd.prog 17 #[.agg #[.slice a n c], .agg #[.int .i64 i, .int .i64 u.1, .int .i64 u.2.1, .string u.2.2, .int .i64 v.1, .int .i64 v.2.1, .string v.2.2]] w fun e w' => e = .returned (.tuple #[.agg #[.int .i64 q.k, .int .i64 q.n, .string q.t], .int .i64 q.c]) ∧ Below w.heap.size w w' := by
  obtain ⟨w0, hw0⟩ : ∃ V, ((w.alloc (.cells #[.slice a n c] 43)).alloc (.cells #[.int .i64 i, .int .i64 u.1, .int .i64 u.2.1, .string u.2.2, .int .i64 v.1, .int .i64 v.2.1, .string v.2.2] 35)).alloc (.cells #[.int .i64 0, .int .i64 0, .string ⟨#[]⟩] 29) = V := ⟨_, rfl⟩
  have Bw0 : Hid (Below w.heap.size w w0) := by unfold Hid; rw [← hw0]; exact ((((Below.refl _ _).alloc (Nat.le_refl _) _).alloc (by simp) _).alloc (by simp; omega) _)
  have Ew0 : Hid (Box w0 w.heap.size 43 #[.slice a n c]) := by unfold Hid; rw [← hw0]; exact (((Box.new _ _ _).alloc _).alloc _)
  have Rw0 : Hid (Box w0 (w.heap.size + 1) 35 #[.int .i64 i, .int .i64 u.1, .int .i64 u.2.1, .string u.2.2, .int .i64 v.1, .int .i64 v.2.1, .string v.2.2]) := by unfold Hid; rw [← hw0]; exact ((Box.new2 _ _ _ _).alloc _)
  have Xw0 : Hid (Box w0 (w.heap.size + 2) 29 #[.int .i64 0, .int .i64 0, .string ⟨#[]⟩]) := by unfold Hid; rw [← hw0]; have := Box.new2 (w.alloc (.cells #[.slice a n c] 43)) (.cells #[.int .i64 i, .int .i64 u.1, .int .i64 u.2.1, .string u.2.2, .int .i64 v.1, .int .i64 v.2.1, .string v.2.2] 35) #[.int .i64 0, .int .i64 0, .string ⟨#[]⟩] 29; simpa using this
  have ec0 : w0.cell? ⟨w.heap.size, 0, none⟩ = some (.slice a n c) := Ew0.out.cell 0
  have el := Ew0.out.lt
  have rc0 : w0.cell? ⟨(w.heap.size + 1), 0, none⟩ = some (.int .i64 i) := Rw0.out.cell 0
  have rc1 : w0.cell? ⟨(w.heap.size + 1), 1, none⟩ = some (.int .i64 u.1) := Rw0.out.cell 1
  have rc2 : w0.cell? ⟨(w.heap.size + 1), 2, none⟩ = some (.int .i64 u.2.1) := Rw0.out.cell 2
  have rc3 : w0.cell? ⟨(w.heap.size + 1), 3, none⟩ = some (.string u.2.2) := Rw0.out.cell 3
  have rc4 : w0.cell? ⟨(w.heap.size + 1), 4, none⟩ = some (.int .i64 v.1) := Rw0.out.cell 4
  have rc5 : w0.cell? ⟨(w.heap.size + 1), 5, none⟩ = some (.int .i64 v.2.1) := Rw0.out.cell 5
  have rc6 : w0.cell? ⟨(w.heap.size + 1), 6, none⟩ = some (.string v.2.2) := Rw0.out.cell 6
  have rl := Rw0.out.lt
  have xc0 : w0.cell? ⟨(w.heap.size + 2), 0, none⟩ = some (.int .i64 0) := Xw0.out.cell 0
  have xc1 : w0.cell? ⟨(w.heap.size + 2), 1, none⟩ = some (.int .i64 0) := Xw0.out.cell 1
  have xc2 : w0.cell? ⟨(w.heap.size + 2), 2, none⟩ = some (.string ⟨#[]⟩) := Xw0.out.cell 2
  have xl := Xw0.out.lt
  have xt0 := Xw0.out.thaw 0
  have xt1 := Xw0.out.thaw 1
  have xt2 := Xw0.out.thaw 2
  go_enter Tryd.func17, Tryd.ntmps17
  go_wp2_with fail
  refine (CO.out w0 (Bw0.out)).mono ?_
  rintro e w1 ⟨rfl, hb⟩
  have Bw1 : Hid (Below w.heap.size w w1) := Bw0.out.trans (hb.mono Bw0.out.size)
  have Ew1 : Hid (Box w1 w.heap.size 43 #[.slice a n c]) := (Ew0.out).belowS hb
  have Rw1 : Hid (Box w1 (w.heap.size + 1) 35 #[.int .i64 i, .int .i64 u.1, .int .i64 u.2.1, .string u.2.2, .int .i64 v.1, .int .i64 v.2.1, .string v.2.2]) := (Rw0.out).belowS hb
  have Xw1 : Hid (Box w1 (w.heap.size + 2) 29 #[.int .i64 0, .int .i64 0, .string ⟨#[]⟩]) := (Xw0.out).belowS hb
  clear hb
  clear ec0 el rc0 rc1 rc2 rc3 rc4 rc5 rc6 rl xc0 xc1 xc2 xl xt0 xt1 xt2
  have ec0 : w1.cell? ⟨w.heap.size, 0, none⟩ = some (.slice a n c) := Ew1.out.cell 0
  have el := Ew1.out.lt
  have rc0 : w1.cell? ⟨(w.heap.size + 1), 0, none⟩ = some (.int .i64 i) := Rw1.out.cell 0
  have rc1 : w1.cell? ⟨(w.heap.size + 1), 1, none⟩ = some (.int .i64 u.1) := Rw1.out.cell 1
  have rc2 : w1.cell? ⟨(w.heap.size + 1), 2, none⟩ = some (.int .i64 u.2.1) := Rw1.out.cell 2
  have rc3 : w1.cell? ⟨(w.heap.size + 1), 3, none⟩ = some (.string u.2.2) := Rw1.out.cell 3
  have rc4 : w1.cell? ⟨(w.heap.size + 1), 4, none⟩ = some (.int .i64 v.1) := Rw1.out.cell 4
  have rc5 : w1.cell? ⟨(w.heap.size + 1), 5, none⟩ = some (.int .i64 v.2.1) := Rw1.out.cell 5
  have rc6 : w1.cell? ⟨(w.heap.size + 1), 6, none⟩ = some (.string v.2.2) := Rw1.out.cell 6
  have rl := Rw1.out.lt
  have xc0 : w1.cell? ⟨(w.heap.size + 2), 0, none⟩ = some (.int .i64 0) := Xw1.out.cell 0
  have xc1 : w1.cell? ⟨(w.heap.size + 2), 1, none⟩ = some (.int .i64 0) := Xw1.out.cell 1
  have xc2 : w1.cell? ⟨(w.heap.size + 2), 2, none⟩ = some (.string ⟨#[]⟩) := Xw1.out.cell 2
  have xl := Xw1.out.lt
  have xt0 := Xw1.out.thaw 0
  have xt1 := Xw1.out.thaw 1
  have xt2 := Xw1.out.thaw 2
  go_wp2_with fail
  refine (c_lRow i u v w1 h1 h2).mono ?_
  rintro e w2 ⟨rfl, hb⟩
  have Bw2 : Hid (Below w.heap.size w w2) := Bw1.out.trans (hb.mono Bw1.out.size)
  have Ew2 : Hid (Box w2 w.heap.size 43 #[.slice a n c]) := (Ew1.out).belowS hb
  have Rw2 : Hid (Box w2 (w.heap.size + 1) 35 #[.int .i64 i, .int .i64 u.1, .int .i64 u.2.1, .string u.2.2, .int .i64 v.1, .int .i64 v.2.1, .string v.2.2]) := (Rw1.out).belowS hb
  have Xw2 : Hid (Box w2 (w.heap.size + 2) 29 #[.int .i64 0, .int .i64 0, .string ⟨#[]⟩]) := (Xw1.out).belowS hb
  clear hb
  rw [rb]
  clear ec0 el rc0 rc1 rc2 rc3 rc4 rc5 rc6 rl xc0 xc1 xc2 xl xt0 xt1 xt2
  have ec0 : w2.cell? ⟨w.heap.size, 0, none⟩ = some (.slice a n c) := Ew2.out.cell 0
  have el := Ew2.out.lt
  have rc0 : w2.cell? ⟨(w.heap.size + 1), 0, none⟩ = some (.int .i64 i) := Rw2.out.cell 0
  have rc1 : w2.cell? ⟨(w.heap.size + 1), 1, none⟩ = some (.int .i64 u.1) := Rw2.out.cell 1
  have rc2 : w2.cell? ⟨(w.heap.size + 1), 2, none⟩ = some (.int .i64 u.2.1) := Rw2.out.cell 2
  have rc3 : w2.cell? ⟨(w.heap.size + 1), 3, none⟩ = some (.string u.2.2) := Rw2.out.cell 3
  have rc4 : w2.cell? ⟨(w.heap.size + 1), 4, none⟩ = some (.int .i64 v.1) := Rw2.out.cell 4
  have rc5 : w2.cell? ⟨(w.heap.size + 1), 5, none⟩ = some (.int .i64 v.2.1) := Rw2.out.cell 5
  have rc6 : w2.cell? ⟨(w.heap.size + 1), 6, none⟩ = some (.string v.2.2) := Rw2.out.cell 6
  have rl := Rw2.out.lt
  have xc0 : w2.cell? ⟨(w.heap.size + 2), 0, none⟩ = some (.int .i64 0) := Xw2.out.cell 0
  have xc1 : w2.cell? ⟨(w.heap.size + 2), 1, none⟩ = some (.int .i64 0) := Xw2.out.cell 1
  have xc2 : w2.cell? ⟨(w.heap.size + 2), 2, none⟩ = some (.string ⟨#[]⟩) := Xw2.out.cell 2
  have xl := Xw2.out.lt
  have xt0 := Xw2.out.thaw 0
  have xt1 := Xw2.out.thaw 1
  have xt2 := Xw2.out.thaw 2
  go_wp2
  refine ret32 Tryd.results17 rfl rfl rfl (put3_box Xw2.out _ _ _) ⟨?_, put3_below Bw2.out (by omega) _ _ _⟩
  rw [E.out]
  rfl
set_option maxRecDepth 100000 in
set_option maxHeartbeats 4000000 in
theorem c_sE_v (L : List EN) (a : Option Addr) (n c : Nat) (i : Int) (u v : VV) (w : World) (hr : RdE w a n L) (hn : n ≤ 1048576) (hs : ∀ x ∈ L, x.t.size ≤ maxLen) (h1 : u.2.2.size ≤ maxLen) (h2 : v.2.2.size ≤ maxLen) (CO : Hid (∀ W, Below w.heap.size w W → Calls Tryd.prog 36 #[.agg #[.slice a n c]] W fun e w' => e = .returned (.bool true) ∧ Below W.heap.size W w')) (rb : rowB i u v = true) (r : EV) (CV : Hid (∀ W, Below w.heap.size w W → Calls Tryd.prog 37 #[.agg #[.slice a n c], .int .i64 ((n : Int) - 1), .agg #[.int .i64 i, .int .i64 u.1, .int .i64 u.2.1, .string u.2.2, .int .i64 v.1, .int .i64 v.2.1, .string v.2.2]] W fun e w' => e = .returned (.tuple #[.agg #[.int .i64 r.k, .int .i64 r.n, .string r.t], .int .i64 r.c]) ∧ Below W.heap.size W w')) (q : EV) (E : Hid (q = r)) :
    Calls Tryd.prog 17 #[.agg #[.slice a n c], .agg #[.int .i64 i, .int .i64 u.1, .int .i64 u.2.1, .string u.2.2, .int .i64 v.1, .int .i64 v.2.1, .string v.2.2]] w fun e w' => e = .returned (.tuple #[.agg #[.int .i64 q.k, .int .i64 q.n, .string q.t], .int .i64 q.c]) ∧ Below w.heap.size w w' := by
  obtain ⟨w0, hw0⟩ : ∃ V, ((w.alloc (.cells #[.slice a n c] 43)).alloc (.cells #[.int .i64 i, .int .i64 u.1, .int .i64 u.2.1, .string u.2.2, .int .i64 v.1, .int .i64 v.2.1, .string v.2.2] 35)).alloc (.cells #[.int .i64 0, .int .i64 0, .string ⟨#[]⟩] 29) = V := ⟨_, rfl⟩
  have Bw0 : Hid (Below w.heap.size w w0) := by unfold Hid; rw [← hw0]; exact ((((Below.refl _ _).alloc (Nat.le_refl _) _).alloc (by simp) _).alloc (by simp; omega) _)
  have Ew0 : Hid (Box w0 w.heap.size 43 #[.slice a n c]) := by unfold Hid; rw [← hw0]; exact (((Box.new _ _ _).alloc _).alloc _)
  have Rw0 : Hid (Box w0 (w.heap.size + 1) 35 #[.int .i64 i, .int .i64 u.1, .int .i64 u.2.1, .string u.2.2, .int .i64 v.1, .int .i64 v.2.1, .string v.2.2]) := by unfold Hid; rw [← hw0]; exact ((Box.new2 _ _ _ _).alloc _)
  have Xw0 : Hid (Box w0 (w.heap.size + 2) 29 #[.int .i64 0, .int .i64 0, .string ⟨#[]⟩]) := by unfold Hid; rw [← hw0]; have := Box.new2 (w.alloc (.cells #[.slice a n c] 43)) (.cells #[.int .i64 i, .int .i64 u.1, .int .i64 u.2.1, .string u.2.2, .int .i64 v.1, .int .i64 v.2.1, .string v.2.2] 35) #[.int .i64 0, .int .i64 0, .string ⟨#[]⟩] 29; simpa using this
  have ec0 : w0.cell? ⟨w.heap.size, 0, none⟩ = some (.slice a n c) := Ew0.out.cell 0
  have el := Ew0.out.lt
  have rc0 : w0.cell? ⟨(w.heap.size + 1), 0, none⟩ = some (.int .i64 i) := Rw0.out.cell 0
  have rc1 : w0.cell? ⟨(w.heap.size + 1), 1, none⟩ = some (.int .i64 u.1) := Rw0.out.cell 1
  have rc2 : w0.cell? ⟨(w.heap.size + 1), 2, none⟩ = some (.int .i64 u.2.1) := Rw0.out.cell 2
  have rc3 : w0.cell? ⟨(w.heap.size + 1), 3, none⟩ = some (.string u.2.2) := Rw0.out.cell 3
  have rc4 : w0.cell? ⟨(w.heap.size + 1), 4, none⟩ = some (.int .i64 v.1) := Rw0.out.cell 4
  have rc5 : w0.cell? ⟨(w.heap.size + 1), 5, none⟩ = some (.int .i64 v.2.1) := Rw0.out.cell 5
  have rc6 : w0.cell? ⟨(w.heap.size + 1), 6, none⟩ = some (.string v.2.2) := Rw0.out.cell 6
  have rl := Rw0.out.lt
  have xc0 : w0.cell? ⟨(w.heap.size + 2), 0, none⟩ = some (.int .i64 0) := Xw0.out.cell 0
  have xc1 : w0.cell? ⟨(w.heap.size + 2), 1, none⟩ = some (.int .i64 0) := Xw0.out.cell 1
  have xc2 : w0.cell? ⟨(w.heap.size + 2), 2, none⟩ = some (.string ⟨#[]⟩) := Xw0.out.cell 2
  have xl := Xw0.out.lt
  have xt0 := Xw0.out.thaw 0
  have xt1 := Xw0.out.thaw 1
  have xt2 := Xw0.out.thaw 2
  go_enter Tryd.func17, Tryd.ntmps17
  go_wp2_with fail
  refine (CO.out w0 (Bw0.out)).mono ?_
  rintro e w1 ⟨rfl, hb⟩
  have Bw1 : Hid (Below w.heap.size w w1) := Bw0.out.trans (hb.mono Bw0.out.size)
  have Ew1 : Hid (Box w1 w.heap.size 43 #[.slice a n c]) := (Ew0.out).belowS hb
  have Rw1 : Hid (Box w1 (w.heap.size + 1) 35 #[.int .i64 i, .int .i64 u.1, .int .i64 u.2.1, .string u.2.2, .int .i64 v.1, .int .i64 v.2.1, .string v.2.2]) := (Rw0.out).belowS hb
  have Xw1 : Hid (Box w1 (w.heap.size + 2) 29 #[.int .i64 0, .int .i64 0, .string ⟨#[]⟩]) := (Xw0.out).belowS hb
  clear hb
  clear ec0 el rc0 rc1 rc2 rc3 rc4 rc5 rc6 rl xc0 xc1 xc2 xl xt0 xt1 xt2
  have ec0 : w1.cell? ⟨w.heap.size, 0, none⟩ = some (.slice a n c) := Ew1.out.cell 0
  have el := Ew1.out.lt
  have rc0 : w1.cell? ⟨(w.heap.size + 1), 0, none⟩ = some (.int .i64 i) := Rw1.out.cell 0
  have rc1 : w1.cell? ⟨(w.heap.size + 1), 1, none⟩ = some (.int .i64 u.1) := Rw1.out.cell 1
  have rc2 : w1.cell? ⟨(w.heap.size + 1), 2, none⟩ = some (.int .i64 u.2.1) := Rw1.out.cell 2
  have rc3 : w1.cell? ⟨(w.heap.size + 1), 3, none⟩ = some (.string u.2.2) := Rw1.out.cell 3
  have rc4 : w1.cell? ⟨(w.heap.size + 1), 4, none⟩ = some (.int .i64 v.1) := Rw1.out.cell 4
  have rc5 : w1.cell? ⟨(w.heap.size + 1), 5, none⟩ = some (.int .i64 v.2.1) := Rw1.out.cell 5
  have rc6 : w1.cell? ⟨(w.heap.size + 1), 6, none⟩ = some (.string v.2.2) := Rw1.out.cell 6
  have rl := Rw1.out.lt
  have xc0 : w1.cell? ⟨(w.heap.size + 2), 0, none⟩ = some (.int .i64 0) := Xw1.out.cell 0
  have xc1 : w1.cell? ⟨(w.heap.size + 2), 1, none⟩ = some (.int .i64 0) := Xw1.out.cell 1
  have xc2 : w1.cell? ⟨(w.heap.size + 2), 2, none⟩ = some (.string ⟨#[]⟩) := Xw1.out.cell 2
  have xl := Xw1.out.lt
  have xt0 := Xw1.out.thaw 0
  have xt1 := Xw1.out.thaw 1
  have xt2 := Xw1.out.thaw 2
  go_wp2_with fail
  refine (c_lRow i u v w1 h1 h2).mono ?_
  rintro e w2 ⟨rfl, hb⟩
  have Bw2 : Hid (Below w.heap.size w w2) := Bw1.out.trans (hb.mono Bw1.out.size)
  have Ew2 : Hid (Box w2 w.heap.size 43 #[.slice a n c]) := (Ew1.out).belowS hb
  have Rw2 : Hid (Box w2 (w.heap.size + 1) 35 #[.int .i64 i, .int .i64 u.1, .int .i64 u.2.1, .string u.2.2, .int .i64 v.1, .int .i64 v.2.1, .string v.2.2]) := (Rw1.out).belowS hb
  have Xw2 : Hid (Box w2 (w.heap.size + 2) 29 #[.int .i64 0, .int .i64 0, .string ⟨#[]⟩]) := (Xw1.out).belowS hb
  clear hb
  rw [rb]
  clear ec0 el rc0 rc1 rc2 rc3 rc4 rc5 rc6 rl xc0 xc1 xc2 xl xt0 xt1 xt2
  have ec0 : w2.cell? ⟨w.heap.size, 0, none⟩ = some (.slice a n c) := Ew2.out.cell 0
  have el := Ew2.out.lt
  have rc0 : w2.cell? ⟨(w.heap.size + 1), 0, none⟩ = some (.int .i64 i) := Rw2.out.cell 0
  have rc1 : w2.cell? ⟨(w.heap.size + 1), 1, none⟩ = some (.int .i64 u.1) := Rw2.out.cell 1
  have rc2 : w2.cell? ⟨(w.heap.size + 1), 2, none⟩ = some (.int .i64 u.2.1) := Rw2.out.cell 2
  have rc3 : w2.cell? ⟨(w.heap.size + 1), 3, none⟩ = some (.string u.2.2) := Rw2.out.cell 3
  have rc4 : w2.cell? ⟨(w.heap.size + 1), 4, none⟩ = some (.int .i64 v.1) := Rw2.out.cell 4
  have rc5 : w2.cell? ⟨(w.heap.size + 1), 5, none⟩ = some (.int .i64 v.2.1) := Rw2.out.cell 5
  have rc6 : w2.cell? ⟨(w.heap.size + 1), 6, none⟩ = some (.string v.2.2) := Rw2.out.cell 6
  have rl := Rw2.out.lt
  have xc0 : w2.cell? ⟨(w.heap.size + 2), 0, none⟩ = some (.int .i64 0) := Xw2.out.cell 0
  have xc1 : w2.cell? ⟨(w.heap.size + 2), 1, none⟩ = some (.int .i64 0) := Xw2.out.cell 1
  have xc2 : w2.cell? ⟨(w.heap.size + 2), 2, none⟩ = some (.string ⟨#[]⟩) := Xw2.out.cell 2
  have xl := Xw2.out.lt
  have xt0 := Xw2.out.thaw 0
  have xt1 := Xw2.out.thaw 1
  have xt2 := Xw2.out.thaw 2
  go_wp2_with fail
  refine (CV.out w2 (Bw2.out)).mono ?_
  rintro e w3 ⟨rfl, hb⟩
  have Bw3 : Hid (Below w.heap.size w w3) := Bw2.out.trans (hb.mono Bw2.out.size)
  have Ew3 : Hid (Box w3 w.heap.size 43 #[.slice a n c]) := (Ew2.out).belowS hb
  have Rw3 : Hid (Box w3 (w.heap.size + 1) 35 #[.int .i64 i, .int .i64 u.1, .int .i64 u.2.1, .string u.2.2, .int .i64 v.1, .int .i64 v.2.1, .string v.2.2]) := (Rw2.out).belowS hb
  have Xw3 : Hid (Box w3 (w.heap.size + 2) 29 #[.int .i64 0, .int .i64 0, .string ⟨#[]⟩]) := (Xw2.out).belowS hb
  clear hb
  clear ec0 el rc0 rc1 rc2 rc3 rc4 rc5 rc6 rl xc0 xc1 xc2 xl xt0 xt1 xt2
  have xc0 : w3.cell? ⟨(w.heap.size + 2), 0, none⟩ = some (.int .i64 0) := Xw3.out.cell 0
  have xc1 : w3.cell? ⟨(w.heap.size + 2), 1, none⟩ = some (.int .i64 0) := Xw3.out.cell 1
  have xc2 : w3.cell? ⟨(w.heap.size + 2), 2, none⟩ = some (.string ⟨#[]⟩) := Xw3.out.cell 2
  have xl := Xw3.out.lt
  have xt0 := Xw3.out.thaw 0
  have xt1 := Xw3.out.thaw 1
  have xt2 := Xw3.out.thaw 2
  go_wp2
  refine ret32 Tryd.results17 rfl rfl rfl (put3_box Xw3.out _ _ _) ⟨?_, put3_below Bw3.out (by omega) _ _ _⟩
  rw [E.out]
  rfl
theorem c_specEV (L : List EN) (a : Option Addr) (n c : Nat) (i : Int) (u v : VV) (w : World) (hr : RdE w a n L) (hn : n ≤ 1048576) (hs : ∀ x ∈ L, x.t.size ≤ maxLen) (h1 : u.2.2.size ≤ maxLen) (h2 : v.2.2.size ≤ maxLen) : Calls Tryd.prog 17 #[.agg #[.slice a n c], .agg #[.int .i64 i, .int .i64 u.1, .int .i64 u.2.1, .string u.2.2, .int .i64 v.1, .int .i64 v.2.1, .string v.2.2]] w fun e w' => e = .returned (.tuple #[.agg #[.int .i64 (evA L n i u v).k, .int .i64 (evA L n i u v).n, .string (evA L n i u v).t], .int .i64 (evA L n i u v).c]) ∧ Below w.heap.size w w' := by
  have CO : Hid (∀ W, Below w.heap.size w W → Calls Tryd.prog 36 #[.agg #[.slice a n c]] W fun e w' => e = .returned (.bool (topX L n).isSome) ∧ Below W.heap.size W w') := fun W hW => by rw [top_ok]; exact c_specX L a n c W (hr.below hW) hn hs
  cases e : topX L n with
  | none =>
    rw [e] at CO
    exact c_sE_n L a n c i u v w hr hn hs h1 h2 CO _ (by unfold Hid evA; rw [e])
  | some p =>
    rw [e] at CO
    cases rb : rowB i u v
    · exact c_sE_r L a n c i u v w hr hn hs h1 h2 CO rb _ (by unfold Hid evA; rw [e]; simp only [rb]; rfl)
    · obtain ⟨r0, r1, r2⟩ := row_partsX rb
      have hp := top_some e
      have CV : Hid (∀ W, Below w.heap.size w W → Calls Tryd.prog 37 #[.agg #[.slice a n c], .int .i64 ((n : Int) - 1), .agg #[.int .i64 i, .int .i64 u.1, .int .i64 u.2.1, .string u.2.2, .int .i64 v.1, .int .i64 v.2.1, .string v.2.2]] W fun e w' => e = .returned (.tuple #[.agg #[.int .i64 (evE p i u v).k, .int .i64 (evE p i u v).n, .string (evE p i u v).t], .int .i64 (evE p i u v).c]) ∧ Below W.heap.size W w') := fun W hW => by
        have hn0 : 0 < n := by have := pF_lt L n n p 0 hp; omega
        obtain ⟨j, rfl⟩ : ∃ j, n = j + 1 := ⟨n - 1, by omega⟩
        rw [show ((j + 1 : Nat) : Int) - 1 = (j : Int) by omega]
        exact c_ev L a (j + 1) c i u v hn r0 r1 r2 (j + 1) j p 0 W hp (by omega) (hr.below hW)
      exact c_sE_v L a n c i u v w hr hn hs h1 h2 CO rb (evE p i u v) CV _ (by unfold Hid evA; rw [e]; simp only [rb]; rfl)

end Go.Proofs.YtcgcaomaofppiaaDoor
namespace Go.Proofs.YtcgcaomaofppiaaDoor
open Go Go.RowKit
attribute [local go_sem ↓] Go.wp_at_zero Go.wp_at_succ

set_option linter.unusedVariables false
set_option linter.unusedSimpArgs false
theorem txt_ok {k n : Int} {t : ByteArray} (h : valB k n t = true) : t.size ≤ maxLen := by
  have hl : t.toList.length = t.size := by simp [ByteArray.toList_eq]
  unfold valB at h
  repeat' split at h
  all_goals first | (simp at h; done) | (simp at h; unfold maxLen; first | omega | (simp_all; omega) | (simp_all; done) | (obtain ⟨_, h⟩ := h; rw [h] at hl; simp at hl; omega) | (unfold wordB at h; simp at h; omega))
theorem code_txt : ∀ (p : PT) (m : Nat), p.ok = true → ∀ x ∈ codeP p m, x.t.size ≤ maxLen
  | .con k n t, m, ok, x, hx => by
    simp only [codeP, List.mem_singleton] at hx
    subst hx
    exact txt_ok ok
  | .col c, m, ok, x, hx => by
    simp only [codeP, List.mem_singleton] at hx
    subst hx
    exact Nat.zero_le _
  | .una op p, m, ok, x, hx => by
    have ok2 : inB op 3 5 = true ∧ p.ok = true := by simpa [PT.ok] using ok
    rw [codeP] at hx
    rcases List.mem_append.1 hx with h | h
    · exact code_txt p m ok2.2 x h
    · simp only [List.mem_singleton] at h; subst h; exact Nat.zero_le _
  | .bin op l r, m, ok, x, hx => by
    have ok2 : inB op 6 13 = true ∧ l.ok = true ∧ r.ok = true := by simpa [PT.ok] using ok
    rw [codeP] at hx
    split at hx
    · rcases List.mem_append.1 hx with h | h
      · rcases List.mem_append.1 h with h | h
        · exact code_txt l _ ok2.2.1 x h
        · exact code_txt r _ ok2.2.2 x h
      · simp only [List.mem_singleton] at h; subst h; exact Nat.zero_le _
    · rcases List.mem_append.1 hx with h | h
      · rcases List.mem_append.1 h with h | h
        · rcases List.mem_append.1 h with h | h
          · exact code_txt l _ ok2.2.1 x h
          · simp only [List.mem_singleton] at h; subst h; exact Nat.zero_le _
        · exact code_txt r _ ok2.2.2 x h
      · simp only [List.mem_singleton] at h; subst h; exact Nat.zero_le _
theorem node_txt : ∀ (p : PT) (m : Nat), p.ok = true → ∀ x ∈ nodesP p m, x.t.size ≤ maxLen
  | .con k n t, m, ok, x, hx => by
    simp only [nodesP, List.mem_singleton] at hx
    subst hx
    exact txt_ok ok
  | .col c, m, ok, x, hx => by
    simp only [nodesP, List.mem_singleton] at hx
    subst hx
    exact Nat.zero_le _
  | .una op p, m, ok, x, hx => by
    have ok2 : inB op 3 5 = true ∧ p.ok = true := by simpa [PT.ok] using ok
    rw [nodesP] at hx
    rcases List.mem_append.1 hx with h | h
    · exact node_txt p m ok2.2 x h
    · simp only [List.mem_singleton] at h; subst h; exact Nat.zero_le _
  | .bin op l r, m, ok, x, hx => by
    have ok2 : inB op 6 13 = true ∧ l.ok = true ∧ r.ok = true := by simpa [PT.ok] using ok
    rw [nodesP] at hx
    rcases List.mem_append.1 hx with h | h
    · rcases List.mem_append.1 h with h | h
      · exact node_txt l _ ok2.2.1 x h
      · exact node_txt r _ ok2.2.2 x h
    · simp only [List.mem_singleton] at h; subst h; exact Nat.zero_le _
theorem una_err (op k n : Int) : (unaE op k n).c ≠ 0 → unaE op k n = errE (unaE op k n).c := by
  unfold unaE
  repeat' split
  all_goals (intro h; first | rfl | exact absurd rfl h)
theorem bin_err (op k n : Int) (t : ByteArray) (k' n' : Int) (t' : ByteArray) : (binR op k n t k' n' t').c ≠ 0 → ofB (binR op k n t k' n' t') = errE (binR op k n t k' n' t').c := by
  unfold binR reckB bndB
  repeat' split
  all_goals (intro h; first | rfl | exact absurd rfl h)
theorem ev_err : ∀ (p : PT) (i : Int) (u v : VV), (evE p i u v).c ≠ 0 → evE p i u v = errE (evE p i u v).c
  | .con _ _ _, i, u, v, h => absurd rfl h
  | .col c, i, u, v, h => absurd (col_c c i u v) h
  | .una op p, i, u, v, h => by
    by_cases hc : (evE p i u v).c = 0
    · rw [ev_una0 op hc] at h ⊢; exact una_err _ _ _ h
    · rw [ev_unaE op hc]; rfl
  | .bin op l r, i, u, v, h => by
    by_cases hl : (evE l i u v).c = 0
    · cases hd : decB op (evE l i u v).k (evE l i u v).n with
      | true => rw [ev_binD op r hl hd] at h; exact absurd rfl h
      | false =>
        by_cases hr : (evE r i u v).c = 0
        · rw [ev_bin0 op hl hd hr] at h ⊢; exact bin_err _ _ _ _ _ _ _ h
        · rw [ev_binR op hl hd hr]; rfl
    · rw [ev_binL op r hl]; rfl
/-- All that the answers say of a right part of 31 nodes at most. -/
theorem fc_all (p : PT) (ok : p.ok = true) (dep : p.dep ≤ 5) (cnt : p.cnt ≤ 31) (i : Int) (u v : VV) (row : rowB i u v = true) :
    topX (nodesP p 0) p.cnt = some p ∧ evA (nodesP p 0) p.cnt i u v = evE p i u v ∧ rcE (codeP p 0) (codeP p 0).length i u v = evE p i u v ∧ okC (codeP p 0).length (codeP p 0) = true ∧ cdC (codeP p 0).length (codeP p 0) = 0 ∧ 1 ≤ cdV (codeP p 0).length (codeP p 0) ∧ cdV (codeP p 0).length (codeP p 0) ≤ p.cnt := by
  have hl := code_len p 0
  have top : topX (nodesP p 0) p.cnt = some p := by
    have := pF_nodes (nodesP p 0) p 0 p.cnt ok (fun j hj => by rw [Nat.zero_add]) (Nat.le_refl _)
    rw [Nat.zero_add] at this
    unfold topX
    rw [if_neg (by omega), this]
    show (if 12 < p.dep then none else some p) = some p
    rw [if_neg (by omega)]
  obtain ⟨ds, hds, m1, m2⟩ := code_right p ok (by omega)
  have okc : okC (codeP p 0).length (codeP p 0) = true := by unfold okC; rw [decide_eq_true (by omega), hds]; rfl
  have hmx := resC_mx hds
  have dv : cdV (codeP p 0).length (codeP p 0) = mxF 0 ds := by unfold cdV depC; rw [okc, hds, hmx.2]; rfl
  refine ⟨top, by unfold evA; rw [top, row]; rfl, ?_, okc, by unfold cdC; rw [if_neg (by omega), okc]; rfl, by rw [dv]; exact m1, by rw [dv]; exact m2⟩
  unfold rcE
  rw [if_neg (by omega), okc, row]
  simp only [Bool.and_self, if_true]
  obtain ⟨_, h0, h1⟩ := run_all p i u v ((codeP p 0).length + 1) (by omega)
  unfold ranC
  by_cases hc : (evE p i u v).c = 0
  · exact h0 hc
  · rw [h1 hc]; exact (ev_err p i u v hc).symm
set_option maxRecDepth 100000 in
set_option maxHeartbeats 8000000 in
theorem law_FnCode (ma : Option Addr) (mn mc : Nat) (zs : List Int) (na : Option Addr) (nn nc : Nat) (ys : List Int) (w : World) (hr : RdV w ma mn (zs.map (Value.int .u8))) (hz : ∀ z ∈ zs, 0 ≤ z ∧ z < 256) (hr' : RdV w na nn (ys.map (Value.int .u8))) (hz' : ∀ z ∈ ys, 0 ≤ z ∧ z < 256) (ht : TakH w) :
    Calls Tryd.prog 4 #[.slice ma mn mc, .slice na nn nc] w fun e w' => e = .returned (.bool true) ∧ Below w.heap.size w w' := by
  by_cases hm : 1048576 < mn
  · have g1 : (1048576 : Int) < (mn : Int) := by omega
    clear hr hr' ht hz hz'
    go_enter Tryd.func4, Tryd.ntmps4
    go_wp2
    go_ret
    exact ⟨rfl, Below.refl _ _⟩
  have g1 : ¬ (1048576 : Int) < (mn : Int) := by omega
  by_cases hn : 1048576 < nn
  · have g2 : (1048576 : Int) < (nn : Int) := by omega
    clear hr hr' ht hz hz'
    go_enter Tryd.func4, Tryd.ntmps4
    go_wp2
    go_ret
    exact ⟨rfl, Below.refl _ _⟩
  have g2 : ¬ (1048576 : Int) < (nn : Int) := by omega
  have CX := c_exprOf ma mn mc zs w hr hz (by omega)
  have CR : Hid (∀ W, Below w.heap.size w W → Calls Tryd.prog 14 #[.slice na nn nc] W fun e w' => RPost e ∧ Below W.heap.size W w') := fun W hW => c_rowOf na nn nc ys W (hr'.below hW) hz' (by omega)
  have TK : Hid (∀ W, Below w.heap.size w W → TakH W) := fun W hW => ht.below hW
  clear hr hr' hz hz' ht
  go_enter Tryd.func4, Tryd.ntmps4
  go_wp2_with fail
  refine CX.mono ?_
  rintro e w1 ⟨⟨p, L, ea, ec, rfl, Hp, hc, hl, ho⟩, hb⟩
  have Bw1 : Hid (Below w.heap.size w w1) := hb
  have REw1 : Hid (RdE w1 ea L.length L) := RdE.own ho
  have HL : Hid (L.length = p.cnt) := hl
  have HC : Hid (p.cnt ≤ 31) := hc
  have hL : L.length ≤ 31 := by omega
  clear CX hb ho hl hc
  obtain ⟨v1, hv1⟩ : ∃ W, w1.alloc (.cells #[.slice ea L.length ec] 43) = W := ⟨_, rfl⟩
  have hb : Below w1.heap.size w1 v1 := by rw [← hv1]; exact (Below.refl _ _).alloc (Nat.le_refl _) _
  have Ev1 : Hid (Box v1 w1.heap.size 43 #[.slice ea L.length ec]) := by unfold Hid; rw [← hv1]; exact Box.new _ _ _
  have Bv1 : Hid (Below w.heap.size w v1) := Bw1.out.trans (hb.mono Bw1.out.size)
  have REv1 : Hid (RdE v1 ea L.length L) := REw1.out.below hb
  have sv1 : w1.heap.size ≤ v1.heap.size := hb.size
  clear hb Bw1  REw1
  have C2 := CR.out v1 Bv1.out
  clear CR
  go_wp2_with fail
  refine C2.mono ?_
  rintro e w2 ⟨⟨i, u, v, rfl, hrow⟩, hb⟩
  have Bw2 : Hid (Below w.heap.size w w2) := Bv1.out.trans (hb.mono Bv1.out.size)
  have Ew2 : Hid (Box w2 w1.heap.size 43 #[.slice ea L.length ec]) := Ev1.out.belowS hb
  have REw2 : Hid (RdE w2 ea L.length L) := REv1.out.below hb
  have sw2 : v1.heap.size ≤ w2.heap.size := hb.size
  clear hb Bv1 Ev1 REv1
  clear C2 hv1
  obtain ⟨v2, hv2⟩ : ∃ W, w2.alloc (.cells #[.int .i64 i, .int .i64 u.1, .int .i64 u.2.1, .string u.2.2, .int .i64 v.1, .int .i64 v.2.1, .string v.2.2] 35) = W := ⟨_, rfl⟩
  have hb : Below w2.heap.size w2 v2 := by rw [← hv2]; exact (Below.refl _ _).alloc (Nat.le_refl _) _
  have Rrv2 : Hid (Box v2 w2.heap.size 35 #[.int .i64 i, .int .i64 u.1, .int .i64 u.2.1, .string u.2.2, .int .i64 v.1, .int .i64 v.2.1, .string v.2.2]) := by unfold Hid; rw [← hv2]; exact Box.new _ _ _
  have Bv2 : Hid (Below w.heap.size w v2) := Bw2.out.trans (hb.mono Bw2.out.size)
  have Ev2 : Hid (Box v2 w1.heap.size 43 #[.slice ea L.length ec]) := Ew2.out.belowS hb
  have REv2 : Hid (RdE v2 ea L.length L) := REw2.out.below hb
  have sv2 : w2.heap.size ≤ v2.heap.size := hb.size
  clear hb Bw2 Ew2 REw2
  obtain ⟨hLn, hok, hdep⟩ := Hp.out
  obtain ⟨f1, f2, f3, f4, f5, f6, f7⟩ := fc_all p hok hdep HC.out i u v hrow
  obtain ⟨C, hC⟩ : ∃ C, codeP p 0 = C := ⟨_, rfl⟩
  obtain ⟨q, hq⟩ : ∃ q, evE p i u v = q := ⟨_, rfl⟩
  obtain ⟨dv, hdv⟩ : ∃ z, cdV C.length C = z := ⟨_, rfl⟩
  have hCl : C.length ≤ 80 := by rw [← hC]; have := code_len p 0; have := HC.out; omega
  have hCt : ∀ x ∈ C, x.t.size ≤ maxLen := by rw [← hC]; exact code_txt p 0 hok
  have hLt : ∀ x ∈ L, x.t.size ≤ maxLen := by rw [hLn]; exact node_txt p 0 hok
  obtain ⟨rp0, rp1, rp2⟩ := row_parts hrow
  have h1 := txt_ok rp1
  have h2 := txt_ok rp2
  rw [hC, hq] at f3
  rw [hC] at f4 f5 f6 f7
  rw [hq] at f2
  rw [hdv] at f6 f7
  rw [← hLn, ← HL.out] at f1 f2
  rw [← HL.out] at f7
  have eC : KX.ceL L L.length = C ∧ KX.ceC L L.length = 0 := by unfold KX.ceL KX.ceC; rw [f1]; exact ⟨hC, rfl⟩
  have C3 := KX.c_implCE L ea L.length ec v2 REv2.out (by omega) hLt
  rw [eC.1, eC.2] at C3
  have CEi : Hid (∀ W, RdE W ea L.length L → Calls Tryd.prog 16 #[.agg #[.slice ea L.length ec], .agg #[.int .i64 i, .int .i64 u.1, .int .i64 u.2.1, .string u.2.2, .int .i64 v.1, .int .i64 v.2.1, .string v.2.2]] W fun e w' => e = .returned (.tuple #[.agg #[.int .i64 q.k, .int .i64 q.n, .string q.t], .int .i64 q.c]) ∧ Below W.heap.size W w') := fun W hW => by have := c_implEV L ea L.length ec i u v W hW (by omega) hLt h1 h2; rw [f2] at this; exact this
  have CEs : Hid (∀ W, RdE W ea L.length L → Calls Tryd.prog 17 #[.agg #[.slice ea L.length ec], .agg #[.int .i64 i, .int .i64 u.1, .int .i64 u.2.1, .string u.2.2, .int .i64 v.1, .int .i64 v.2.1, .string v.2.2]] W fun e w' => e = .returned (.tuple #[.agg #[.int .i64 q.k, .int .i64 q.n, .string q.t], .int .i64 q.c]) ∧ Below W.heap.size W w') := fun W hW => by have := c_specEV L ea L.length ec i u v W hW (by omega) hLt h1 h2; rw [f2] at this; exact this
  have CRC : Hid (∀ W la lc, RdI W la C.length C → TakH W → Calls Tryd.prog 10 #[.slice la C.length lc, .agg #[.int .i64 i, .int .i64 u.1, .int .i64 u.2.1, .string u.2.2, .int .i64 v.1, .int .i64 v.2.1, .string v.2.2]] W fun e w' => e = .returned (.tuple #[.agg #[.int .i64 q.k, .int .i64 q.n, .string q.t], .int .i64 q.c]) ∧ Below W.heap.size W w') := fun W la lc hW hT => by have := c_implRC C la C.length lc i u v W hW (by unfold maxLen; omega) hCt h1 h2 hT; rw [f3] at this; exact this
  have CCD : Hid (∀ W la lc, RdI W la C.length C → TakH W → Calls Tryd.prog 18 #[.slice la C.length lc] W fun e w' => e = .returned (.tuple #[.int .i64 dv, .int .i64 0]) ∧ Below W.heap.size W w') := fun W la lc hW hT => by have := c_implCD C la C.length lc W hW (by unfold maxLen; omega) hCt hT; rw [hdv, f5] at this; exact this
  have CCO : Hid (∀ W la lc, RdI W la C.length C → TakH W → Calls Tryd.prog 19 #[.slice la C.length lc] W fun e w' => e = .returned (.bool true) ∧ Below W.heap.size W w') := fun W la lc hW hT => by have := c_implCO C la C.length lc W hW (by unfold maxLen; omega) hCt hT; rw [f4] at this; exact this
  have f7' : dv ≤ (L.length : Int) := f7
  clear f1 f2 f3 f4 f5 f7 hC hq hdv eC hLt hCt h1 h2 rp0 rp1 rp2 hLn hok hdep hrow Hp HL HC
  have x0 : v2.cell? ⟨w1.heap.size, 0, none⟩ = some (.slice ea L.length ec) := Ev2.out.cell 0
  go_wp2_with fail
  refine C3.mono ?_
  rintro e w3 ⟨⟨la, lc, rfl, ol⟩, hb⟩
  have RIw3 : Hid (RdI w3 la C.length C) := RdI.own ol
  have Bw3 : Hid (Below w.heap.size w w3) := Bv2.out.trans (hb.mono Bv2.out.size)
  have Ew3 : Hid (Box w3 w1.heap.size 43 #[.slice ea L.length ec]) := Ev2.out.belowS hb
  have Rrw3 : Hid (Box w3 w2.heap.size 35 #[.int .i64 i, .int .i64 u.1, .int .i64 u.2.1, .string u.2.2, .int .i64 v.1, .int .i64 v.2.1, .string v.2.2]) := Rrv2.out.belowS hb
  have REw3 : Hid (RdE w3 ea L.length L) := REv2.out.below hb
  have sw3 : v2.heap.size ≤ w3.heap.size := hb.size
  clear hb Bv2 Ev2 Rrv2 REv2
  clear C3 ol x0 hv2
  have x0 : w3.cell? ⟨w1.heap.size, 0, none⟩ = some (.slice ea L.length ec) := Ew3.out.cell 0
  obtain ⟨y0, y1, y2, y3, y4, y5, y6⟩ := box7 Rrw3.out
  have Cw4 := CEi.out w3 REw3.out
  go_wp2_with fail
  refine Cw4.mono ?_
  rintro e w4 ⟨rfl, hb⟩
  have Bw4 : Hid (Below w.heap.size w w4) := Bw3.out.trans (hb.mono Bw3.out.size)
  have Ew4 : Hid (Box w4 w1.heap.size 43 #[.slice ea L.length ec]) := Ew3.out.belowS hb
  have Rrw4 : Hid (Box w4 w2.heap.size 35 #[.int .i64 i, .int .i64 u.1, .int .i64 u.2.1, .string u.2.2, .int .i64 v.1, .int .i64 v.2.1, .string v.2.2]) := Rrw3.out.belowS hb
  have REw4 : Hid (RdE w4 ea L.length L) := REw3.out.below hb
  have RIw4 : Hid (RdI w4 la C.length C) := RIw3.out.below hb
  have sw4 : w3.heap.size ≤ w4.heap.size := hb.size
  clear hb Bw3 Ew3 Rrw3 REw3 RIw3
  clear Cw4 x0 y0 y1 y2 y3 y4 y5 y6
  obtain ⟨v4, hv4⟩ : ∃ W, w4.alloc (.cells #[.int .i64 q.k, .int .i64 q.n, .string q.t] 29) = W := ⟨_, rfl⟩
  have hb : Below w4.heap.size w4 v4 := by rw [← hv4]; exact (Below.refl _ _).alloc (Nat.le_refl _) _
  have Vvv4 : Hid (Box v4 w4.heap.size 29 #[.int .i64 q.k, .int .i64 q.n, .string q.t]) := by unfold Hid; rw [← hv4]; exact Box.new _ _ _
  have Bv4 : Hid (Below w.heap.size w v4) := Bw4.out.trans (hb.mono Bw4.out.size)
  have Ev4 : Hid (Box v4 w1.heap.size 43 #[.slice ea L.length ec]) := Ew4.out.belowS hb
  have Rrv4 : Hid (Box v4 w2.heap.size 35 #[.int .i64 i, .int .i64 u.1, .int .i64 u.2.1, .string u.2.2, .int .i64 v.1, .int .i64 v.2.1, .string v.2.2]) := Rrw4.out.belowS hb
  have REv4 : Hid (RdE v4 ea L.length L) := REw4.out.below hb
  have RIv4 : Hid (RdI v4 la C.length C) := RIw4.out.below hb
  have sv4 : w4.heap.size ≤ v4.heap.size := hb.size
  clear hb Bw4 Ew4 Rrw4 REw4 RIw4
  have x0 : v4.cell? ⟨w1.heap.size, 0, none⟩ = some (.slice ea L.length ec) := Ev4.out.cell 0
  obtain ⟨y0, y1, y2, y3, y4, y5, y6⟩ := box7 Rrv4.out
  have Cw5 := CEs.out v4 REv4.out
  go_wp2_with fail
  refine Cw5.mono ?_
  rintro e w5 ⟨rfl, hb⟩
  have Bw5 : Hid (Below w.heap.size w w5) := Bv4.out.trans (hb.mono Bv4.out.size)
  have Ew5 : Hid (Box w5 w1.heap.size 43 #[.slice ea L.length ec]) := Ev4.out.belowS hb
  have Rrw5 : Hid (Box w5 w2.heap.size 35 #[.int .i64 i, .int .i64 u.1, .int .i64 u.2.1, .string u.2.2, .int .i64 v.1, .int .i64 v.2.1, .string v.2.2]) := Rrv4.out.belowS hb
  have Vvw5 : Hid (Box w5 w4.heap.size 29 #[.int .i64 q.k, .int .i64 q.n, .string q.t]) := Vvv4.out.belowS hb
  have REw5 : Hid (RdE w5 ea L.length L) := REv4.out.below hb
  have RIw5 : Hid (RdI w5 la C.length C) := RIv4.out.below hb
  have sw5 : v4.heap.size ≤ w5.heap.size := hb.size
  clear hb Bv4 Ev4 Rrv4 Vvv4 REv4 RIv4
  clear Cw5 x0 y0 y1 y2 y3 y4 y5 y6
  obtain ⟨v5, hv5⟩ : ∃ W, w5.alloc (.cells #[.int .i64 q.k, .int .i64 q.n, .string q.t] 29) = W := ⟨_, rfl⟩
  have hb : Below w5.heap.size w5 v5 := by rw [← hv5]; exact (Below.refl _ _).alloc (Nat.le_refl _) _
  have Wwv5 : Hid (Box v5 w5.heap.size 29 #[.int .i64 q.k, .int .i64 q.n, .string q.t]) := by unfold Hid; rw [← hv5]; exact Box.new _ _ _
  have Bv5 : Hid (Below w.heap.size w v5) := Bw5.out.trans (hb.mono Bw5.out.size)
  have Ev5 : Hid (Box v5 w1.heap.size 43 #[.slice ea L.length ec]) := Ew5.out.belowS hb
  have Rrv5 : Hid (Box v5 w2.heap.size 35 #[.int .i64 i, .int .i64 u.1, .int .i64 u.2.1, .string u.2.2, .int .i64 v.1, .int .i64 v.2.1, .string v.2.2]) := Rrw5.out.belowS hb
  have Vvv5 : Hid (Box v5 w4.heap.size 29 #[.int .i64 q.k, .int .i64 q.n, .string q.t]) := Vvw5.out.belowS hb
  have REv5 : Hid (RdE v5 ea L.length L) := REw5.out.below hb
  have RIv5 : Hid (RdI v5 la C.length C) := RIw5.out.below hb
  have sv5 : w5.heap.size ≤ v5.heap.size := hb.size
  clear hb Bw5 Ew5 Rrw5 Vvw5 REw5 RIw5
  have x0 : v5.cell? ⟨w1.heap.size, 0, none⟩ = some (.slice ea L.length ec) := Ev5.out.cell 0
  obtain ⟨y0, y1, y2, y3, y4, y5, y6⟩ := box7 Rrv5.out
  have Cw6 := CRC.out v5 la lc RIv5.out (TK.out _ Bv5.out)
  go_wp2_with fail
  refine Cw6.mono ?_
  rintro e w6 ⟨rfl, hb⟩
  have Bw6 : Hid (Below w.heap.size w w6) := Bv5.out.trans (hb.mono Bv5.out.size)
  have Ew6 : Hid (Box w6 w1.heap.size 43 #[.slice ea L.length ec]) := Ev5.out.belowS hb
  have Rrw6 : Hid (Box w6 w2.heap.size 35 #[.int .i64 i, .int .i64 u.1, .int .i64 u.2.1, .string u.2.2, .int .i64 v.1, .int .i64 v.2.1, .string v.2.2]) := Rrv5.out.belowS hb
  have Vvw6 : Hid (Box w6 w4.heap.size 29 #[.int .i64 q.k, .int .i64 q.n, .string q.t]) := Vvv5.out.belowS hb
  have Www6 : Hid (Box w6 w5.heap.size 29 #[.int .i64 q.k, .int .i64 q.n, .string q.t]) := Wwv5.out.belowS hb
  have REw6 : Hid (RdE w6 ea L.length L) := REv5.out.below hb
  have RIw6 : Hid (RdI w6 la C.length C) := RIv5.out.below hb
  have sw6 : v5.heap.size ≤ w6.heap.size := hb.size
  clear hb Bv5 Ev5 Rrv5 Vvv5 Wwv5 REv5 RIv5
  clear Cw6 x0 y0 y1 y2 y3 y4 y5 y6
  obtain ⟨v6, hv6⟩ : ∃ W, w6.alloc (.cells #[.int .i64 q.k, .int .i64 q.n, .string q.t] 29) = W := ⟨_, rfl⟩
  have hb : Below w6.heap.size w6 v6 := by rw [← hv6]; exact (Below.refl _ _).alloc (Nat.le_refl _) _
  have Xxv6 : Hid (Box v6 w6.heap.size 29 #[.int .i64 q.k, .int .i64 q.n, .string q.t]) := by unfold Hid; rw [← hv6]; exact Box.new _ _ _
  have Bv6 : Hid (Below w.heap.size w v6) := Bw6.out.trans (hb.mono Bw6.out.size)
  have Ev6 : Hid (Box v6 w1.heap.size 43 #[.slice ea L.length ec]) := Ew6.out.belowS hb
  have Rrv6 : Hid (Box v6 w2.heap.size 35 #[.int .i64 i, .int .i64 u.1, .int .i64 u.2.1, .string u.2.2, .int .i64 v.1, .int .i64 v.2.1, .string v.2.2]) := Rrw6.out.belowS hb
  have Vvv6 : Hid (Box v6 w4.heap.size 29 #[.int .i64 q.k, .int .i64 q.n, .string q.t]) := Vvw6.out.belowS hb
  have Wwv6 : Hid (Box v6 w5.heap.size 29 #[.int .i64 q.k, .int .i64 q.n, .string q.t]) := Www6.out.belowS hb
  have REv6 : Hid (RdE v6 ea L.length L) := REw6.out.below hb
  have RIv6 : Hid (RdI v6 la C.length C) := RIw6.out.below hb
  have sv6 : w6.heap.size ≤ v6.heap.size := hb.size
  clear hb Bw6 Ew6 Rrw6 Vvw6 Www6 REw6 RIw6
  have C7 := CCD.out v6 la lc RIv6.out (TK.out _ Bv6.out)
  go_wp2_with fail
  refine C7.mono ?_
  rintro e w7 ⟨rfl, hb⟩
  have Bw7 : Hid (Below w.heap.size w w7) := Bv6.out.trans (hb.mono Bv6.out.size)
  have Ew7 : Hid (Box w7 w1.heap.size 43 #[.slice ea L.length ec]) := Ev6.out.belowS hb
  have Rrw7 : Hid (Box w7 w2.heap.size 35 #[.int .i64 i, .int .i64 u.1, .int .i64 u.2.1, .string u.2.2, .int .i64 v.1, .int .i64 v.2.1, .string v.2.2]) := Rrv6.out.belowS hb
  have Vvw7 : Hid (Box w7 w4.heap.size 29 #[.int .i64 q.k, .int .i64 q.n, .string q.t]) := Vvv6.out.belowS hb
  have Www7 : Hid (Box w7 w5.heap.size 29 #[.int .i64 q.k, .int .i64 q.n, .string q.t]) := Wwv6.out.belowS hb
  have Xxw7 : Hid (Box w7 w6.heap.size 29 #[.int .i64 q.k, .int .i64 q.n, .string q.t]) := Xxv6.out.belowS hb
  have REw7 : Hid (RdE w7 ea L.length L) := REv6.out.below hb
  have RIw7 : Hid (RdI w7 la C.length C) := RIv6.out.below hb
  have sw7 : v6.heap.size ≤ w7.heap.size := hb.size
  clear hb Bv6 Ev6 Rrv6 Vvv6 Wwv6 Xxv6 REv6 RIv6
  clear C7 hv4 hv5 hv6
  have C8 := CCO.out w7 la lc RIw7.out (TK.out _ Bw7.out)
  have x0 : w7.cell? ⟨w1.heap.size, 0, none⟩ = some (.slice ea L.length ec) := Ew7.out.cell 0
  obtain ⟨a0, a1, a2⟩ := boxT3 Vvw7.out
  obtain ⟨b0, b1, b2⟩ := boxT3 Www7.out
  obtain ⟨d0, d1, d2⟩ := boxT3 Xxw7.out
  go_wp2_with fail
  refine C8.mono ?_
  rintro e w8 ⟨rfl, hb⟩
  have B8 : Hid (Below w.heap.size w w8) := Bw7.out.trans (hb.mono Bw7.out.size)
  clear hb C8
  go_wp2
  go_ret
  exact ⟨rfl, B8.out⟩

end Go.Proofs.YtcgcaomaofppiaaDoor
namespace Go.Proofs.YtcgcaomaofppiaaDoor
open Go Go.RowKit Go.ChangeShapes Go.WideShapes Go.Deep Go.WideElems

theorem rdV_of_row {α : Type} {w : World} {x : Addr} {len cap : Nat} {zs : List α} (f : α → Value) (d : α) (hl : len ≤ cap) (hz : zs.length = cap) (hcell : ∀ i, i < zs.length → w.cell? (x.add i) = some (f (zs.getD i d))) : RdV w (some x) len ((zs.take len).map f) := by
  refine ⟨by simp; omega, fun h => ?_⟩
  obtain ⟨b, off, spot⟩ := x
  have hc := hcell 0 (by omega)
  have hspot : spot = none := by simpa [Addr.add] using World.cell?_spot hc
  subst hspot
  refine ⟨b, off, rfl, World.block_lt_of_cell? w ⟨b, off, none⟩ (by have := hc; rwa [addr_add] at this), fun i hi => ?_⟩
  have := hcell i (by omega)
  rw [addr_add] at this
  rw [this, map_get f (zs.take len) d i (by simp; omega), List.getD_eq_getElem?_getD, List.getD_eq_getElem?_getD, List.getElem?_take_of_lt hi]

theorem wf_u8 {n : Int} (h : (Lit.int .u8 n).wf = true) : 0 ≤ n ∧ n < 256 := by
  have := bounds_u8 h
  omega

end Go.Proofs.YtcgcaomaofppiaaDoor
