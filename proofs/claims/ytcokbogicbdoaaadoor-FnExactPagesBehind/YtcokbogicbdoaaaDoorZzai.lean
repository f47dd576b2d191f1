/-
  Bytes whose sum stands behind them: the walk of the specification's own.
-/
import Derived.Test.YtcokbogicbdoaaaDoorGpq
import Derived.Test.YtcokbogicbdoaaaDoorRdq
import Derived.Test.YtcokbogicbdoaaaDoorZzag
namespace Go.Proofs.YtcokbogicbdoaaaDoor.G
open Go Go.RowKit
attribute [local go_sem ↓] Go.wp_at_zero Go.wp_at_succ


def rdC (no : Int) (zs : List Int) : Int := if 65536 < zs.length then 2 else if unsB zs then (if (rpD no (headZ zs)).isSome then 0 else 3) else 8
def rdR (no : Int) (zs : List Int) : DG := if 65536 < zs.length then ⟨0, []⟩ else if unsB zs then rpP (rpD no (headZ zs)) else ⟨0, []⟩
theorem rd2 {no : Int} {zs : List Int} (h : 65536 < zs.length) : rdC no zs = 2 ∧ rdR no zs = ⟨0, []⟩ := by unfold rdC rdR; rw [if_pos h, if_pos h]; exact ⟨rfl, rfl⟩
theorem rd8 {no : Int} {zs : List Int} (h : ¬ 65536 < zs.length) (h1 : unsB zs = false) : rdC no zs = 8 ∧ rdR no zs = ⟨0, []⟩ := by unfold rdC rdR; rw [if_neg h, if_neg h, h1]; exact ⟨rfl, rfl⟩
theorem rd3 {no : Int} {zs : List Int} (h : ¬ 65536 < zs.length) (h1 : unsB zs = true) (h2 : rpD no (headZ zs) = none) : rdC no zs = 3 ∧ rdR no zs = ⟨0, []⟩ := by unfold rdC rdR; rw [if_neg h, if_neg h, h1, h2]; exact ⟨rfl, rfl⟩
theorem rd0 {no : Int} {zs : List Int} {D : DG} (h : ¬ 65536 < zs.length) (h1 : unsB zs = true) (h2 : rpD no (headZ zs) = some D) : rdC no zs = 0 ∧ rdR no zs = D := by unfold rdC rdR; rw [if_neg h, if_neg h, h1, h2]; exact ⟨rfl, rfl⟩
theorem rpD_ok {no : Int} {x : List Int} {D : DG} (h : rpD no x = some D) : okG D = true := by
  unfold rpD at h
  split at h
  · cases h
  · split at h
    · split at h
      · cases h
      · split at h
        · rename_i hg
          cases h
          exact hg
        · cases h
    · cases h
theorem ok_fitG {D : DG} (h : okG D = true) : FitG D := by
  have hp := okG_parts h
  exact ⟨by rw [hp.2.2.1]; omega, fun s hs => by have := hp.2.2.2 s hs; omega⟩
theorem rd_fit (no : Int) (zs : List Int) : FitG (rdR no zs) := by
  unfold rdR
  split
  · exact ⟨by simp, fun _ h => by cases h⟩
  · split
    · cases h : rpD no (headZ zs) with
      | none => exact ⟨by simp [rpP], fun _ h => by cases h⟩
      | some D => exact ok_fitG (rpD_ok h)
    · exact ⟨by simp, fun _ h => by cases h⟩
set_option maxRecDepth 100000 in
set_option maxHeartbeats 4000000 in
theorem c_implRP (no : Int) (a : Option Addr) (n cap : Nat) (zs : List Int) (w : World) (hr : RdV w a n (zs.map (Value.int .u8))) (hz : ∀ z ∈ zs, 0 ≤ z ∧ z < 256) (hn : n ≤ 1048576) (hcap : n ≤ cap) (ht : TabH w) :
    Calls Tryd.prog 53 #[.int .i64 no, .slice a n cap] w fun e w' => (∃ h' : HG, e = .returned (.tuple #[.agg #[.int .i64 h'.l, .slice h'.a h'.n h'.c], .int .i64 (rdC no zs)]) ∧ OwnG w' w.heap.size w'.heap.size h' (rdR no zs)) ∧ Below w.heap.size w w' := by
  have hl : zs.length = n := by simpa using hr.1
  obtain ⟨V, hV⟩ : ∃ V, w.alloc (.cells #[.int .i64 0, .slice none 0 0] 49) = V := ⟨_, rfl⟩
  have HB : Hid (Below w.heap.size w V) := by unfold Hid; rw [← hV]; exact (Below.refl _ _).alloc (Nat.le_refl _) _
  have BR : Hid (Box V w.heap.size 49 #[.int .i64 0, .slice none 0 0]) := by unfold Hid; rw [← hV]; exact Box.new _ _ _
  have l0 := BR.out.lt
  obtain ⟨u0, u1⟩ := box2 BR.out
  have t0 := BR.out.thaw 0
  have t1 := BR.out.thaw 1
  by_cases h1 : 65536 < n
  · have E : Hid (rdC no zs = 2 ∧ rdR no zs = ⟨0, []⟩) := rd2 (by omega)
    clear hr hz ht
    go_enter Tryd.func53, Tryd.ntmps53
    go_wp2
    refine retG2 Tryd.results53 rfl rfl rfl (put2_box BR.out _ _) ⟨?_, put2_below HB.out (Nat.le_refl _) _ _⟩
    rw [E.out.1, E.out.2]
    exact ⟨⟨0, none, 0, 0⟩, rfl, own_zero _ _ _ (Nat.le_refl _)⟩
  by_cases h4 : n < 4
  · have E : Hid (rdC no zs = 8 ∧ rdR no zs = ⟨0, []⟩) := rd8 (by omega) (uns_lo (by omega))
    clear hr hz ht
    go_enter Tryd.func53, Tryd.ntmps53
    go_wp2_with fail
    refine (c_unseal_lo a n cap V h4).mono ?_
    rintro e w1 ⟨rfl, q, hq⟩
    have B1 : Hid (Below w.heap.size w w1) := by unfold Hid; rw [hq]; exact below_drewN HB.out q
    have BR1 : Hid (Box w1 w.heap.size 49 #[.int .i64 0, .slice none 0 0]) := by unfold Hid; rw [hq]; exact BR.out.drewN q
    clear hq hV HB BR u0 u1 t0 t1
    obtain ⟨u0, u1⟩ := box2 BR1.out
    have t0 := BR1.out.thaw 0
    have t1 := BR1.out.thaw 1
    go_wp2
    refine retG2 Tryd.results53 rfl rfl rfl (put2_box BR1.out _ _) ⟨?_, put2_below B1.out (Nat.le_refl _) _ _⟩
    rw [E.out.1, E.out.2]
    exact ⟨⟨0, none, 0, 0⟩, rfl, own_zero _ _ _ (Nat.le_refl _)⟩
  obtain ⟨b, off, rfl, _, _⟩ := hr.2 (by omega)
  have HR : Hid (RdV w (some ⟨b, off, none⟩) n (zs.map (Value.int .u8))) := hr
  have HZ : Hid (∀ z ∈ zs, 0 ≤ z ∧ z < 256) := hz
  have HL : Hid (zs.length = n) := hl
  have UN := c_unseal b off n cap zs V (hr.below HB.out) hz (by omega) hcap (by omega) (ht.below HB.out)
  have HUN : Hid (Calls Tryd.prog 73 #[.slice (some ⟨b, off, none⟩) n cap] V fun e w' => e = .returned (.tuple #[unsV b off n (unsB zs), .bool (unsB zs)]) ∧ Below V.heap.size V w') := UN
  clear UN hr hz ht hl
  go_enter Tryd.func53, Tryd.ntmps53
  go_wp2_with fail
  refine HUN.out.mono ?_
  rintro e w1 ⟨rfl, hb⟩
  have B1 : Hid (Below w.heap.size w w1) := HB.out.trans (hb.mono HB.out.size)
  have BR1 : Hid (Box w1 w.heap.size 49 #[.int .i64 0, .slice none 0 0]) := BR.out.belowS hb
  clear hb hV HB BR u0 u1 t0 t1 HUN
  obtain ⟨u0, u1⟩ := box2 BR1.out
  have t0 := BR1.out.thaw 0
  have t1 := BR1.out.thaw 1
  cases hu : unsB zs
  · have E : Hid (rdC no zs = 8 ∧ rdR no zs = ⟨0, []⟩) := rd8 (by have := HL.out; omega) hu
    clear hu
    rw [show unsV b off n false = .slice none 0 0 from rfl]
    go_wp2
    refine retG2 Tryd.results53 rfl rfl rfl (put2_box BR1.out _ _) ⟨?_, put2_below B1.out (Nat.le_refl _) _ _⟩
    rw [E.out.1, E.out.2]
    exact ⟨⟨0, none, 0, 0⟩, rfl, own_zero _ _ _ (Nat.le_refl _)⟩
  have HU : Hid (unsB zs = true) := hu
  clear hu
  rw [show unsV b off n true = .slice (some ⟨b, off, none⟩) (n - 4) (n - 4) from rfl]
  have q01 : w.heap.size < w1.heap.size := BR1.out.lt
  have PO : Hid (Calls Tryd.prog 74 #[.int .i64 no, .slice (some ⟨b, off, none⟩) (n - 4) (n - 4)] w1 fun e w' => (∃ h' : HG, e = .returned (.tuple #[.agg #[.int .i64 h'.l, .slice h'.a h'.n h'.c], .bool (rpD no (headZ zs)).isSome]) ∧ OwnG w' w1.heap.size w'.heap.size h' (rpP (rpD no (headZ zs)))) ∧ Below w1.heap.size w1 w') := c_pageOf no b off (n - 4) (headZ zs) w1 ((head_rd HR.out).below B1.out) (head_bytes HZ.out) (by omega)
  go_wp2_with fail
  refine PO.out.mono ?_
  rintro e w2 ⟨⟨h2, rfl, o2⟩, hb⟩
  have B2 : Hid (Below w.heap.size w w2) := B1.out.trans (hb.mono B1.out.size)
  have BR2 : Hid (Box w2 w.heap.size 49 #[.int .i64 0, .slice none 0 0]) := BR1.out.belowS hb
  have O2 : Hid (OwnG w2 w1.heap.size w2.heap.size h2 (rpP (rpD no (headZ zs)))) := o2
  have q12 : w1.heap.size ≤ w2.heap.size := hb.size
  clear hb o2 PO B1 BR1 u0 u1 t0 t1
  obtain ⟨V3, hV3⟩ : ∃ W, w2.alloc (.cells #[.int .i64 h2.l, .slice h2.a h2.n h2.c] 49) = W := ⟨_, rfl⟩
  have hbv : Below w2.heap.size w2 V3 := by rw [← hV3]; exact (Below.refl _ _).alloc (Nat.le_refl _) _
  have B3 : Hid (Below w.heap.size w V3) := B2.out.trans (hbv.mono B2.out.size)
  have BR3 : Hid (Box V3 w.heap.size 49 #[.int .i64 0, .slice none 0 0]) := BR2.out.belowS hbv
  have BP3 : Hid (Box V3 w2.heap.size 49 #[.int .i64 h2.l, .slice h2.a h2.n h2.c]) := by unfold Hid; rw [← hV3]; exact Box.new _ _ _
  have O3 : Hid (OwnG V3 w1.heap.size w2.heap.size h2 (rpP (rpD no (headZ zs)))) := O2.out.below hbv
  clear hbv B2 BR2 O2
  obtain ⟨p0, p1⟩ := box2 BP3.out
  obtain ⟨u0, u1⟩ := box2 BR3.out
  have t0 := BR3.out.thaw 0
  have t1 := BR3.out.thaw 1
  cases hd : rpD no (headZ zs) with
  | none =>
    have E : Hid (rdC no zs = 3 ∧ rdR no zs = ⟨0, []⟩) := rd3 (by have := HL.out; omega) HU.out hd
    clear hd O3
    rw [Option.isSome_none]
    go_wp2
    refine retG2 Tryd.results53 rfl rfl rfl (put2_box BR3.out _ _) ⟨?_, put2_below B3.out (Nat.le_refl _) _ _⟩
    rw [E.out.1, E.out.2]
    exact ⟨⟨0, none, 0, 0⟩, rfl, own_zero _ _ _ (Nat.le_refl _)⟩
  | some D =>
    have E : Hid (rdC no zs = 0 ∧ rdR no zs = D) := rd0 (by have := HL.out; omega) HU.out hd
    have O4 : Hid (OwnG V3 w1.heap.size w2.heap.size h2 D) := by have := O3.out; rw [hd] at this; exact this
    clear hd O3
    rw [Option.isSome_some]
    go_wp2
    refine retG2 Tryd.results53 rfl rfl rfl (put2_box BR3.out _ _) ⟨?_, put2_below B3.out (Nat.le_refl _) _ _⟩
    rw [E.out.1, E.out.2]
    have := O4.out.put2 (r := w.heap.size) (.inl (by omega)) (.int .i64 h2.l) (.slice h2.a h2.n h2.c)
    exact ⟨h2, rfl, this.wide (B' := w.heap.size) (by omega)⟩

end Go.Proofs.YtcokbogicbdoaaaDoor.G
namespace Go.Proofs.YtcokbogicbdoaaaDoor
open Go Go.RowKit
attribute [local go_sem ↓] Go.wp_at_zero Go.wp_at_succ


theorem c_in3 (n lo hi : Int) (w : World) : Calls Tryd.prog 26 #[.int .i64 n, .int .i64 lo, .int .i64 hi] w fun e w' => e = .returned (.bool (inB n lo hi)) ∧ w = w' := (c_in n lo hi w).mono fun _ _ h => ⟨h.1, h.2.symm⟩
theorem bkL_at {C : List PP} {n p : Nat} {xa : Int} {xt : ByteArray} (hp : p < n) (hx : (xa, xt) = C.getD p dP) : bkL C n (n - 1 - p + 1) = bkL C n (n - 1 - p) ++ [(p, xa, xt)] := by
  rw [bkL_succ]
  congr 2
  unfold bkF
  rw [show n - 1 - (n - 1 - p) = p by omega, ← hx]
set_option maxRecDepth 100000 in
set_option maxHeartbeats 2000000 in
theorem c_l02Read (a0 : Option Addr) (n0 c0 : Nat) (a1 : Option Addr) (n1 c1 : Nat) (b : Bool) (a2 : Option Addr) (n2 c2 : Nat) (S : List ByteArray) (C : List PP) (j : Nat) (w : World)
    (r0 : RdV w a0 n0 (S.map Value.string)) (r1 : RdP w a1 n1 C) (hj : j < n0) (hn0 : n0 ≤ 1048576) (hn1 : n1 ≤ 1048576) :
    Calls Tryd.prog 40 #[.agg #[.slice a0 n0 c0, .slice a1 n1 c1, .bool b, .slice a2 n2 c2], .int .i64 (j : Int)] w fun e W' => e = .returned (.string (rdS S C j)) ∧ Below w.heap.size w W' := by
  have l0 : S.length = n0 := by simpa using r0.1
  have l1 := r1.1
  have R0 : Hid (RdV w a0 n0 (S.map Value.string)) := r0
  have R1 : Hid (RdP w a1 n1 C) := r1
  obtain ⟨V, hV⟩ : ∃ V, w.alloc (.cells #[.slice a0 n0 c0, .slice a1 n1 c1, .bool b, .slice a2 n2 c2] 36) = V := ⟨_, rfl⟩
  have HB : Hid (Below w.heap.size w V) := by unfold Hid; rw [← hV]; exact (Below.refl _ _).alloc (Nat.le_refl _) _
  have bx : Box V w.heap.size 36 #[.slice a0 n0 c0, .slice a1 n1 c1, .bool b, .slice a2 n2 c2] := by rw [← hV]; exact Box.new _ _ _
  obtain ⟨v0, v1, v2, v3⟩ := box4 bx
  clear r0 r1 bx
  go_enter Tryd.func40, Tryd.ntmps40
  go_wp2
  go_loop [5] (fun i => (∃ p : Nat, i = .int .i64 p ∧ p < n1 ∧ Hid (fdB (bkL C n1 (n1 - 1 - p)) j = none)) ∨ (i = .int .i64 (-1) ∧ Hid (fdB (bkL C n1 n1) j = none))) (fun i => (intOf i + 1).toNat)
  case atStart =>
    rcases Nat.eq_zero_or_pos n1 with h | h
    · subst h
      exact .inr ⟨rfl, rfl⟩
    · refine .inl ⟨n1 - 1, by go_num, by omega, ?_⟩
      rw [show n1 - 1 - (n1 - 1) = 0 by omega]
      exact rfl
  case round =>
    rcases hrel with ⟨p, rfl, hp, HN⟩ | ⟨rfl, HN⟩
    · obtain ⟨bb, off, ha, hbl, hc⟩ := R1.out.2 (by omega)
      obtain ⟨⟨xa, xt⟩, hx⟩ : ∃ x, x = C.getD p dP := ⟨_, rfl⟩
      obtain ⟨d0, d1⟩ := hc p hp
      rw [← hx] at d0 d1
      have e0 : V.cell? ⟨bb, off + p * 2, none⟩ = some (.int .i64 xa) := (HB.out.cell (p := ⟨bb, off + p * 2, none⟩) hbl).trans d0
      have e1 : V.cell? ⟨bb, off + p * 2 + 1, none⟩ = some (.string xt) := (HB.out.cell (p := ⟨bb, off + p * 2 + 1, none⟩) hbl).trans d1
      rw [ha] at v1
      have HA : Hid (bkL C n1 (n1 - 1 - p + 1) = bkL C n1 (n1 - 1 - p) ++ [(p, xa, xt)]) := bkL_at hp hx
      clear hc hx d0 d1 ha
      by_cases he : xa = (j : Int)
      · have hbe : (xa == (j : Int)) = true := by simpa using he
        have E : Hid (rdS S C j = xt) := by
          have h2 : fdB (bkL C n1 (n1 - 1 - p + 1)) j = some (p, xa, xt) := by rw [HA.out]; exact fdB_yes HN.out he
          exact rdS_hit (S := S) (C := C) (k := n1 - 1 - p + 1) (show n1 - 1 - p + 1 ≤ C.length by omega) (by rw [l1]; exact h2)
        clear he
        go_wp2
        go_ret
        exact ⟨ret_str E.out.symm, HB.out⟩
      · have hbe : (xa == (j : Int)) = false := by simpa using he
        have HN2 : Hid (fdB (bkL C n1 (n1 - 1 - p + 1)) j = none) := by unfold Hid; rw [HA.out]; exact fdB_no HN.out he
        clear he
        go_wp2
        go_round
        case rel =>
          rcases Nat.eq_zero_or_pos p with h | h
          · subst h
            refine .inr ⟨by go_num, ?_⟩
            have h2 := HN2.out
            rw [show n1 - 1 - 0 + 1 = n1 by omega] at h2
            exact h2
          · refine .inl ⟨p - 1, by go_num, by omega, ?_⟩
            rw [show n1 - 1 - (p - 1) = n1 - 1 - p + 1 by omega]
            exact HN2.out
        case measure => simp [intOf]
    · obtain ⟨b0, off0, ha, hbl, hc⟩ := R0.out.2 (by omega)
      obtain ⟨s, hs⟩ : ∃ s, s = S.getD j ⟨#[]⟩ := ⟨_, rfl⟩
      have cS : V.cell? ⟨b0, off0 + j, none⟩ = some (.string s) := by rw [HB.out.cell (p := ⟨b0, off0 + j, none⟩) hbl, hc j hj, hs]; exact map_get _ _ _ _ (by omega)
      have E : Hid (rdS S C j = s) := by unfold Hid; rw [hs]; exact rdS_miss (by rw [l1]; exact HN.out)
      rw [ha] at v0
      clear hc hs ha
      go_wp2
      go_ret
      exact ⟨ret_str E.out.symm, HB.out⟩
def readT (D : DD) (x : Int) : ByteArray := if okD D = true then (if 0 ≤ x ∧ x < D.S.length then rdS D.S D.C x.toNat else ⟨#[]⟩) else ⟨#[]⟩
def readC (D : DD) (x : Int) : Int := if okD D = true then (if 0 ≤ x ∧ x < D.S.length then 0 else 4) else 1

end Go.Proofs.YtcokbogicbdoaaaDoor
namespace Go.Proofs.YtcokbogicbdoaaaDoor
open Go Go.RowKit
attribute [local go_sem ↓] Go.wp_at_zero Go.wp_at_succ


set_option maxRecDepth 100000 in
set_option maxHeartbeats 2000000 in
theorem c_unsealS (zs : List Int) (w : World) (hz : ∀ z ∈ zs, 0 ≤ z ∧ z < 256) (hn : zs.length ≤ 65536) (h4 : 4 ≤ zs.length) :
    Calls Tryd.prog 66 #[.string (strOfNums zs)] w fun e w' => e = .returned (.tuple #[.string (unsT zs (unsB zs)), .bool (unsB zs)]) ∧ Below w.heap.size w w' := by
  obtain ⟨t, ht⟩ : ∃ t, t = strOfNums zs := ⟨_, rfl⟩
  obtain ⟨hd, hhd⟩ : ∃ t, t = strOfNums (headZ zs) := ⟨_, rfl⟩
  obtain ⟨tl, htl⟩ : ∃ t, t = strOfNums (tailZ zs) := ⟨_, rfl⟩
  obtain ⟨m, hm⟩ : ∃ m, m = zs.length - 4 := ⟨_, rfl⟩
  have hts : t.size = m + 4 := by rw [ht, strOfNums_size]; omega
  have x1 : t.extract 0 m = hd := by rw [ht, hhd, hm]; exact cut_head
  have x2 : t.extract m (m + 4) = tl := by rw [ht, htl, hm, show zs.length - 4 + 4 = zs.length by omega]; exact cut_tail
  obtain ⟨C, hC⟩ : ∃ C : Int, C = (Crc.crc (headZ zs) : Nat) := ⟨_, rfl⟩
  obtain ⟨O, hO⟩ : ∃ O : Int, O = ofL (tailZ zs) := ⟨_, rfl⟩
  have hcmp : (C != O) = !unsB zs := by rw [hC, hO]; exact of_sum h4 hz
  have hcv : ∀ W : World, (convert 9 54 (.string hd)).run Tryd.prog W = .ok (.slice (some ⟨W.heap.size, 0, none⟩) m (grownCap W m 0 5)) (W.drew.alloc (.cells (bytesRow hd (grownCap W m 0 5)) 5 ((bytesRow hd (grownCap W m 0 5)).size, (bytesRow hd (grownCap W m 0 5)).size + 1))) := fun W => by
    have hs : hd.size = m := by rw [hhd, strOfNums_size, headZ_len, hm]
    have := run_bytes_of_string (P := Tryd.prog) W 9 54 5 hd Tryd.underlying9 Tryd.underlying54 Tryd.underlying5
    rw [hs] at this
    exact this
  have CHK : Hid (∀ (c cp : Nat) (fr : Nat × Nat), Calls Tryd.prog 69 #[.slice (some ⟨w.heap.size, 0, none⟩) m cp] (w.alloc (.cells (bytesRow hd c) 5 fr)).drew.drew fun e w' => e = .returned (.int .i64 C) ∧ w' = (w.alloc (.cells (bytesRow hd c) 5 fr)).drew.drew) := fun c cp fr => by
    rw [hC, hhd]
    have hs : m = (headZ zs).length := by rw [headZ_len, hm]
    rw [hs]
    exact c14 _ _ cp (headZ zs) _ (conv_rd (head_bytes hz)) (by rw [headZ_len]; omega)
  have OFF : Hid (∀ W : World, Calls Tryd.prog 68 #[.string tl] W fun e w' => e = .returned (.int .i64 O) ∧ w' = W) := fun W => by
    rw [hO, htl]
    exact c_of (tailZ zs) W (fun z h => hz z (List.mem_of_mem_drop h)) (by unfold tailZ; rw [List.length_drop]; omega)
  have HH : Hid (hd = strOfNums (headZ zs)) := hhd
  have hmb : m ≤ 65536 := by omega
  rw [← ht]
  clear hz ht hhd htl hC hO h4 hm hn
  have z0 : ¬ (m : Int) < 0 := by omega
  have z1 : (0 : Int) ≤ (m : Int) := by omega
  have z2 : (m : Int) ≤ (m : Int) + 4 := by omega
  cases hu : unsB zs
  all_goals
    rw [hu] at hcmp
    go_enter Tryd.func66, Tryd.ntmps66
    go_wp2_with fail
    go_region_held (fun _ => True) (trivial) (first
        | (go_at_call 69; refine (CHK.out _ _ _).mono ?_; rintro e w1 ⟨rfl, hq1⟩; have B1 : Hid (Below w.heap.size w w1) := (by unfold Hid; rw [hq1]; exact ((Below.refl _ _).alloc (Nat.le_refl _) _).drew.drew); clear hq1)
        | (go_at_call 68; refine (OFF.out _).mono ?_; rintro e w2 ⟨rfl, hq2⟩; have B2 : Hid (Below w.heap.size w w2) := (by unfold Hid; rw [hq2]; exact B1.out); clear hq2))
    clear hcv CHK OFF
    go_wp2
    go_ret2
    exact ⟨by first | rfl | (unfold unsT; rw [← HH.out]; rfl), B2.out⟩

end Go.Proofs.YtcokbogicbdoaaaDoor
