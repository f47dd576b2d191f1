/-
  ExprText: both sides, and the law.
-/
import Derived.Test.YtknjglgellhchaaDoorTc
import Derived.Test.YtknjglgellhchaaDoorXm
import Derived.Deep.RegionHeld3
import Derived.Deep.DrawnRows
namespace Go.Proofs.YtknjglgellhchaaDoor
open Go Go.RowKit
attribute [local go_sem ↓] Go.wp_at_zero Go.wp_at_succ

set_option linter.unusedVariables false
set_option linter.unusedSimpArgs false
def xtS (L : List EN) (n : Nat) : ByteArray := match topX L n with | none => ⟨#[]⟩ | some p => txP p
def xtE (L : List EN) (n : Nat) : Int := match topX L n with | none => 1 | some _ => 0
theorem top_in {L : List EN} {n : Nat} {p : PT} (h : topX L n = some p) : n ≤ 40 ∧ pF L n n = some (p, 0) := by
  unfold topX at h
  split at h
  · cases h
  · refine ⟨by omega, ?_⟩
    split at h
    · rename_i q hq
      split at h
      · cases h
      · cases h; exact hq
    · cases h
theorem top_pos {L : List EN} {n : Nat} {p : PT} (h : topX L n = some p) : 0 < n := by
  have := pF_lt L n n p 0 (top_in h).2
  omega
set_option maxRecDepth 100000 in
set_option maxHeartbeats 4000000 in
theorem c_implT (L : List EN) (a : Option Addr) (n c : Nat) (w : World) (hr : RdE w a n L) (hn : n ≤ 1048576) (hs : ∀ v ∈ L, v.t.size ≤ maxLen) (T : Tabs w) :
    Calls Tryd.prog 10 #[.agg #[.slice a n c]] w fun e w' => e = .returned (.tuple #[.string (xtS L n), .int .i64 (xtE L n)]) ∧ Below w.heap.size w w' := by
  obtain ⟨V, hV⟩ : ∃ V, w.alloc (.cells #[.slice a n c] 30) = V := ⟨_, rfl⟩
  have BV : Hid (Below w.heap.size w V) := by unfold Hid; rw [← hV]; exact (Below.refl _ _).alloc (Nat.le_refl _) _
  have x0 : V.cell? ⟨w.heap.size, 0, none⟩ = some (.slice a n c) := by rw [← hV]; exact (Box.new _ _ _).cell 0
  have C := c_partOf L a n c V (hr.below BV.out) hn hs
  have TV : Hid (Tabs V) := T.below BV.out
  have HL : L.length = n := hr.1
  have HS : Hid (∀ v ∈ L, v.t.size ≤ maxLen) := hs
  clear hr hs T
  cases ht : topX L n with
  | none =>
    have E : Hid (xtS L n = ⟨#[]⟩ ∧ xtE L n = 1) := by unfold Hid xtS xtE; rw [ht]; exact ⟨rfl, rfl⟩
    rw [ht] at C
    have C' : Calls Tryd.prog 31 #[.agg #[.slice a n c]] V fun e w' => e = .returned .nilIface ∧ Below V.heap.size V w' := C
    clear ht C
    go_enter Tryd.func10, Tryd.ntmps10
    go_wp2_with fail
    refine C'.mono ?_
    rintro e w1 ⟨rfl, hb⟩
    have B1 : Hid (Below w.heap.size w w1) := BV.out.trans (hb.mono BV.out.size)
    clear hb C' hV x0
    go_wp2
    go_ret2
    exact ⟨by rw [E.out.1, E.out.2]; rfl, B1.out⟩
  | some p =>
    obtain ⟨h40, hp⟩ := top_in ht
    obtain ⟨f1, f2, f3⟩ := pF_fine L HS.out n n p 0 hp (by omega)
    have E : Hid (xtS L n = txP p ∧ xtE L n = 0) := by unfold Hid xtS xtE; rw [ht]; exact ⟨rfl, rfl⟩
    rw [ht] at C
    obtain ⟨T9, y9, hy⟩ := encI p
    have C' : Calls Tryd.prog 31 #[.agg #[.slice a n c]] V fun e w' => e = .returned (.iface T9 y9) ∧ Below V.heap.size V w' := by rw [← hy]; exact C
    have CP : Hid (∀ W, Tabs W → Calls Tryd.prog 32 #[.iface T9 y9] W fun e w' => e = .returned (.string (txP p)) ∧ Below W.heap.size W w') := by rw [← hy]; exact c_partText p f1 (by omega)
    obtain ⟨s, hs⟩ : ∃ s, txP p = s := ⟨_, rfl⟩
    rw [hs] at CP E
    clear ht C hp f1 f2 f3 hy hs
    go_enter Tryd.func10, Tryd.ntmps10
    go_wp2_with fail
    refine C'.mono ?_
    rintro e w1 ⟨rfl, hb⟩
    have B1 : Hid (Below w.heap.size w w1) := BV.out.trans (hb.mono BV.out.size)
    have D := CP.out w1 (TV.out.below hb)
    clear hb C' hV x0 CP TV
    go_wp2_with fail
    refine D.mono ?_
    rintro e w2 ⟨rfl, hb⟩
    have B2 : Hid (Below w.heap.size w w2) := B1.out.trans (hb.mono B1.out.size)
    clear hb D
    go_wp2
    go_ret2
    exact ⟨by rw [E.out.1, E.out.2]; rfl, B2.out⟩
set_option maxRecDepth 100000 in
set_option maxHeartbeats 4000000 in
theorem c_specT (L : List EN) (a : Option Addr) (n c : Nat) (w : World) (hr : RdE w a n L) (hn : n ≤ 1048576) (hs : ∀ v ∈ L, v.t.size ≤ maxLen) :
    Calls Tryd.prog 8 #[.agg #[.slice a n c]] w fun e w' => e = .returned (.tuple #[.string (xtS L n), .int .i64 (xtE L n)]) ∧ Below w.heap.size w w' := by
  obtain ⟨V, hV⟩ : ∃ V, w.alloc (.cells #[.slice a n c] 30) = V := ⟨_, rfl⟩
  have BV : Hid (Below w.heap.size w V) := by unfold Hid; rw [← hV]; exact (Below.refl _ _).alloc (Nat.le_refl _) _
  have X : Hid (Box V w.heap.size 30 #[.slice a n c]) := by unfold Hid; rw [← hV]; exact Box.new _ _ _
  have x0 : V.cell? ⟨w.heap.size, 0, none⟩ = some (.slice a n c) := X.out.cell 0
  have C := c_specX L a n c V (hr.below BV.out) hn hs
  rw [← top_ok] at C
  have HR : Hid (RdE w a n L) := hr
  have HS : Hid (∀ v ∈ L, v.t.size ≤ maxLen) := hs
  clear hr hs
  cases ht : topX L n with
  | none =>
    have E : Hid (xtS L n = ⟨#[]⟩ ∧ xtE L n = 1) := by unfold Hid xtS xtE; rw [ht]; exact ⟨rfl, rfl⟩
    rw [ht] at C
    have C' : Calls Tryd.prog 28 #[.agg #[.slice a n c]] V fun e w' => e = .returned (.bool false) ∧ Below V.heap.size V w' := C
    clear ht C
    go_enter Tryd.func8, Tryd.ntmps8
    go_wp2_with fail
    refine C'.mono ?_
    rintro e w1 ⟨rfl, hb⟩
    have B1 : Hid (Below w.heap.size w w1) := BV.out.trans (hb.mono BV.out.size)
    clear hb C' hV x0
    go_wp2
    go_ret2
    exact ⟨by rw [E.out.1, E.out.2]; rfl, B1.out⟩
  | some p =>
    obtain ⟨h40, hp⟩ := top_in ht
    have hpos := top_pos ht
    have E : Hid (xtS L n = txP p ∧ xtE L n = 0) := by unfold Hid xtS xtE; rw [ht]; exact ⟨rfl, rfl⟩
    rw [ht] at C
    have C' : Calls Tryd.prog 28 #[.agg #[.slice a n c]] V fun e w' => e = .returned (.bool true) ∧ Below V.heap.size V w' := C
    obtain ⟨j, rfl⟩ : ∃ j, n = j + 1 := ⟨n - 1, by omega⟩
    have CT : Hid (∀ W, Below w.heap.size w W → Calls Tryd.prog 29 #[.agg #[.slice a (j + 1) c], .int .i64 (j : Int)] W fun e w' => e = .returned (.string (txP p)) ∧ Below W.heap.size W w') := fun W hW => c_lt L a (j + 1) c h40 HS.out (j + 1) j p 0 W hp (by omega) (HR.out.below hW)
    obtain ⟨s, hs⟩ : ∃ s, txP p = s := ⟨_, rfl⟩
    rw [hs] at CT E
    clear ht C hp hs HR HS
    go_enter Tryd.func8, Tryd.ntmps8
    go_wp2_with fail
    refine C'.mono ?_
    rintro e w1 ⟨rfl, hb⟩
    have B1 : Hid (Below w.heap.size w w1) := BV.out.trans (hb.mono BV.out.size)
    have X1 : Hid (Box w1 w.heap.size 30 #[.slice a (j + 1) c]) := X.out.belowS hb
    have D := CT.out w1 B1.out
    clear hb C' hV x0 CT X BV
    have x0 : w1.cell? ⟨w.heap.size, 0, none⟩ = some (.slice a (j + 1) c) := X1.out.cell 0
    go_wp2_with fail
    refine D.mono ?_
    rintro e w2 ⟨rfl, hb⟩
    have B2 : Hid (Below w.heap.size w w2) := B1.out.trans (hb.mono B1.out.size)
    clear hb D
    go_wp2
    go_ret2
    exact ⟨by rw [E.out.1, E.out.2]; rfl, B2.out⟩
set_option maxRecDepth 100000 in
set_option maxHeartbeats 4000000 in
theorem law_FnExactExprText (a : Option Addr) (n c : Nat) (L : List EN) (w : World) (hr : RdE w a n L) (hm : n ≤ maxLen) (hs : ∀ v ∈ L, v.t.size ≤ maxLen) (T : Tabs w) :
    Calls Tryd.prog 3 #[.agg #[.slice a n c]] w fun e w' => e = .returned (.bool true) ∧ Below w.heap.size w w' := by
  obtain ⟨V, hV⟩ : ∃ V, w.alloc (.cells #[.slice a n c] 24) = V := ⟨_, rfl⟩
  have B0 : Hid (Below w.heap.size w V) := by unfold Hid; rw [← hV]; exact (Below.refl _ _).alloc (Nat.le_refl _) _
  have X0 : Hid (Box V w.heap.size 24 #[.slice a n c]) := by unfold Hid; rw [← hV]; exact Box.new _ _ _
  have C1 := c_szX a n c L 1048576 V (hr.below B0.out) hm hs (by omega) (by omega)
  have HR : Hid (RdE w a n L) := hr
  have HT : Hid (Tabs w) := T
  have HS : Hid (∀ v ∈ L, v.t.size ≤ maxLen) := hs
  clear hr hs T
  have x0 : V.cell? ⟨w.heap.size, 0, none⟩ = some (.slice a n c) := X0.out.cell 0
  go_enter Tryd.func3, Tryd.ntmps3
  go_wp2_with fail
  refine C1.mono ?_
  rintro e w1 ⟨⟨z, rfl, hz, hzn⟩, hb⟩
  have B1 : Hid (Below w.heap.size w w1) := B0.out.trans (hb.mono B0.out.size)
  have X1 : Hid (Box w1 w.heap.size 24 #[.slice a n c]) := X0.out.belowS hb
  clear hb B0 X0 C1 hV x0
  by_cases hneg : z < 0
  · clear hzn
    go_wp2
    go_ret
    exact ⟨rfl, B1.out⟩
  have hn : n ≤ 1048576 := hzn (by omega)
  have CT : Hid (∀ W, Below w.heap.size w W → Calls Tryd.prog 9 #[.agg #[.slice a n c]] W fun e w' => (∃ (a' : Option Addr) (c' : Nat), e = .returned (.agg #[.slice a' n c']) ∧ RdE w' a' n L) ∧ Below W.heap.size W w') := fun W hW => c_toX a n c L W (HR.out.below hW) hn
  have CS : Hid (∀ W a' c', RdE W a' n L → Calls Tryd.prog 8 #[.agg #[.slice a' n c']] W fun e w' => e = .returned (.tuple #[.string (xtS L n), .int .i64 (xtE L n)]) ∧ Below W.heap.size W w') := fun W a' c' h => c_specT L a' n c' W h hn HS.out
  have CI : Hid (∀ W a' c', RdE W a' n L → Tabs W → Calls Tryd.prog 10 #[.agg #[.slice a' n c']] W fun e w' => e = .returned (.tuple #[.string (xtS L n), .int .i64 (xtE L n)]) ∧ Below W.heap.size W w') := fun W a' c' h hT => c_implT L a' n c' W h hn HS.out hT
  have CE : Hid (∀ W a1 c1 a2 c2, RdE W a1 n L → RdE W a2 n L → Calls Tryd.prog 11 #[.agg #[.slice a1 n c1], .agg #[.slice a2 n c2]] W fun e w' => e = .returned (.bool true) ∧ Below W.heap.size W w') := fun W a1 c1 a2 c2 h1 h2 => c_eqX a1 a2 n c1 c2 L W h1 h2 hn
  obtain ⟨xs, hxs⟩ : ∃ b, b = xtS L n := ⟨_, rfl⟩
  obtain ⟨xe, hxe⟩ : ∃ b, b = xtE L n := ⟨_, rfl⟩
  rw [← hxs, ← hxe] at CS CI
  clear hzn HS HR hxs hxe
  have x0 : w1.cell? ⟨w.heap.size, 0, none⟩ = some (.slice a n c) := X1.out.cell 0
  go_wp2_with fail
  refine (CT.out w1 B1.out).mono ?_
  rintro e w2 ⟨⟨a2, c2, rfl, r2⟩, hb⟩
  have B2 : Hid (Below w.heap.size w w2) := B1.out.trans (hb.mono B1.out.size)
  have X2 : Hid (Box w2 w.heap.size 24 #[.slice a n c]) := X1.out.belowS hb
  have CS2 := CS.out w2 a2 c2 r2
  clear hb B1 X1 CS r2 x0
  go_wp2_with fail
  refine CS2.mono ?_
  rintro e w3 ⟨rfl, hb⟩
  have B3 : Hid (Below w.heap.size w w3) := B2.out.trans (hb.mono B2.out.size)
  have X3 : Hid (Box w3 w.heap.size 24 #[.slice a n c]) := X2.out.belowS hb
  clear hb B2 X2 CS2
  have x0 : w3.cell? ⟨w.heap.size, 0, none⟩ = some (.slice a n c) := X3.out.cell 0
  go_wp2_with fail
  refine (CT.out w3 B3.out).mono ?_
  rintro e w4 ⟨⟨ax, cx, rfl, rx⟩, hb⟩
  have B4 : Hid (Below w.heap.size w w4) := B3.out.trans (hb.mono B3.out.size)
  have X4 : Hid (Box w4 w.heap.size 24 #[.slice a n c]) := X3.out.belowS hb
  have RX4 : Hid (RdE w4 ax n L) := rx
  clear hb B3 X3 rx x0
  obtain ⟨w5, hw5⟩ : ∃ W, w4.alloc (.cells #[.slice ax n cx] 30) = W := ⟨_, rfl⟩
  have hb : Below w4.heap.size w4 w5 := by rw [← hw5]; exact (Below.refl _ _).alloc (Nat.le_refl _) _
  have B5 : Hid (Below w.heap.size w w5) := B4.out.trans (hb.mono B4.out.size)
  have X5 : Hid (Box w5 w.heap.size 24 #[.slice a n c]) := X4.out.belowS hb
  have Y5 : Hid (Box w5 w4.heap.size 30 #[.slice ax n cx]) := by unfold Hid; rw [← hw5]; exact Box.new _ _ _
  have RX5 : Hid (RdE w5 ax n L) := RX4.out.below hb
  have C5 := CI.out w5 ax cx RX5.out (HT.out.below B5.out)
  clear hb B4 X4 RX4 CI
  have y0 : w5.cell? ⟨w4.heap.size, 0, none⟩ = some (.slice ax n cx) := Y5.out.cell 0
  go_wp2_with fail
  refine C5.mono ?_
  rintro e w6 ⟨rfl, hb⟩
  have B6 : Hid (Below w.heap.size w w6) := B5.out.trans (hb.mono B5.out.size)
  have X6 : Hid (Box w6 w.heap.size 24 #[.slice a n c]) := X5.out.belowS hb
  have Y6 : Hid (Box w6 w4.heap.size 30 #[.slice ax n cx]) := Y5.out.belowS hb
  have RX6 : Hid (RdE w6 ax n L) := RX5.out.below hb
  clear hb B5 X5 Y5 RX5 C5 y0 hw5
  have nn : (xe != xe) = false := by simp
  have ns : (xs.toList == xs.toList) = true := by simp
  have x0 : w6.cell? ⟨w.heap.size, 0, none⟩ = some (.slice a n c) := X6.out.cell 0
  have y0 : w6.cell? ⟨w4.heap.size, 0, none⟩ = some (.slice ax n cx) := Y6.out.cell 0
  go_wp2_with fail
  go_region_held3 (fun x => x.cell? ⟨w.heap.size, 0, none⟩ = some (.slice a n c) ∧ x.cell? ⟨w4.heap.size, 0, none⟩ = some (.slice ax n cx))
    (first | exact ⟨far6 hb8 (far6 hb7 x0), far6 hb8 (far6 hb7 y0)⟩ | exact ⟨far6 hb7 x0, far6 hb7 y0⟩ | go_keep)
    (first | (go_at_call 9; refine (CT.out _ (below_drewN B6.out _)).mono ?_; rintro e wa ⟨⟨a7, c7, rfl, r7⟩, hb7⟩)
           | (go_at_call 11; refine (CE.out _ _ _ _ _ (RX6.out.below ((Below.refl _ _).drew.trans hb7)) r7).mono ?_; rintro e w8 ⟨rfl, hb8⟩))
  have hb : Below w6.heap.size w6 w8 := ((Below.refl w6.heap.size w6).drew.trans hb7).trans (hb8.mono hb7.size)
  have B8 : Hid (Below w.heap.size w w8) := B6.out.trans (hb.mono B6.out.size)
  clear hb hb7 hb8 r7
  go_wp2
  go_ret
  exact ⟨rfl, B8.out⟩



end Go.Proofs.YtknjglgellhchaaDoor
