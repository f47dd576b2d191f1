/-
  AnswerText: the law.
-/
import Derived.Test.YtknjglgellhchaaDoorUb
import Derived.Test.YtknjglgellhchaaDoorUc
import Derived.Deep.RegionHeld3
import Derived.Deep.DrawnRows
namespace Go.Proofs.YtknjglgellhchaaDoor
open Go Go.RowKit
attribute [local go_sem ↓] Go.wp_at_zero Go.wp_at_succ

set_option linter.unusedVariables false
set_option linter.unusedSimpArgs false
set_option maxRecDepth 100000 in
set_option maxHeartbeats 8000000 in
theorem c_szA (a : Option Addr) (n c : Nat) (cn : Int) (vs : List RW) (left : Int) (w : World) (hr : RdR w a n vs) (hm : n ≤ maxLen) (hs : ∀ v ∈ vs, v.t.size ≤ maxLen ∧ v.z.size ≤ maxLen) (h0 : 0 ≤ left) (h1 : left ≤ 1048576) :
    Calls Tryd.prog 22 #[.agg #[.slice a n c, .int .i64 cn], .int .i64 left] w fun e w' => (∃ z : Int, e = .returned (.int .i64 z) ∧ z ≤ left ∧ (0 ≤ z → n ≤ 1048576)) ∧ Below w.heap.size w w' := by
  have C : Hid (∀ W, Below w.heap.size w W → Calls Tryd.prog 49 #[.slice a n c, .int .i64 left] W fun e w' => (∃ z : Int, e = .returned (.int .i64 z) ∧ z ≤ left ∧ (0 ≤ z → n ≤ 1048576)) ∧ Below W.heap.size W w') := fun W hW => c_szR a n c vs left W (hr.below hW) hm hs h0 h1
  clear hr hs
  go_enter Tryd.func22, Tryd.ntmps22
  go_wp2_with fail
  refine (C.out _ ((Below.refl _ _).alloc (Nat.le_refl _) _)).mono ?_
  rintro e w1 ⟨⟨z, rfl, hz, hzn⟩, hb⟩
  have HB : Hid (Below w.heap.size w w1) := ((Below.refl w.heap.size w).alloc (Nat.le_refl _) _).trans (hb.mono (by simp))
  have HZ : Hid (0 ≤ z → n ≤ 1048576) := hzn
  clear hb hzn C
  by_cases h : z < 0
  · go_wp2
    go_ret
    exact ⟨⟨_, rfl, by omega, fun h => absurd h (by omega)⟩, HB.out⟩
  · go_wp2
    go_ret
    exact ⟨⟨_, rfl, hz, HZ.out⟩, HB.out⟩
theorem loadVar2a {w : World} {r : Nat} {v0 v1 : Value} (hb : Box w r 63 #[v0, v1]) : (loadVar 63 ⟨r, 0, none⟩).run Tryd.prog w = .ok (.agg #[v0, v1]) w := by
  have x0 : w.cell? ⟨r, 0, none⟩ = some v0 := hb.cell 0
  have x1 : w.cell? ⟨r, 1, none⟩ = some v1 := hb.cell 1
  simp [go_sem, x0, x1]
theorem ret2a {fn : Func} {p : Tmp} (h : fn.results = #[.cell p 63]) {R : Ending → World → Prop} {a : Act} {w : World} {r : Nat} {v0 v1 : Value} (hp : a.tmps.getD p undef = .pointer (some ⟨r, 0, none⟩)) (hd : a.defers = []) (hb : Box w r 63 #[v0, v1]) (hR : R (.returned (.agg #[v0, v1])) w) : bodyPost Tryd.prog fn R .ret a w := by
  refine bodyPost_ret ?_ hd hR
  have hp' : a.tmps[p]?.getD undef = .pointer (some ⟨r, 0, none⟩) := by simpa using hp
  simp only [results, h]
  simp [hp', asAddr, loadVar2a hb]
set_option maxRecDepth 100000 in
set_option maxHeartbeats 8000000 in
theorem c_toA (a : Option Addr) (n c : Nat) (cn : Int) (vs : List RW) (w : World) (hr : RdR w a n vs) (hn : n ≤ 1048576) :
    Calls Tryd.prog 24 #[.agg #[.slice a n c, .int .i64 cn]] w fun e w' => (∃ (a' : Option Addr) (c' : Nat), e = .returned (.agg #[.slice a' n c', .int .i64 cn]) ∧ RdR w' a' n vs) ∧ Below w.heap.size w w' := by
  obtain ⟨V, hV⟩ : ∃ V, ((w.alloc (.cells #[.slice a n c, .int .i64 cn] 58)).alloc (.cells #[.slice none 0 0, .int .i64 0] 63)).alloc (.cells #[.slice none 0 0, .int .i64 0] 63) = V := ⟨_, rfl⟩
  have B0 : Below w.heap.size w V := by rw [← hV]; exact (((Below.refl _ _).alloc (Nat.le_refl _) _).alloc (by simp) _).alloc (by simp; omega) _
  have X0 : Box V (w.heap.size + 1) 63 #[.slice none 0 0, .int .i64 0] := by rw [← hV]; exact (Box.new2 _ _ _ _).alloc _
  have Y0 : Box V (w.heap.size + 1 + 1) 63 #[.slice none 0 0, .int .i64 0] := by rw [← hV]; have := Box.new2 (w.alloc (.cells #[.slice a n c, .int .i64 cn] 58)) (.cells #[.slice none 0 0, .int .i64 0] 63) #[.slice none 0 0, .int .i64 0] 63; simpa using this
  have A0 : Box V w.heap.size 58 #[.slice a n c, .int .i64 cn] := by rw [← hV]; exact ((Box.new _ _ _).alloc _).alloc _
  have a0 : V.cell? ⟨w.heap.size, 0, none⟩ = some (.slice a n c) := A0.cell 0
  have C := c_toR a n c vs V (hr.below B0) hn
  clear hr
  go_enter Tryd.func24, Tryd.ntmps24
  go_wp2_with fail
  refine C.mono ?_
  rintro e w1 ⟨rfl, ho, hb⟩
  have B1 : Hid (Below w.heap.size w w1) := B0.trans (hb.mono B0.size)
  have X1 : Box w1 (w.heap.size + 1) 63 #[.slice none 0 0, .int .i64 0] := X0.belowS hb
  have Y1 : Box w1 (w.heap.size + 1 + 1) 63 #[.slice none 0 0, .int .i64 0] := Y0.belowS hb
  have A1 : Box w1 w.heap.size 58 #[.slice a n c, .int .i64 cn] := A0.belowS hb
  have sV : w.heap.size + 1 + 1 < V.heap.size := Y0.lt
  have s1 : V.heap.size ≤ w1.heap.size := hb.size
  have a1 : w1.cell? ⟨w.heap.size, 1, none⟩ = some (.int .i64 cn) := A1.cell 1
  have x0 : w1.cell? ⟨w.heap.size + 1, 0, none⟩ = some (.slice none 0 0) := X1.cell 0
  have x1 : w1.cell? ⟨w.heap.size + 1, 1, none⟩ = some (.int .i64 0) := X1.cell 1
  have y0 : w1.cell? ⟨w.heap.size + 1 + 1, 0, none⟩ = some (.slice none 0 0) := Y1.cell 0
  have y1 : w1.cell? ⟨w.heap.size + 1 + 1, 1, none⟩ = some (.int .i64 0) := Y1.cell 1
  have tx := X1.thaw 0
  have tx1 := X1.thaw 1
  have ty := Y1.thaw 0
  have ty1 := Y1.thaw 1
  have X2 : Hid (∀ v v' u u', Box ((((w1.setCell ⟨w.heap.size + 1 + 1, 0, none⟩ v).setCell ⟨w.heap.size + 1 + 1, 1, none⟩ v').setCell ⟨w.heap.size + 1, 0, none⟩ u).setCell ⟨w.heap.size + 1, 1, none⟩ u') (w.heap.size + 1) 63 #[u, u']) := fun v v' u u' => by
    have := ((((X1.setOther ⟨w.heap.size + 1 + 1, 0, none⟩ v (by simp)).setOther ⟨w.heap.size + 1 + 1, 1, none⟩ v' (by simp)).set 0 u).set 1 u')
    simpa using this
  have HO : Hid (w1.ownsRow V.heap.size 50 7 (.slice (some ⟨V.heap.size, 0, none⟩) n n) n (cellsR vs)) := ho
  clear hb hV B0 X0 Y0 C X1 Y1 ho a0 A0 A1
  go_wp2
  refine ret2a Tryd.results24 rfl rfl (X2.out _ _ _ _) ⟨⟨_, _, rfl, ?_⟩, (((B1.out.setCell (by simp; omega) _).setCell (by simp; omega) _).setCell (by simp) _).setCell (by simp) _⟩
  refine RdR.own (base := V.heap.size) (own_same HO.out fun g e => ?_)
  have e' : V.heap.size = g := Option.some.inj e
  rw [Below.heap_setCell _ _ _ _ (by simp; omega), Below.heap_setCell _ _ _ _ (by simp; omega), Below.heap_setCell _ _ _ _ (by simp; omega), Below.heap_setCell _ _ _ _ (by simp; omega)]
set_option maxRecDepth 100000 in
set_option maxHeartbeats 8000000 in
theorem c_eqA (a a' : Option Addr) (n c c' : Nat) (cn : Int) (vs : List RW) (w : World) (hr : RdR w a n vs) (hr' : RdR w a' n vs) (hn : n ≤ 1048576) :
    Calls Tryd.prog 26 #[.agg #[.slice a n c, .int .i64 cn], .agg #[.slice a' n c', .int .i64 cn]] w fun e w' => e = .returned (.bool true) ∧ Below w.heap.size w w' := by
  obtain ⟨V, hV⟩ : ∃ V, (w.alloc (.cells #[.slice a n c, .int .i64 cn] 63)).alloc (.cells #[.slice a' n c', .int .i64 cn] 63) = V := ⟨_, rfl⟩
  have BV : Hid (Below w.heap.size w V) := by unfold Hid; rw [← hV]; exact ((Below.refl _ _).alloc (Nat.le_refl _) _).alloc (by simp) _
  have X0 : Hid (Box V w.heap.size 63 #[.slice a n c, .int .i64 cn]) := by unfold Hid; rw [← hV]; exact (Box.new _ _ _).alloc _
  have Y0 : Hid (Box V (w.heap.size + 1) 63 #[.slice a' n c', .int .i64 cn]) := by unfold Hid; rw [← hV]; exact Box.new2 _ _ _ _
  have C := c_eqR a a' n c c' vs V (hr.below BV.out) (hr'.below BV.out) hn
  have x0 : V.cell? ⟨w.heap.size, 0, none⟩ = some (.slice a n c) := X0.out.cell 0
  have y0 : V.cell? ⟨w.heap.size + 1, 0, none⟩ = some (.slice a' n c') := Y0.out.cell 0
  clear hr hr'
  go_enter Tryd.func26, Tryd.ntmps26
  go_wp2_with fail
  refine C.mono ?_
  rintro e w1 ⟨rfl, hb⟩
  have HB : Hid (Below w.heap.size w w1) := BV.out.trans (hb.mono BV.out.size)
  have X1 : Hid (Box w1 w.heap.size 63 #[.slice a n c, .int .i64 cn]) := X0.out.belowS hb
  have Y1 : Hid (Box w1 (w.heap.size + 1) 63 #[.slice a' n c', .int .i64 cn]) := Y0.out.belowS hb
  clear hb C hV x0 y0 X0 Y0
  have x1 : w1.cell? ⟨w.heap.size, 1, none⟩ = some (.int .i64 cn) := X1.out.cell 1
  have y1 : w1.cell? ⟨w.heap.size + 1, 1, none⟩ = some (.int .i64 cn) := Y1.out.cell 1
  have nn : (cn != cn) = false := by simp
  go_wp2
  go_ret
  exact ⟨rfl, HB.out⟩
set_option maxRecDepth 100000 in
set_option maxHeartbeats 8000000 in
theorem law_FnExactAnswerText (a : Option Addr) (n c : Nat) (cn : Int) (vs : List RW) (w : World) (hr : RdR w a n vs) (hm : n ≤ maxLen) (hs : ∀ v ∈ vs, v.t.size ≤ maxLen ∧ v.z.size ≤ maxLen) (T : TabP w) :
    Calls Tryd.prog 6 #[.agg #[.slice a n c, .int .i64 cn]] w fun e w' => e = .returned (.bool true) ∧ Below w.heap.size w w' := by
  obtain ⟨V, hV⟩ : ∃ V, w.alloc (.cells #[.slice a n c, .int .i64 cn] 58) = V := ⟨_, rfl⟩
  have B0 : Hid (Below w.heap.size w V) := by unfold Hid; rw [← hV]; exact (Below.refl _ _).alloc (Nat.le_refl _) _
  have X0 : Hid (Box V w.heap.size 58 #[.slice a n c, .int .i64 cn]) := by unfold Hid; rw [← hV]; exact Box.new _ _ _
  have C1 := c_szA a n c cn vs 1048576 V (hr.below B0.out) hm hs (by omega) (by omega)
  have HR : Hid (RdR w a n vs) := hr
  have HT : Hid (TabP w) := T
  have HS : Hid (∀ v ∈ vs, v.t.size ≤ maxLen ∧ v.z.size ≤ maxLen) := hs
  clear hr hs T
  have x0 : V.cell? ⟨w.heap.size, 0, none⟩ = some (.slice a n c) := X0.out.cell 0
  have x1 : V.cell? ⟨w.heap.size, 1, none⟩ = some (.int .i64 cn) := X0.out.cell 1
  go_enter Tryd.func6, Tryd.ntmps6
  go_wp2_with fail
  refine C1.mono ?_
  rintro e w1 ⟨⟨z, rfl, hz, hzn⟩, hb⟩
  have B1 : Hid (Below w.heap.size w w1) := B0.out.trans (hb.mono B0.out.size)
  have X1 : Hid (Box w1 w.heap.size 58 #[.slice a n c, .int .i64 cn]) := X0.out.belowS hb
  clear hb B0 X0 C1 hV x0 x1
  by_cases hneg : z < 0
  · clear hzn
    go_wp2
    go_ret
    exact ⟨rfl, B1.out⟩
  have hn : n ≤ 1048576 := hzn (by omega)
  have CT : Hid (∀ W, Below w.heap.size w W → Calls Tryd.prog 24 #[.agg #[.slice a n c, .int .i64 cn]] W fun e w' => (∃ (a' : Option Addr) (c' : Nat), e = .returned (.agg #[.slice a' n c', .int .i64 cn]) ∧ RdR w' a' n vs) ∧ Below W.heap.size W w') := fun W hW => c_toA a n c cn vs W (HR.out.below hW) hn
  have CS : Hid (∀ W a' c', RdR W a' n vs → Calls Tryd.prog 23 #[.agg #[.slice a' n c', .int .i64 cn]] W fun e w' => e = .returned (.tuple #[.string (ansS cn n vs), .int .i64 (ansE cn n vs)]) ∧ Below W.heap.size W w') := fun W a' c' h => c_specAT a' n c' cn vs W h hn HS.out
  have CI : Hid (∀ W a' c', RdR W a' n vs → TabP W → Calls Tryd.prog 25 #[.agg #[.slice a' n c', .int .i64 cn]] W fun e w' => e = .returned (.tuple #[.string (ansS cn n vs), .int .i64 (ansE cn n vs)]) ∧ Below W.heap.size W w') := fun W a' c' h hT => c_implAT a' n c' cn vs W h hn HS.out hT
  have CE : Hid (∀ W a1 c1 a2 c2, RdR W a1 n vs → RdR W a2 n vs → Calls Tryd.prog 26 #[.agg #[.slice a1 n c1, .int .i64 cn], .agg #[.slice a2 n c2, .int .i64 cn]] W fun e w' => e = .returned (.bool true) ∧ Below W.heap.size W w') := fun W a1 c1 a2 c2 h1 h2 => c_eqA a1 a2 n c1 c2 cn vs W h1 h2 hn
  obtain ⟨xs, hxs⟩ : ∃ b, b = ansS cn n vs := ⟨_, rfl⟩
  obtain ⟨xe, hxe⟩ : ∃ b, b = ansE cn n vs := ⟨_, rfl⟩
  rw [← hxs, ← hxe] at CS CI
  clear hzn HS HR hxs hxe
  have x0 : w1.cell? ⟨w.heap.size, 0, none⟩ = some (.slice a n c) := X1.out.cell 0
  have x1 : w1.cell? ⟨w.heap.size, 1, none⟩ = some (.int .i64 cn) := X1.out.cell 1
  go_wp2_with fail
  refine (CT.out w1 B1.out).mono ?_
  rintro e w2 ⟨⟨a2, c2, rfl, r2⟩, hb⟩
  have B2 : Hid (Below w.heap.size w w2) := B1.out.trans (hb.mono B1.out.size)
  have X2 : Hid (Box w2 w.heap.size 58 #[.slice a n c, .int .i64 cn]) := X1.out.belowS hb
  have CS2 := CS.out w2 a2 c2 r2
  clear hb B1 X1 CS r2 x0 x1
  go_wp2_with fail
  refine CS2.mono ?_
  rintro e w3 ⟨rfl, hb⟩
  have B3 : Hid (Below w.heap.size w w3) := B2.out.trans (hb.mono B2.out.size)
  have X3 : Hid (Box w3 w.heap.size 58 #[.slice a n c, .int .i64 cn]) := X2.out.belowS hb
  clear hb B2 X2 CS2
  have x0 : w3.cell? ⟨w.heap.size, 0, none⟩ = some (.slice a n c) := X3.out.cell 0
  have x1 : w3.cell? ⟨w.heap.size, 1, none⟩ = some (.int .i64 cn) := X3.out.cell 1
  go_wp2_with fail
  refine (CT.out w3 B3.out).mono ?_
  rintro e w4 ⟨⟨ax, cx, rfl, rx⟩, hb⟩
  have B4 : Hid (Below w.heap.size w w4) := B3.out.trans (hb.mono B3.out.size)
  have X4 : Hid (Box w4 w.heap.size 58 #[.slice a n c, .int .i64 cn]) := X3.out.belowS hb
  have RX4 : Hid (RdR w4 ax n vs) := rx
  clear hb B3 X3 rx x0 x1
  obtain ⟨w5, hw5⟩ : ∃ W, w4.alloc (.cells #[.slice ax n cx, .int .i64 cn] 63) = W := ⟨_, rfl⟩
  have hb : Below w4.heap.size w4 w5 := by rw [← hw5]; exact (Below.refl _ _).alloc (Nat.le_refl _) _
  have B5 : Hid (Below w.heap.size w w5) := B4.out.trans (hb.mono B4.out.size)
  have X5 : Hid (Box w5 w.heap.size 58 #[.slice a n c, .int .i64 cn]) := X4.out.belowS hb
  have Y5 : Hid (Box w5 w4.heap.size 63 #[.slice ax n cx, .int .i64 cn]) := by unfold Hid; rw [← hw5]; exact Box.new _ _ _
  have RX5 : Hid (RdR w5 ax n vs) := RX4.out.below hb
  have C5 := CI.out w5 ax cx RX5.out (HT.out.below B5.out)
  clear hb B4 X4 RX4 CI
  have y0 : w5.cell? ⟨w4.heap.size, 0, none⟩ = some (.slice ax n cx) := Y5.out.cell 0
  have y1 : w5.cell? ⟨w4.heap.size, 1, none⟩ = some (.int .i64 cn) := Y5.out.cell 1
  go_wp2_with fail
  refine C5.mono ?_
  rintro e w6 ⟨rfl, hb⟩
  have B6 : Hid (Below w.heap.size w w6) := B5.out.trans (hb.mono B5.out.size)
  have X6 : Hid (Box w6 w.heap.size 58 #[.slice a n c, .int .i64 cn]) := X5.out.belowS hb
  have Y6 : Hid (Box w6 w4.heap.size 63 #[.slice ax n cx, .int .i64 cn]) := Y5.out.belowS hb
  have RX6 : Hid (RdR w6 ax n vs) := RX5.out.below hb
  clear hb B5 X5 Y5 RX5 C5 y0 y1 hw5
  have nn : (xe != xe) = false := by simp
  have ns : (xs.toList == xs.toList) = true := by simp
  have x0 : w6.cell? ⟨w.heap.size, 0, none⟩ = some (.slice a n c) := X6.out.cell 0
  have x1 : w6.cell? ⟨w.heap.size, 1, none⟩ = some (.int .i64 cn) := X6.out.cell 1
  have y0 : w6.cell? ⟨w4.heap.size, 0, none⟩ = some (.slice ax n cx) := Y6.out.cell 0
  have y1 : w6.cell? ⟨w4.heap.size, 1, none⟩ = some (.int .i64 cn) := Y6.out.cell 1
  go_wp2_with fail
  go_region_held3 (fun x => x.cell? ⟨w.heap.size, 0, none⟩ = some (.slice a n c) ∧ x.cell? ⟨w.heap.size, 1, none⟩ = some (.int .i64 cn) ∧ x.cell? ⟨w4.heap.size, 0, none⟩ = some (.slice ax n cx) ∧ x.cell? ⟨w4.heap.size, 1, none⟩ = some (.int .i64 cn))
    (first | exact ⟨far6 hb8 (far6 hb7 x0), far6 hb8 (far6 hb7 x1), far6 hb8 (far6 hb7 y0), far6 hb8 (far6 hb7 y1)⟩ | exact ⟨far6 hb7 x0, far6 hb7 x1, far6 hb7 y0, far6 hb7 y1⟩ | go_keep)
    (first | (go_at_call 24; refine (CT.out _ (below_drewN B6.out _)).mono ?_; rintro e wa ⟨⟨a7, c7, rfl, r7⟩, hb7⟩)
           | (go_at_call 26; refine (CE.out _ _ _ _ _ (RX6.out.below ((Below.refl _ _).drew.trans hb7)) r7).mono ?_; rintro e w8 ⟨rfl, hb8⟩))
  have hb : Below w6.heap.size w6 w8 := ((Below.refl w6.heap.size w6).drew.trans hb7).trans (hb8.mono hb7.size)
  have B8 : Hid (Below w.heap.size w w8) := B6.out.trans (hb.mono B6.out.size)
  clear hb hb7 hb8 r7
  go_wp2
  go_ret
  exact ⟨rfl, B8.out⟩

end Go.Proofs.YtknjglgellhchaaDoor
