/-
  Sizes, copies and comparisons of expressions; the walk of the law of ExprOK.
-/
import Derived.Test.YtlekadgnfehboaaXl
import Derived.Deep.RegionHeld3
import Derived.Deep.DrawnRows
namespace Go.Proofs.Ytlekadgnfehboaa
open Go Go.RowKit
attribute [local go_sem ↓] Go.wp_at_zero Go.wp_at_succ

set_option maxRecDepth 100000 in
set_option maxHeartbeats 4000000 in
theorem c_szX (a : Option Addr) (n c : Nat) (L : List EN) (left : Int) (w : World) (hr : RdE w a n L) (hm : n ≤ maxLen) (hs : ∀ v ∈ L, v.t.size ≤ maxLen) (h0 : 0 ≤ left) (h1 : left ≤ 1048576) :
    Calls Try.prog 7 #[.agg #[.slice a n c], .int .i64 left] w fun e w' => (∃ z : Int, e = .returned (.int .i64 z) ∧ z ≤ left ∧ (0 ≤ z → n ≤ 1048576)) ∧ Below w.heap.size w w' := by
  have C : Hid (∀ W, Below w.heap.size w W → Calls Try.prog 23 #[.slice a n c, .int .i64 left] W fun e w' => (∃ z : Int, e = .returned (.int .i64 z) ∧ z ≤ left ∧ (0 ≤ z → n ≤ 1048576)) ∧ Below W.heap.size W w') := fun W hW => c_szE a n c L left W (hr.below hW) hm hs h0 h1
  clear hr hs
  go_enter Try.func7, Try.ntmps7
  go_wp2_with fail
  refine (C.out _ ((Below.refl _ _).alloc (Nat.le_refl _) _)).mono ?_
  rintro e w1 ⟨⟨z, rfl, hz, hzn⟩, hb⟩
  have HB : Hid (Below w.heap.size w w1) := ((Below.refl w.heap.size w).alloc (Nat.le_refl _) _).trans (hb.mono (by simp))
  have HZ : Hid (0 ≤ z → n ≤ 1048576) := hzn
  clear hb hzn C
  by_cases h : z < 0
  · go_wp2
    go_ret
    exact ⟨⟨_, rfl, by omega, fun h => absurd h (by omega)⟩, HB.out⟩
  · go_wp2
    go_ret
    exact ⟨⟨_, rfl, hz, HZ.out⟩, HB.out⟩
theorem loadVar1 {w : World} {r : Nat} {v0 : Value} (hb : Box w r 29 #[v0]) : (loadVar 29 ⟨r, 0, none⟩).run Try.prog w = .ok (.agg #[v0]) w := by
  have x0 : w.cell? ⟨r, 0, none⟩ = some v0 := hb.cell 0
  simp [go_sem, x0]
theorem ret1 {fn : Func} {p : Tmp} (h : fn.results = #[.cell p 29]) {R : Ending → World → Prop} {a : Act} {w : World} {r : Nat} {v0 : Value} (hp : a.tmps.getD p undef = .pointer (some ⟨r, 0, none⟩)) (hd : a.defers = []) (hb : Box w r 29 #[v0]) (hR : R (.returned (.agg #[v0])) w) : bodyPost Try.prog fn R .ret a w := by
  refine bodyPost_ret ?_ hd hR
  have hp' : a.tmps[p]?.getD undef = .pointer (some ⟨r, 0, none⟩) := by simpa using hp
  simp only [results, h]
  simp [hp', asAddr, loadVar1 hb]
set_option maxRecDepth 100000 in
set_option maxHeartbeats 4000000 in
theorem c_toX (a : Option Addr) (n c : Nat) (L : List EN) (w : World) (hr : RdE w a n L) (hn : n ≤ 1048576) :
    Calls Try.prog 9 #[.agg #[.slice a n c]] w fun e w' => (∃ (a' : Option Addr) (c' : Nat), e = .returned (.agg #[.slice a' n c']) ∧ RdE w' a' n L) ∧ Below w.heap.size w w' := by
  obtain ⟨V, hV⟩ : ∃ V, ((w.alloc (.cells #[.slice a n c] 24)).alloc (.cells #[.slice none 0 0] 29)).alloc (.cells #[.slice none 0 0] 29) = V := ⟨_, rfl⟩
  have B0 : Below w.heap.size w V := by rw [← hV]; exact (((Below.refl _ _).alloc (Nat.le_refl _) _).alloc (by simp) _).alloc (by simp; omega) _
  have X0 : Box V (w.heap.size + 1) 29 #[.slice none 0 0] := by rw [← hV]; exact (Box.new2 _ _ _ _).alloc _
  have Y0 : Box V (w.heap.size + 1 + 1) 29 #[.slice none 0 0] := by rw [← hV]; have := Box.new2 (w.alloc (.cells #[.slice a n c] 24)) (.cells #[.slice none 0 0] 29) #[.slice none 0 0] 29; simpa using this
  have A0 : Box V w.heap.size 24 #[.slice a n c] := by rw [← hV]; exact ((Box.new _ _ _).alloc _).alloc _
  have a0 : V.cell? ⟨w.heap.size, 0, none⟩ = some (.slice a n c) := A0.cell 0
  clear A0
  have C := c_toE a n c L V (hr.below B0) hn
  clear hr
  go_enter Try.func9, Try.ntmps9
  go_wp2_with fail
  refine C.mono ?_
  rintro e w1 ⟨rfl, ho, hb⟩
  have B1 : Hid (Below w.heap.size w w1) := B0.trans (hb.mono B0.size)
  have X1 : Box w1 (w.heap.size + 1) 29 #[.slice none 0 0] := X0.belowS hb
  have Y1 : Box w1 (w.heap.size + 1 + 1) 29 #[.slice none 0 0] := Y0.belowS hb
  have sV : w.heap.size + 1 + 1 < V.heap.size := Y0.lt
  have s1 : V.heap.size ≤ w1.heap.size := hb.size
  have x0 : w1.cell? ⟨w.heap.size + 1, 0, none⟩ = some (.slice none 0 0) := X1.cell 0
  have y0 : w1.cell? ⟨w.heap.size + 1 + 1, 0, none⟩ = some (.slice none 0 0) := Y1.cell 0
  have tx := X1.thaw 0
  have ty := Y1.thaw 0
  have X2 : Hid (∀ v u, Box ((w1.setCell ⟨w.heap.size + 1 + 1, 0, none⟩ v).setCell ⟨w.heap.size + 1, 0, none⟩ u) (w.heap.size + 1) 29 #[u]) := fun v u => by
    have := ((X1.setOther ⟨w.heap.size + 1 + 1, 0, none⟩ v (by simp)).set 0 u)
    simpa using this
  have HO : Hid (w1.ownsRow V.heap.size 75 7 (.slice (some ⟨V.heap.size, 0, none⟩) n n) n (cellsE L)) := ho
  clear hb hV B0 X0 Y0 C X1 Y1 ho a0
  go_wp2
  refine ret1 Try.results9 rfl rfl (X2.out _ _) ⟨⟨_, _, rfl, ?_⟩, (B1.out.setCell (by simp; omega) _).setCell (by simp) _⟩
  refine RdE.own (base := V.heap.size) (own_same HO.out fun g e => ?_)
  have e' : V.heap.size = g := Option.some.inj e
  rw [Below.heap_setCell _ _ _ _ (by simp; omega), Below.heap_setCell _ _ _ _ (by simp; omega)]
set_option maxRecDepth 100000 in
set_option maxHeartbeats 4000000 in
theorem c_eqX (a a' : Option Addr) (n c c' : Nat) (L : List EN) (w : World) (hr : RdE w a n L) (hr' : RdE w a' n L) (hn : n ≤ 1048576) :
    Calls Try.prog 11 #[.agg #[.slice a n c], .agg #[.slice a' n c']] w fun e w' => e = .returned (.bool true) ∧ Below w.heap.size w w' := by
  have C : Hid (∀ W, Below w.heap.size w W → Calls Try.prog 28 #[.slice a n c, .slice a' n c'] W fun e w' => e = .returned (.bool true) ∧ Below W.heap.size W w') := fun W hW => c_eqE a a' n c c' L W (hr.below hW) (hr'.below hW) hn
  clear hr hr'
  go_enter Try.func11, Try.ntmps11
  go_wp2_with fail
  refine (C.out _ (((Below.refl _ _).alloc (Nat.le_refl _) _).alloc (by simp) _)).mono ?_
  rintro e w1 ⟨rfl, hb⟩
  have HB : Hid (Below w.heap.size w w1) := (((Below.refl w.heap.size w).alloc (Nat.le_refl _) _).alloc (by simp) _).trans (hb.mono (by simp; omega))
  clear hb C
  go_wp2
  go_ret
  exact ⟨rfl, HB.out⟩
set_option maxRecDepth 100000 in
set_option maxHeartbeats 4000000 in
theorem law_FnExactExprOK (a : Option Addr) (n c : Nat) (L : List EN) (w : World) (hr : RdE w a n L) (hm : n ≤ maxLen) (hs : ∀ v ∈ L, v.t.size ≤ maxLen) :
    Calls Try.prog 3 #[.agg #[.slice a n c]] w fun e w' => e = .returned (.bool true) ∧ Below w.heap.size w w' := by
  obtain ⟨V, hV⟩ : ∃ V, w.alloc (.cells #[.slice a n c] 24) = V := ⟨_, rfl⟩
  have B0 : Hid (Below w.heap.size w V) := by unfold Hid; rw [← hV]; exact (Below.refl _ _).alloc (Nat.le_refl _) _
  have X0 : Hid (Box V w.heap.size 24 #[.slice a n c]) := by unfold Hid; rw [← hV]; exact Box.new _ _ _
  have C1 := c_szX a n c L 1048576 V (hr.below B0.out) hm hs (by omega) (by omega)
  have HR : Hid (RdE w a n L) := hr
  have HS : Hid (∀ v ∈ L, v.t.size ≤ maxLen) := hs
  clear hr hs
  have x0 : V.cell? ⟨w.heap.size, 0, none⟩ = some (.slice a n c) := X0.out.cell 0
  go_enter Try.func3, Try.ntmps3
  go_wp2_with fail
  refine C1.mono ?_
  rintro e w1 ⟨⟨z, rfl, hz, hzn⟩, hb⟩
  have B1 : Hid (Below w.heap.size w w1) := B0.out.trans (hb.mono B0.out.size)
  have X1 : Hid (Box w1 w.heap.size 24 #[.slice a n c]) := X0.out.belowS hb
  clear hb B0 X0 C1 hV x0
  by_cases hneg : z < 0
  · clear hzn
    go_wp2
    go_ret
    exact ⟨rfl, B1.out⟩
  have hn : n ≤ 1048576 := hzn (by omega)
  have CT : Hid (∀ W, Below w.heap.size w W → Calls Try.prog 9 #[.agg #[.slice a n c]] W fun e w' => (∃ (a' : Option Addr) (c' : Nat), e = .returned (.agg #[.slice a' n c']) ∧ RdE w' a' n L) ∧ Below W.heap.size W w') := fun W hW => c_toX a n c L W (HR.out.below hW) hn
  have CS : Hid (∀ W a' c', RdE W a' n L → Calls Try.prog 8 #[.agg #[.slice a' n c']] W fun e w' => e = .returned (.bool (okX L n)) ∧ Below W.heap.size W w') := fun W a' c' h => c_specX L a' n c' W h hn HS.out
  have CI : Hid (∀ W a' c', RdE W a' n L → Calls Try.prog 10 #[.agg #[.slice a' n c']] W fun e w' => e = .returned (.bool (okX L n)) ∧ Below W.heap.size W w') := fun W a' c' h => c_implX L a' n c' W h hn HS.out
  have CE : Hid (∀ W a1 c1 a2 c2, RdE W a1 n L → RdE W a2 n L → Calls Try.prog 11 #[.agg #[.slice a1 n c1], .agg #[.slice a2 n c2]] W fun e w' => e = .returned (.bool true) ∧ Below W.heap.size W w') := fun W a1 c1 a2 c2 h1 h2 => c_eqX a1 a2 n c1 c2 L W h1 h2 hn
  obtain ⟨ok, hok⟩ : ∃ b, b = okX L n := ⟨_, rfl⟩
  rw [← hok] at CS CI
  clear hzn HS HR hok
  have x0 : w1.cell? ⟨w.heap.size, 0, none⟩ = some (.slice a n c) := X1.out.cell 0
  go_wp2_with fail
  refine (CT.out w1 B1.out).mono ?_
  rintro e w2 ⟨⟨a2, c2, rfl, r2⟩, hb⟩
  have B2 : Hid (Below w.heap.size w w2) := B1.out.trans (hb.mono B1.out.size)
  have X2 : Hid (Box w2 w.heap.size 24 #[.slice a n c]) := X1.out.belowS hb
  have CS2 := CS.out w2 a2 c2 r2
  clear hb B1 X1 CS r2 x0
  go_wp2_with fail
  refine CS2.mono ?_
  rintro e w3 ⟨rfl, hb⟩
  have B3 : Hid (Below w.heap.size w w3) := B2.out.trans (hb.mono B2.out.size)
  have X3 : Hid (Box w3 w.heap.size 24 #[.slice a n c]) := X2.out.belowS hb
  clear hb B2 X2 CS2
  have x0 : w3.cell? ⟨w.heap.size, 0, none⟩ = some (.slice a n c) := X3.out.cell 0
  go_wp2_with fail
  refine (CT.out w3 B3.out).mono ?_
  rintro e w4 ⟨⟨ax, cx, rfl, rx⟩, hb⟩
  have B4 : Hid (Below w.heap.size w w4) := B3.out.trans (hb.mono B3.out.size)
  have X4 : Hid (Box w4 w.heap.size 24 #[.slice a n c]) := X3.out.belowS hb
  have RX4 : Hid (RdE w4 ax n L) := rx
  clear hb B3 X3 rx x0
  obtain ⟨w5, hw5⟩ : ∃ W, w4.alloc (.cells #[.slice ax n cx] 29) = W := ⟨_, rfl⟩
  have hb : Below w4.heap.size w4 w5 := by rw [← hw5]; exact (Below.refl _ _).alloc (Nat.le_refl _) _
  have B5 : Hid (Below w.heap.size w w5) := B4.out.trans (hb.mono B4.out.size)
  have X5 : Hid (Box w5 w.heap.size 24 #[.slice a n c]) := X4.out.belowS hb
  have Y5 : Hid (Box w5 w4.heap.size 29 #[.slice ax n cx]) := by unfold Hid; rw [← hw5]; exact Box.new _ _ _
  have RX5 : Hid (RdE w5 ax n L) := RX4.out.below hb
  have C5 := CI.out w5 ax cx RX5.out
  clear hb B4 X4 RX4 CI
  have y0 : w5.cell? ⟨w4.heap.size, 0, none⟩ = some (.slice ax n cx) := Y5.out.cell 0
  go_wp2_with fail
  refine C5.mono ?_
  rintro e w6 ⟨rfl, hb⟩
  have B6 : Hid (Below w.heap.size w w6) := B5.out.trans (hb.mono B5.out.size)
  have X6 : Hid (Box w6 w.heap.size 24 #[.slice a n c]) := X5.out.belowS hb
  have Y6 : Hid (Box w6 w4.heap.size 29 #[.slice ax n cx]) := Y5.out.belowS hb
  have RX6 : Hid (RdE w6 ax n L) := RX5.out.below hb
  clear hb B5 X5 Y5 RX5 C5 y0 hw5
  have nn : (ok != ok) = false := by simp
  have x0 : w6.cell? ⟨w.heap.size, 0, none⟩ = some (.slice a n c) := X6.out.cell 0
  have y0 : w6.cell? ⟨w4.heap.size, 0, none⟩ = some (.slice ax n cx) := Y6.out.cell 0
  go_wp2_with fail
  go_region_held3 (fun x => x.cell? ⟨w.heap.size, 0, none⟩ = some (.slice a n c) ∧ x.cell? ⟨w4.heap.size, 0, none⟩ = some (.slice ax n cx))
    (first | exact ⟨far6 hb8 (far6 hb7 x0), far6 hb8 (far6 hb7 y0)⟩ | exact ⟨far6 hb7 x0, far6 hb7 y0⟩ | go_keep)
    (first | (go_at_call 9; refine (CT.out _ (below_drewN B6.out _)).mono ?_; rintro e wa ⟨⟨a7, c7, rfl, r7⟩, hb7⟩)
           | (go_at_call 11; refine (CE.out _ _ _ _ _ (RX6.out.below ((Below.refl _ _).drew.trans hb7)) r7).mono ?_; rintro e w8 ⟨rfl, hb8⟩))
  have hb : Below w6.heap.size w6 w8 := ((Below.refl w6.heap.size w6).drew.trans hb7).trans (hb8.mono hb7.size)
  have B8 : Hid (Below w.heap.size w w8) := B6.out.trans (hb.mono B6.out.size)
  clear hb hb7 hb8 r7
  go_wp2
  go_ret
  exact ⟨rfl, B8.out⟩

end Go.Proofs.Ytlekadgnfehboaa
