/-
  Sizes, copies and comparisons of expressions; the walk of the law of ExprOK.
-/
import Derived.Test.YtknjglgellhchaaDoorXl
import Derived.Deep.RegionHeld3
import Derived.Deep.DrawnRows
namespace Go.Proofs.YtknjglgellhchaaDoor
open Go Go.RowKit
attribute [local go_sem ↓] Go.wp_at_zero Go.wp_at_succ

set_option maxRecDepth 100000 in
set_option maxHeartbeats 4000000 in
theorem c_szX (a : Option Addr) (n c : Nat) (L : List EN) (left : Int) (w : World) (hr : RdE w a n L) (hm : n ≤ maxLen) (hs : ∀ v ∈ L, v.t.size ≤ maxLen) (h0 : 0 ≤ left) (h1 : left ≤ 1048576) :
    Calls Tryd.prog 7 #[.agg #[.slice a n c], .int .i64 left] w fun e w' => (∃ z : Int, e = .returned (.int .i64 z) ∧ z ≤ left ∧ (0 ≤ z → n ≤ 1048576)) ∧ Below w.heap.size w w' := by
  have C : Hid (∀ W, Below w.heap.size w W → Calls Tryd.prog 27 #[.slice a n c, .int .i64 left] W fun e w' => (∃ z : Int, e = .returned (.int .i64 z) ∧ z ≤ left ∧ (0 ≤ z → n ≤ 1048576)) ∧ Below W.heap.size W w') := fun W hW => c_szE a n c L left W (hr.below hW) hm hs h0 h1
  clear hr hs
  go_enter Tryd.func7, Tryd.ntmps7
  go_wp2_with fail
  refine (C.out _ ((Below.refl _ _).alloc (Nat.le_refl _) _)).mono ?_
  rintro e w1 ⟨⟨z, rfl, hz, hzn⟩, hb⟩
  have HB : Hid (Below w.heap.size w w1) := ((Below.refl w.heap.size w).alloc (Nat.le_refl _) _).trans (hb.mono (by simp))
  have HZ : Hid (0 ≤ z → n ≤ 1048576) := hzn
  clear hb hzn C
  by_cases h : z < 0
  · go_wp2
    go_ret
    exact ⟨⟨_, rfl, by omega, fun h => absurd h (by omega)⟩, HB.out⟩
  · go_wp2
    go_ret
    exact ⟨⟨_, rfl, hz, HZ.out⟩, HB.out⟩
theorem loadVar1 {w : World} {r : Nat} {v0 : Value} (hb : Box w r 30 #[v0]) : (loadVar 30 ⟨r, 0, none⟩).run Tryd.prog w = .ok (.agg #[v0]) w := by
  have x0 : w.cell? ⟨r, 0, none⟩ = some v0 := hb.cell 0
  simp [go_sem, x0]
theorem ret1 {fn : Func} {p : Tmp} (h : fn.results = #[.cell p 30]) {R : Ending → World → Prop} {a : Act} {w : World} {r : Nat} {v0 : Value} (hp : a.tmps.getD p undef = .pointer (some ⟨r, 0, none⟩)) (hd : a.defers = []) (hb : Box w r 30 #[v0]) (hR : R (.returned (.agg #[v0])) w) : bodyPost Tryd.prog fn R .ret a w := by
  refine bodyPost_ret ?_ hd hR
  have hp' : a.tmps[p]?.getD undef = .pointer (some ⟨r, 0, none⟩) := by simpa using hp
  simp only [results, h]
  simp [hp', asAddr, loadVar1 hb]
set_option maxRecDepth 100000 in
set_option maxHeartbeats 4000000 in
theorem c_toX (a : Option Addr) (n c : Nat) (L : List EN) (w : World) (hr : RdE w a n L) (hn : n ≤ 1048576) :
    Calls Tryd.prog 9 #[.agg #[.slice a n c]] w fun e w' => (∃ (a' : Option Addr) (c' : Nat), e = .returned (.agg #[.slice a' n c']) ∧ RdE w' a' n L) ∧ Below w.heap.size w w' := by
  obtain ⟨V, hV⟩ : ∃ V, ((w.alloc (.cells #[.slice a n c] 24)).alloc (.cells #[.slice none 0 0] 30)).alloc (.cells #[.slice none 0 0] 30) = V := ⟨_, rfl⟩
  have B0 : Below w.heap.size w V := by rw [← hV]; exact (((Below.refl _ _).alloc (Nat.le_refl _) _).alloc (by simp) _).alloc (by simp; omega) _
  have X0 : Box V (w.heap.size + 1) 30 #[.slice none 0 0] := by rw [← hV]; exact (Box.new2 _ _ _ _).alloc _
  have Y0 : Box V (w.heap.size + 1 + 1) 30 #[.slice none 0 0] := by rw [← hV]; have := Box.new2 (w.alloc (.cells #[.slice a n c] 24)) (.cells #[.slice none 0 0] 30) #[.slice none 0 0] 30; simpa using this
  have A0 : Box V w.heap.size 24 #[.slice a n c] := by rw [← hV]; exact ((Box.new _ _ _).alloc _).alloc _
  have a0 : V.cell? ⟨w.heap.size, 0, none⟩ = some (.slice a n c) := A0.cell 0
  clear A0
  have C := c_toE a n c L V (hr.below B0) hn
  clear hr
  go_enter Tryd.func9, Tryd.ntmps9
  go_wp2_with fail
  refine C.mono ?_
  rintro e w1 ⟨rfl, ho, hb⟩
  have B1 : Hid (Below w.heap.size w w1) := B0.trans (hb.mono B0.size)
  have X1 : Box w1 (w.heap.size + 1) 30 #[.slice none 0 0] := X0.belowS hb
  have Y1 : Box w1 (w.heap.size + 1 + 1) 30 #[.slice none 0 0] := Y0.belowS hb
  have sV : w.heap.size + 1 + 1 < V.heap.size := Y0.lt
  have s1 : V.heap.size ≤ w1.heap.size := hb.size
  have x0 : w1.cell? ⟨w.heap.size + 1, 0, none⟩ = some (.slice none 0 0) := X1.cell 0
  have y0 : w1.cell? ⟨w.heap.size + 1 + 1, 0, none⟩ = some (.slice none 0 0) := Y1.cell 0
  have tx := X1.thaw 0
  have ty := Y1.thaw 0
  have X2 : Hid (∀ v u, Box ((w1.setCell ⟨w.heap.size + 1 + 1, 0, none⟩ v).setCell ⟨w.heap.size + 1, 0, none⟩ u) (w.heap.size + 1) 30 #[u]) := fun v u => by
    have := ((X1.setOther ⟨w.heap.size + 1 + 1, 0, none⟩ v (by simp)).set 0 u)
    simpa using this
  have HO : Hid (w1.ownsRow V.heap.size 101 7 (.slice (some ⟨V.heap.size, 0, none⟩) n n) n (cellsE L)) := ho
  clear hb hV B0 X0 Y0 C X1 Y1 ho a0
  go_wp2
  refine ret1 Tryd.results9 rfl rfl (X2.out _ _) ⟨⟨_, _, rfl, ?_⟩, (B1.out.setCell (by simp; omega) _).setCell (by simp) _⟩
  refine RdE.own (base := V.heap.size) (own_same HO.out fun g e => ?_)
  have e' : V.heap.size = g := Option.some.inj e
  rw [Below.heap_setCell _ _ _ _ (by simp; omega), Below.heap_setCell _ _ _ _ (by simp; omega)]
set_option maxRecDepth 100000 in
set_option maxHeartbeats 4000000 in
theorem c_eqX (a a' : Option Addr) (n c c' : Nat) (L : List EN) (w : World) (hr : RdE w a n L) (hr' : RdE w a' n L) (hn : n ≤ 1048576) :
    Calls Tryd.prog 11 #[.agg #[.slice a n c], .agg #[.slice a' n c']] w fun e w' => e = .returned (.bool true) ∧ Below w.heap.size w w' := by
  have C : Hid (∀ W, Below w.heap.size w W → Calls Tryd.prog 33 #[.slice a n c, .slice a' n c'] W fun e w' => e = .returned (.bool true) ∧ Below W.heap.size W w') := fun W hW => c_eqE a a' n c c' L W (hr.below hW) (hr'.below hW) hn
  clear hr hr'
  go_enter Tryd.func11, Tryd.ntmps11
  go_wp2_with fail
  refine (C.out _ (((Below.refl _ _).alloc (Nat.le_refl _) _).alloc (by simp) _)).mono ?_
  rintro e w1 ⟨rfl, hb⟩
  have HB : Hid (Below w.heap.size w w1) := (((Below.refl w.heap.size w).alloc (Nat.le_refl _) _).alloc (by simp) _).trans (hb.mono (by simp; omega))
  clear hb C
  go_wp2
  go_ret
  exact ⟨rfl, HB.out⟩
end Go.Proofs.YtknjglgellhchaaDoor
