/-
  The walk of the law of EvalExpr.
-/
import Derived.Test.YtlapmidiakaimaaEe
import Derived.Deep.RegionHeld3
import Derived.Deep.DrawnRows
import Derived.Deep.DeepCutAuto
namespace Go.Proofs.Ytlapmidiakaimaa
open Go Go.RowKit
attribute [local go_sem ↓] Go.wp_at_zero Go.wp_at_succ

def CutE (W : World) (r : EV) (sp sc : Value) (wx : World) : Prop := ∃ gb : Nat, sp = .pointer (some ⟨gb, 0, none⟩) ∧ sc = .int .i64 r.c ∧ Below W.heap.size W wx ∧ W.heap.size ≤ gb ∧ Box wx gb 33 #[.int .i64 r.k, .int .i64 r.n, .string r.t]
theorem cutE_new {W y : World} {r : EV} (H : Below W.heap.size W y) : CutE W r (.pointer (some ⟨y.heap.size, 0, none⟩)) (.int .i64 r.c) (y.alloc (.cells #[.int .i64 r.k, .int .i64 r.n, .string r.t] 33)) :=
  ⟨y.heap.size, rfl, rfl, H.alloc H.size _, H.size, Box.new _ _ _⟩
theorem cutE_put {W y : World} {r : EV} {g : Nat} (H : Below W.heap.size W y) (zb : Box y g 33 #[.int .i64 0, .int .i64 0, .string ⟨#[]⟩]) (h1 : W.heap.size ≤ g) : CutE W r (.pointer (some ⟨g, 0, none⟩)) (.int .i64 r.c) ((((y).setCell ⟨g, 0, none⟩ (.int .i64 r.k)).setCell ⟨g, 1, none⟩ (.int .i64 r.n)).setCell ⟨g, 2, none⟩ (.string r.t)) :=
  ⟨g, rfl, rfl, put3_below H h1 _ _ _, h1, put3_box zb _ _ _⟩
theorem put3_cell (w : World) (g b o : Nat) (v0 v1 v2 : Value) (h : b ≠ g) : ((((w).setCell ⟨g, 0, none⟩ (v0)).setCell ⟨g, 1, none⟩ (v1)).setCell ⟨g, 2, none⟩ (v2)).cell? ⟨b, o, none⟩ = w.cell? ⟨b, o, none⟩ := World.cell?_of_block (((Below.heap_setCell _ _ _ b h).trans (Below.heap_setCell _ _ _ b h)).trans (Below.heap_setCell _ _ _ b h))
theorem zb3 {w w' : World} (hb : Below (w.alloc (.cells #[.int .i64 0, .int .i64 0, .string ⟨#[]⟩] 33)).heap.size (w.alloc (.cells #[.int .i64 0, .int .i64 0, .string ⟨#[]⟩] 33)) w') : Box w' w.heap.size 33 #[.int .i64 0, .int .i64 0, .string ⟨#[]⟩] := (Box.new w #[.int .i64 0, .int .i64 0, .string ⟨#[]⟩] 33).belowS hb
theorem zb3d {w w' : World} (hb : Below (w.alloc (.cells #[.int .i64 0, .int .i64 0, .string ⟨#[]⟩] 33)).drew.heap.size (w.alloc (.cells #[.int .i64 0, .int .i64 0, .string ⟨#[]⟩] 33)).drew w') : Box w' w.heap.size 33 #[.int .i64 0, .int .i64 0, .string ⟨#[]⟩] := (show Box (w.alloc (.cells #[.int .i64 0, .int .i64 0, .string ⟨#[]⟩] 33)).drew w.heap.size 33 #[.int .i64 0, .int .i64 0, .string ⟨#[]⟩] from Box.new w #[.int .i64 0, .int .i64 0, .string ⟨#[]⟩] 33).belowS hb
theorem zb3e {w w' : World} (hb : Below (w.drew.alloc (.cells #[.int .i64 0, .int .i64 0, .string ⟨#[]⟩] 33)).heap.size (w.drew.alloc (.cells #[.int .i64 0, .int .i64 0, .string ⟨#[]⟩] 33)) w') : Box w' w.heap.size 33 #[.int .i64 0, .int .i64 0, .string ⟨#[]⟩] := (Box.new w.drew #[.int .i64 0, .int .i64 0, .string ⟨#[]⟩] 33).belowS hb
set_option maxRecDepth 100000 in
set_option maxHeartbeats 4000000 in
theorem c_szRL (i : Int) (u v : VV) (left : Int) (w : World) (h1 : u.2.2.size ≤ maxLen) (h2 : v.2.2.size ≤ maxLen) (l0 : 0 ≤ left) (l1 : left ≤ 1048576) : Calls Try.prog 25 #[.agg #[.int .i64 i, .int .i64 u.1, .int .i64 u.2.1, .string u.2.2, .int .i64 v.1, .int .i64 v.2.1, .string v.2.2], .int .i64 left] w fun e w' => (∃ r : Int, e = .returned (.int .i64 r)) ∧ Below w.heap.size w w' := by
  obtain ⟨w0, hV⟩ : ∃ V, w.alloc (.cells #[.int .i64 i, .int .i64 u.1, .int .i64 u.2.1, .string u.2.2, .int .i64 v.1, .int .i64 v.2.1, .string v.2.2] 25) = V := ⟨_, rfl⟩
  have B0 : Hid (Below w.heap.size w w0) := by unfold Hid; rw [← hV]; exact (Below.refl _ _).alloc (Nat.le_refl _) _
  have R0 : Hid (Box w0 w.heap.size 25 #[.int .i64 i, .int .i64 u.1, .int .i64 u.2.1, .string u.2.2, .int .i64 v.1, .int .i64 v.2.1, .string v.2.2]) := by unfold Hid; rw [← hV]; exact Box.new _ _ _
  obtain ⟨q0, q1, q2, q3, q4, q5, q6⟩ := box7 R0.out
  go_enter Try.func25, Try.ntmps25
  go_wp2_with fail
  refine (c_sz _ _ _ _ _ h1 l0 l1).mono ?_
  rintro e w1 ⟨rfl, hb⟩
  have B1 : Hid (Below w.heap.size w w1) := B0.out.trans (hb.mono B0.out.size)
  have R1 : Hid (Box w1 w.heap.size 25 #[.int .i64 i, .int .i64 u.1, .int .i64 u.2.1, .string u.2.2, .int .i64 v.1, .int .i64 v.2.1, .string v.2.2]) := R0.out.belowS hb
  clear hb q0 q1 q2 q3 q4 q5 q6 B0 R0 hV
  by_cases h : left - u.2.2.size < 0
  · rw [if_pos h]
    go_wp2
    go_ret
    exact ⟨⟨_, rfl⟩, B1.out⟩
  rw [if_neg h]
  obtain ⟨q0, q1, q2, q3, q4, q5, q6⟩ := box7 R1.out
  go_wp2_with fail
  refine (c_sz _ _ _ _ _ h2 (by omega) (by omega)).mono ?_
  rintro e w2 ⟨rfl, hb⟩
  have B2 : Hid (Below w.heap.size w w2) := B1.out.trans (hb.mono B1.out.size)
  clear hb q0 q1 q2 q3 q4 q5 q6 B1 R1
  by_cases h' : left - u.2.2.size - v.2.2.size < 0
  · rw [if_pos h']
    go_wp2
    go_ret
    exact ⟨⟨_, rfl⟩, B2.out⟩
  · rw [if_neg h']
    go_wp2
    go_ret
    exact ⟨⟨_, rfl⟩, B2.out⟩
set_option maxRecDepth 100000 in
set_option maxHeartbeats 8000000 in
theorem law_FnExactEvalExpr (a : Option Addr) (n c : Nat) (L : List EN) (i : Int) (u v : VV) (w : World) (hr : RdE w a n L) (hm : n ≤ maxLen) (hs : ∀ x ∈ L, x.t.size ≤ maxLen) (h1 : u.2.2.size ≤ maxLen) (h2 : v.2.2.size ≤ maxLen) :
    Calls Try.prog 6 #[.agg #[.slice a n c], .agg #[.int .i64 i, .int .i64 u.1, .int .i64 u.2.1, .string u.2.2, .int .i64 v.1, .int .i64 v.2.1, .string v.2.2]] w fun e w' => e = .returned (.bool true) ∧ Below w.heap.size w w' := by
  obtain ⟨V, hV⟩ : ∃ V, (w.alloc (.cells #[.slice a n c] 28)).alloc (.cells #[.int .i64 i, .int .i64 u.1, .int .i64 u.2.1, .string u.2.2, .int .i64 v.1, .int .i64 v.2.1, .string v.2.2] 25) = V := ⟨_, rfl⟩
  have B0 : Hid (Below w.heap.size w V) := by unfold Hid; rw [← hV]; exact ((Below.refl _ _).alloc (Nat.le_refl _) _).alloc (by simp) _
  have X0 : Hid (Box V w.heap.size 28 #[.slice a n c]) := by unfold Hid; rw [← hV]; exact (Box.new _ _ _).alloc _
  have R0 : Hid (Box V (w.heap.size + 1) 25 #[.int .i64 i, .int .i64 u.1, .int .i64 u.2.1, .string u.2.2, .int .i64 v.1, .int .i64 v.2.1, .string v.2.2]) := by unfold Hid; rw [← hV]; exact Box.new2 _ _ _ _
  have C1 := c_szX a n c L 1048576 V (hr.below B0.out) hm hs (by omega) (by omega)
  have HR : Hid (RdE w a n L) := hr
  have HS : Hid (∀ x ∈ L, x.t.size ≤ maxLen) := hs
  clear hr hs
  have x0 : V.cell? ⟨w.heap.size, 0, none⟩ = some (.slice a n c) := X0.out.cell 0
  obtain ⟨r0, r1, r2, r3, r4, r5, r6⟩ := box7 R0.out
  go_enter Try.func6, Try.ntmps6
  go_wp2_with fail
  refine C1.mono ?_
  rintro e w1 ⟨⟨z, rfl, hz, hzn⟩, hb⟩
  have B1 : Hid (Below w.heap.size w w1) := B0.out.trans (hb.mono B0.out.size)
  have X1 : Hid (Box w1 w.heap.size 28 #[.slice a n c]) := X0.out.belowS hb
  have R1 : Hid (Box w1 (w.heap.size + 1) 25 #[.int .i64 i, .int .i64 u.1, .int .i64 u.2.1, .string u.2.2, .int .i64 v.1, .int .i64 v.2.1, .string v.2.2]) := R0.out.belowS hb
  clear hb B0 X0 R0 C1 hV x0 r0 r1 r2 r3 r4 r5 r6
  by_cases hneg : z < 0
  · clear hzn
    go_wp2
    go_ret
    exact ⟨rfl, B1.out⟩
  have hn : n ≤ 1048576 := hzn (by omega)
  have CT : Hid (∀ W, Below w.heap.size w W → Calls Try.prog 27 #[.agg #[.slice a n c]] W fun e w' => (∃ (a' : Option Addr) (c' : Nat), e = .returned (.agg #[.slice a' n c']) ∧ RdE w' a' n L) ∧ Below W.heap.size W w') := fun W hW => c_toX a n c L W (HR.out.below hW) hn
  obtain ⟨q, hq⟩ : ∃ q, q = evA L n i u v := ⟨_, rfl⟩
  have CS : Hid (∀ W a' c', RdE W a' n L → Calls Try.prog 26 #[.agg #[.slice a' n c'], .agg #[.int .i64 i, .int .i64 u.1, .int .i64 u.2.1, .string u.2.2, .int .i64 v.1, .int .i64 v.2.1, .string v.2.2]] W fun e w' => e = .returned (.tuple #[.agg #[.int .i64 q.k, .int .i64 q.n, .string q.t], .int .i64 q.c]) ∧ Below W.heap.size W w') := fun W a' c' h => by rw [hq]; exact c_specEV L a' n c' i u v W h hn HS.out h1 h2
  have CI : Hid (∀ W a' c', RdE W a' n L → Calls Try.prog 29 #[.agg #[.slice a' n c'], .agg #[.int .i64 i, .int .i64 u.1, .int .i64 u.2.1, .string u.2.2, .int .i64 v.1, .int .i64 v.2.1, .string v.2.2]] W fun e w' => e = .returned (.tuple #[.agg #[.int .i64 q.k, .int .i64 q.n, .string q.t], .int .i64 q.c]) ∧ Below W.heap.size W w') := fun W a' c' h => by rw [hq]; exact c_implEV L a' n c' i u v W h hn HS.out h1 h2
  have CE : Hid (∀ W a1 c1 a2 c2, RdE W a1 n L → RdE W a2 n L → Calls Try.prog 31 #[.agg #[.slice a1 n c1], .agg #[.slice a2 n c2]] W fun e w' => e = .returned (.bool true) ∧ Below W.heap.size W w') := fun W a1 c1 a2 c2 g1 g2 => c_eqX a1 a2 n c1 c2 L W g1 g2 hn
  clear hzn HS HR hq
  obtain ⟨r0, r1, r2, r3, r4, r5, r6⟩ := box7 R1.out
  go_wp2_with fail
  refine (c_szRL i u v z _ h1 h2 (by omega) hz).mono ?_
  rintro e w2 ⟨⟨z2, rfl⟩, hb⟩
  have B2 : Hid (Below w.heap.size w w2) := B1.out.trans (hb.mono B1.out.size)
  have X2 : Hid (Box w2 w.heap.size 28 #[.slice a n c]) := X1.out.belowS hb
  have R2 : Hid (Box w2 (w.heap.size + 1) 25 #[.int .i64 i, .int .i64 u.1, .int .i64 u.2.1, .string u.2.2, .int .i64 v.1, .int .i64 v.2.1, .string v.2.2]) := R1.out.belowS hb
  clear hb B1 X1 R1 r0 r1 r2 r3 r4 r5 r6
  by_cases hneg2 : z2 < 0
  · go_wp2
    go_ret
    exact ⟨rfl, B2.out⟩
  have l2 : w.heap.size + 1 < w2.heap.size := R2.out.lt
  have x0 : w2.cell? ⟨w.heap.size, 0, none⟩ = some (.slice a n c) := X2.out.cell 0
  obtain ⟨r0, r1, r2, r3, r4, r5, r6⟩ := box7 R2.out
  go_wp2_with fail
  go_cut [6, 7] (fun sp sc wx => CutE w2 q sp sc wx)
  case first =>
    have Kd0 : Hid ((w2.drew).cell? ⟨w.heap.size, 0, none⟩ = some (.slice a n c) ∧ (w2.drew).cell? ⟨(w.heap.size + 1), 0, none⟩ = some (.int .i64 i) ∧ (w2.drew).cell? ⟨(w.heap.size + 1), 1, none⟩ = some (.int .i64 u.1) ∧ (w2.drew).cell? ⟨(w.heap.size + 1), 2, none⟩ = some (.int .i64 u.2.1) ∧ (w2.drew).cell? ⟨(w.heap.size + 1), 3, none⟩ = some (.string u.2.2) ∧ (w2.drew).cell? ⟨(w.heap.size + 1), 4, none⟩ = some (.int .i64 v.1) ∧ (w2.drew).cell? ⟨(w.heap.size + 1), 5, none⟩ = some (.int .i64 v.2.1) ∧ (w2.drew).cell? ⟨(w.heap.size + 1), 6, none⟩ = some (.string v.2.2)) := ⟨x0, r0, r1, r2, r3, r4, r5, r6⟩
    have Ke0 : Hid ((w2.drew.alloc (.cells #[.int .i64 0, .int .i64 0, .string ⟨#[]⟩] 33)).cell? ⟨w.heap.size, 0, none⟩ = some (.slice a n c) ∧ (w2.drew.alloc (.cells #[.int .i64 0, .int .i64 0, .string ⟨#[]⟩] 33)).cell? ⟨(w.heap.size + 1), 0, none⟩ = some (.int .i64 i) ∧ (w2.drew.alloc (.cells #[.int .i64 0, .int .i64 0, .string ⟨#[]⟩] 33)).cell? ⟨(w.heap.size + 1), 1, none⟩ = some (.int .i64 u.1) ∧ (w2.drew.alloc (.cells #[.int .i64 0, .int .i64 0, .string ⟨#[]⟩] 33)).cell? ⟨(w.heap.size + 1), 2, none⟩ = some (.int .i64 u.2.1) ∧ (w2.drew.alloc (.cells #[.int .i64 0, .int .i64 0, .string ⟨#[]⟩] 33)).cell? ⟨(w.heap.size + 1), 3, none⟩ = some (.string u.2.2) ∧ (w2.drew.alloc (.cells #[.int .i64 0, .int .i64 0, .string ⟨#[]⟩] 33)).cell? ⟨(w.heap.size + 1), 4, none⟩ = some (.int .i64 v.1) ∧ (w2.drew.alloc (.cells #[.int .i64 0, .int .i64 0, .string ⟨#[]⟩] 33)).cell? ⟨(w.heap.size + 1), 5, none⟩ = some (.int .i64 v.2.1) ∧ (w2.drew.alloc (.cells #[.int .i64 0, .int .i64 0, .string ⟨#[]⟩] 33)).cell? ⟨(w.heap.size + 1), 6, none⟩ = some (.string v.2.2)) := ⟨far6 (w := w2.drew) ((Below.refl _ _).alloc (Nat.le_refl _) _) x0, far6 (w := w2.drew) ((Below.refl _ _).alloc (Nat.le_refl _) _) r0, far6 (w := w2.drew) ((Below.refl _ _).alloc (Nat.le_refl _) _) r1, far6 (w := w2.drew) ((Below.refl _ _).alloc (Nat.le_refl _) _) r2, far6 (w := w2.drew) ((Below.refl _ _).alloc (Nat.le_refl _) _) r3, far6 (w := w2.drew) ((Below.refl _ _).alloc (Nat.le_refl _) _) r4, far6 (w := w2.drew) ((Below.refl _ _).alloc (Nat.le_refl _) _) r5, far6 (w := w2.drew) ((Below.refl _ _).alloc (Nat.le_refl _) _) r6⟩
    have Kf0 : Hid ((w2.alloc (.cells #[.int .i64 0, .int .i64 0, .string ⟨#[]⟩] 33)).drew.cell? ⟨w.heap.size, 0, none⟩ = some (.slice a n c) ∧ (w2.alloc (.cells #[.int .i64 0, .int .i64 0, .string ⟨#[]⟩] 33)).drew.cell? ⟨(w.heap.size + 1), 0, none⟩ = some (.int .i64 i) ∧ (w2.alloc (.cells #[.int .i64 0, .int .i64 0, .string ⟨#[]⟩] 33)).drew.cell? ⟨(w.heap.size + 1), 1, none⟩ = some (.int .i64 u.1) ∧ (w2.alloc (.cells #[.int .i64 0, .int .i64 0, .string ⟨#[]⟩] 33)).drew.cell? ⟨(w.heap.size + 1), 2, none⟩ = some (.int .i64 u.2.1) ∧ (w2.alloc (.cells #[.int .i64 0, .int .i64 0, .string ⟨#[]⟩] 33)).drew.cell? ⟨(w.heap.size + 1), 3, none⟩ = some (.string u.2.2) ∧ (w2.alloc (.cells #[.int .i64 0, .int .i64 0, .string ⟨#[]⟩] 33)).drew.cell? ⟨(w.heap.size + 1), 4, none⟩ = some (.int .i64 v.1) ∧ (w2.alloc (.cells #[.int .i64 0, .int .i64 0, .string ⟨#[]⟩] 33)).drew.cell? ⟨(w.heap.size + 1), 5, none⟩ = some (.int .i64 v.2.1) ∧ (w2.alloc (.cells #[.int .i64 0, .int .i64 0, .string ⟨#[]⟩] 33)).drew.cell? ⟨(w.heap.size + 1), 6, none⟩ = some (.string v.2.2)) := ⟨far6 (((Below.refl _ _).alloc (Nat.le_refl _) (.cells #[.int .i64 0, .int .i64 0, .string ⟨#[]⟩] 33)).drew) x0, far6 (((Below.refl _ _).alloc (Nat.le_refl _) (.cells #[.int .i64 0, .int .i64 0, .string ⟨#[]⟩] 33)).drew) r0, far6 (((Below.refl _ _).alloc (Nat.le_refl _) (.cells #[.int .i64 0, .int .i64 0, .string ⟨#[]⟩] 33)).drew) r1, far6 (((Below.refl _ _).alloc (Nat.le_refl _) (.cells #[.int .i64 0, .int .i64 0, .string ⟨#[]⟩] 33)).drew) r2, far6 (((Below.refl _ _).alloc (Nat.le_refl _) (.cells #[.int .i64 0, .int .i64 0, .string ⟨#[]⟩] 33)).drew) r3, far6 (((Below.refl _ _).alloc (Nat.le_refl _) (.cells #[.int .i64 0, .int .i64 0, .string ⟨#[]⟩] 33)).drew) r4, far6 (((Below.refl _ _).alloc (Nat.le_refl _) (.cells #[.int .i64 0, .int .i64 0, .string ⟨#[]⟩] 33)).drew) r5, far6 (((Below.refl _ _).alloc (Nat.le_refl _) (.cells #[.int .i64 0, .int .i64 0, .string ⟨#[]⟩] 33)).drew) r6⟩
    go_region_held3 (fun y => y.cell? ⟨w.heap.size, 0, none⟩ = some (.slice a n c) ∧ y.cell? ⟨(w.heap.size + 1), 0, none⟩ = some (.int .i64 i) ∧ y.cell? ⟨(w.heap.size + 1), 1, none⟩ = some (.int .i64 u.1) ∧ y.cell? ⟨(w.heap.size + 1), 2, none⟩ = some (.int .i64 u.2.1) ∧ y.cell? ⟨(w.heap.size + 1), 3, none⟩ = some (.string u.2.2) ∧ y.cell? ⟨(w.heap.size + 1), 4, none⟩ = some (.int .i64 v.1) ∧ y.cell? ⟨(w.heap.size + 1), 5, none⟩ = some (.int .i64 v.2.1) ∧ y.cell? ⟨(w.heap.size + 1), 6, none⟩ = some (.string v.2.2))
      (first | with_reducible exact KP.out | with_reducible exact Kb3.out | with_reducible exact Kc3.out | with_reducible exact Ka3.out | with_reducible exact Kc2.out | with_reducible exact Ka2.out | with_reducible exact Kc1.out | with_reducible exact Ka1.out | with_reducible exact Kd0.out | with_reducible exact Ke0.out | with_reducible exact Kf0.out | go_keep)
      (first | (go_at_call 27
                refine (CT.out _ (B2.out.trans (Below.mono (show Below w2.heap.size w2 _ from (by first | exact Below.refl _ _ | exact (Below.refl _ _).drew | exact (Below.refl _ _).alloc (Nat.le_refl _) _ | exact ((Below.refl _ _).alloc (Nat.le_refl _) _).drew | exact (Below.refl _ _).drew.alloc (Nat.le_refl _) _)) B2.out.size))).mono ?_
                rintro e y1 ⟨⟨at_, ct_, rfl, rt_⟩, hb1⟩
                have G1 : Below w2.heap.size w2 y1 := Below.trans (by first | exact Below.refl _ _ | exact (Below.refl _ _).drew | exact (Below.refl _ _).alloc (Nat.le_refl _) _ | exact ((Below.refl _ _).alloc (Nat.le_refl _) _).drew | exact (Below.refl _ _).drew.alloc (Nat.le_refl _) _) (hb1.mono (by first | exact Nat.le_refl _ | simp))
                have H1 : Below w2.heap.size w2 y1 := G1
                have e1 : w2.heap.size ≤ y1.heap.size := G1.size
                have RK1 := rt_
                have x0_1 := far6 G1 x0
                have r0_1 := far6 G1 r0
                have r1_1 := far6 G1 r1
                have r2_1 := far6 G1 r2
                have r3_1 := far6 G1 r3
                have r4_1 := far6 G1 r4
                have r5_1 := far6 G1 r5
                have r6_1 := far6 G1 r6
                have Kc1 : Hid (y1.cell? ⟨w.heap.size, 0, none⟩ = some (.slice a n c) ∧ y1.cell? ⟨(w.heap.size + 1), 0, none⟩ = some (.int .i64 i) ∧ y1.cell? ⟨(w.heap.size + 1), 1, none⟩ = some (.int .i64 u.1) ∧ y1.cell? ⟨(w.heap.size + 1), 2, none⟩ = some (.int .i64 u.2.1) ∧ y1.cell? ⟨(w.heap.size + 1), 3, none⟩ = some (.string u.2.2) ∧ y1.cell? ⟨(w.heap.size + 1), 4, none⟩ = some (.int .i64 v.1) ∧ y1.cell? ⟨(w.heap.size + 1), 5, none⟩ = some (.int .i64 v.2.1) ∧ y1.cell? ⟨(w.heap.size + 1), 6, none⟩ = some (.string v.2.2)) := ⟨x0_1, r0_1, r1_1, r2_1, r3_1, r4_1, r5_1, r6_1⟩
                have Ka1 : Hid ((y1.alloc (.cells #[.int .i64 0, .int .i64 0, .string ⟨#[]⟩] 33)).cell? ⟨w.heap.size, 0, none⟩ = some (.slice a n c) ∧ (y1.alloc (.cells #[.int .i64 0, .int .i64 0, .string ⟨#[]⟩] 33)).cell? ⟨(w.heap.size + 1), 0, none⟩ = some (.int .i64 i) ∧ (y1.alloc (.cells #[.int .i64 0, .int .i64 0, .string ⟨#[]⟩] 33)).cell? ⟨(w.heap.size + 1), 1, none⟩ = some (.int .i64 u.1) ∧ (y1.alloc (.cells #[.int .i64 0, .int .i64 0, .string ⟨#[]⟩] 33)).cell? ⟨(w.heap.size + 1), 2, none⟩ = some (.int .i64 u.2.1) ∧ (y1.alloc (.cells #[.int .i64 0, .int .i64 0, .string ⟨#[]⟩] 33)).cell? ⟨(w.heap.size + 1), 3, none⟩ = some (.string u.2.2) ∧ (y1.alloc (.cells #[.int .i64 0, .int .i64 0, .string ⟨#[]⟩] 33)).cell? ⟨(w.heap.size + 1), 4, none⟩ = some (.int .i64 v.1) ∧ (y1.alloc (.cells #[.int .i64 0, .int .i64 0, .string ⟨#[]⟩] 33)).cell? ⟨(w.heap.size + 1), 5, none⟩ = some (.int .i64 v.2.1) ∧ (y1.alloc (.cells #[.int .i64 0, .int .i64 0, .string ⟨#[]⟩] 33)).cell? ⟨(w.heap.size + 1), 6, none⟩ = some (.string v.2.2)) := ⟨far6 ((Below.refl _ _).alloc (Nat.le_refl _) _) x0_1, far6 ((Below.refl _ _).alloc (Nat.le_refl _) _) r0_1, far6 ((Below.refl _ _).alloc (Nat.le_refl _) _) r1_1, far6 ((Below.refl _ _).alloc (Nat.le_refl _) _) r2_1, far6 ((Below.refl _ _).alloc (Nat.le_refl _) _) r3_1, far6 ((Below.refl _ _).alloc (Nat.le_refl _) _) r4_1, far6 ((Below.refl _ _).alloc (Nat.le_refl _) _) r5_1, far6 ((Below.refl _ _).alloc (Nat.le_refl _) _) r6_1⟩
                first
                  | (have ZB1_0 := zb3 hb1)
                  | (have ZB1_0 := zb3d hb1)
                  | (have ZB1_0 := zb3e hb1)
                  | skip)
             | (go_at_call 28
                refine (c_toRow i u v _).mono ?_
                rintro e y2 ⟨rfl, hb2⟩
                have G2 : Below y1.heap.size y1 y2 := Below.trans (by first | exact Below.refl _ _ | exact (Below.refl _ _).drew | exact (Below.refl _ _).alloc (Nat.le_refl _) _ | exact ((Below.refl _ _).alloc (Nat.le_refl _) _).drew | exact (Below.refl _ _).drew.alloc (Nat.le_refl _) _) (hb2.mono (by first | exact Nat.le_refl _ | simp))
                have H2 : Below w2.heap.size w2 y2 := H1.trans (G2.mono H1.size)
                have e2 : y1.heap.size ≤ y2.heap.size := G2.size
                have RK2 := RK1.below G2
                have x0_2 := far6 G2 x0_1
                have r0_2 := far6 G2 r0_1
                have r1_2 := far6 G2 r1_1
                have r2_2 := far6 G2 r2_1
                have r3_2 := far6 G2 r3_1
                have r4_2 := far6 G2 r4_1
                have r5_2 := far6 G2 r5_1
                have r6_2 := far6 G2 r6_1
                have Kc2 : Hid (y2.cell? ⟨w.heap.size, 0, none⟩ = some (.slice a n c) ∧ y2.cell? ⟨(w.heap.size + 1), 0, none⟩ = some (.int .i64 i) ∧ y2.cell? ⟨(w.heap.size + 1), 1, none⟩ = some (.int .i64 u.1) ∧ y2.cell? ⟨(w.heap.size + 1), 2, none⟩ = some (.int .i64 u.2.1) ∧ y2.cell? ⟨(w.heap.size + 1), 3, none⟩ = some (.string u.2.2) ∧ y2.cell? ⟨(w.heap.size + 1), 4, none⟩ = some (.int .i64 v.1) ∧ y2.cell? ⟨(w.heap.size + 1), 5, none⟩ = some (.int .i64 v.2.1) ∧ y2.cell? ⟨(w.heap.size + 1), 6, none⟩ = some (.string v.2.2)) := ⟨x0_2, r0_2, r1_2, r2_2, r3_2, r4_2, r5_2, r6_2⟩
                have Ka2 : Hid ((y2.alloc (.cells #[.int .i64 0, .int .i64 0, .string ⟨#[]⟩] 33)).cell? ⟨w.heap.size, 0, none⟩ = some (.slice a n c) ∧ (y2.alloc (.cells #[.int .i64 0, .int .i64 0, .string ⟨#[]⟩] 33)).cell? ⟨(w.heap.size + 1), 0, none⟩ = some (.int .i64 i) ∧ (y2.alloc (.cells #[.int .i64 0, .int .i64 0, .string ⟨#[]⟩] 33)).cell? ⟨(w.heap.size + 1), 1, none⟩ = some (.int .i64 u.1) ∧ (y2.alloc (.cells #[.int .i64 0, .int .i64 0, .string ⟨#[]⟩] 33)).cell? ⟨(w.heap.size + 1), 2, none⟩ = some (.int .i64 u.2.1) ∧ (y2.alloc (.cells #[.int .i64 0, .int .i64 0, .string ⟨#[]⟩] 33)).cell? ⟨(w.heap.size + 1), 3, none⟩ = some (.string u.2.2) ∧ (y2.alloc (.cells #[.int .i64 0, .int .i64 0, .string ⟨#[]⟩] 33)).cell? ⟨(w.heap.size + 1), 4, none⟩ = some (.int .i64 v.1) ∧ (y2.alloc (.cells #[.int .i64 0, .int .i64 0, .string ⟨#[]⟩] 33)).cell? ⟨(w.heap.size + 1), 5, none⟩ = some (.int .i64 v.2.1) ∧ (y2.alloc (.cells #[.int .i64 0, .int .i64 0, .string ⟨#[]⟩] 33)).cell? ⟨(w.heap.size + 1), 6, none⟩ = some (.string v.2.2)) := ⟨far6 ((Below.refl _ _).alloc (Nat.le_refl _) _) x0_2, far6 ((Below.refl _ _).alloc (Nat.le_refl _) _) r0_2, far6 ((Below.refl _ _).alloc (Nat.le_refl _) _) r1_2, far6 ((Below.refl _ _).alloc (Nat.le_refl _) _) r2_2, far6 ((Below.refl _ _).alloc (Nat.le_refl _) _) r3_2, far6 ((Below.refl _ _).alloc (Nat.le_refl _) _) r4_2, far6 ((Below.refl _ _).alloc (Nat.le_refl _) _) r5_2, far6 ((Below.refl _ _).alloc (Nat.le_refl _) _) r6_2⟩
                first
                  | (have ZB2_0 := ZB1_0.belowS G2)
                  | (have ZB2_1 := zb3 hb2)
                  | (have ZB2_1 := zb3d hb2)
                  | (have ZB2_1 := zb3e hb2)
                  | skip)
             | (go_at_call 26
                refine (CS.out _ at_ ct_ (RK2.below (show Below y2.heap.size y2 _ from (by first | exact Below.refl _ _ | exact (Below.refl _ _).drew | exact (Below.refl _ _).alloc (Nat.le_refl _) _ | exact ((Below.refl _ _).alloc (Nat.le_refl _) _).drew | exact (Below.refl _ _).drew.alloc (Nat.le_refl _) _)))).mono ?_
                rintro e y3 ⟨rfl, hb3⟩
                have G3 : Below y2.heap.size y2 y3 := Below.trans (by first | exact Below.refl _ _ | exact (Below.refl _ _).drew | exact (Below.refl _ _).alloc (Nat.le_refl _) _ | exact ((Below.refl _ _).alloc (Nat.le_refl _) _).drew | exact (Below.refl _ _).drew.alloc (Nat.le_refl _) _) (hb3.mono (by first | exact Nat.le_refl _ | simp))
                have H3 : Below w2.heap.size w2 y3 := H2.trans (G3.mono H2.size)
                have e3 : y2.heap.size ≤ y3.heap.size := G3.size
                have x0_3 := far6 G3 x0_2
                have r0_3 := far6 G3 r0_2
                have r1_3 := far6 G3 r1_2
                have r2_3 := far6 G3 r2_2
                have r3_3 := far6 G3 r3_2
                have r4_3 := far6 G3 r4_2
                have r5_3 := far6 G3 r5_2
                have r6_3 := far6 G3 r6_2
                have Kc3 : Hid (y3.cell? ⟨w.heap.size, 0, none⟩ = some (.slice a n c) ∧ y3.cell? ⟨(w.heap.size + 1), 0, none⟩ = some (.int .i64 i) ∧ y3.cell? ⟨(w.heap.size + 1), 1, none⟩ = some (.int .i64 u.1) ∧ y3.cell? ⟨(w.heap.size + 1), 2, none⟩ = some (.int .i64 u.2.1) ∧ y3.cell? ⟨(w.heap.size + 1), 3, none⟩ = some (.string u.2.2) ∧ y3.cell? ⟨(w.heap.size + 1), 4, none⟩ = some (.int .i64 v.1) ∧ y3.cell? ⟨(w.heap.size + 1), 5, none⟩ = some (.int .i64 v.2.1) ∧ y3.cell? ⟨(w.heap.size + 1), 6, none⟩ = some (.string v.2.2)) := ⟨x0_3, r0_3, r1_3, r2_3, r3_3, r4_3, r5_3, r6_3⟩
                have Ka3 : Hid ((y3.alloc (.cells #[.int .i64 0, .int .i64 0, .string ⟨#[]⟩] 33)).cell? ⟨w.heap.size, 0, none⟩ = some (.slice a n c) ∧ (y3.alloc (.cells #[.int .i64 0, .int .i64 0, .string ⟨#[]⟩] 33)).cell? ⟨(w.heap.size + 1), 0, none⟩ = some (.int .i64 i) ∧ (y3.alloc (.cells #[.int .i64 0, .int .i64 0, .string ⟨#[]⟩] 33)).cell? ⟨(w.heap.size + 1), 1, none⟩ = some (.int .i64 u.1) ∧ (y3.alloc (.cells #[.int .i64 0, .int .i64 0, .string ⟨#[]⟩] 33)).cell? ⟨(w.heap.size + 1), 2, none⟩ = some (.int .i64 u.2.1) ∧ (y3.alloc (.cells #[.int .i64 0, .int .i64 0, .string ⟨#[]⟩] 33)).cell? ⟨(w.heap.size + 1), 3, none⟩ = some (.string u.2.2) ∧ (y3.alloc (.cells #[.int .i64 0, .int .i64 0, .string ⟨#[]⟩] 33)).cell? ⟨(w.heap.size + 1), 4, none⟩ = some (.int .i64 v.1) ∧ (y3.alloc (.cells #[.int .i64 0, .int .i64 0, .string ⟨#[]⟩] 33)).cell? ⟨(w.heap.size + 1), 5, none⟩ = some (.int .i64 v.2.1) ∧ (y3.alloc (.cells #[.int .i64 0, .int .i64 0, .string ⟨#[]⟩] 33)).cell? ⟨(w.heap.size + 1), 6, none⟩ = some (.string v.2.2)) := ⟨far6 ((Below.refl _ _).alloc (Nat.le_refl _) _) x0_3, far6 ((Below.refl _ _).alloc (Nat.le_refl _) _) r0_3, far6 ((Below.refl _ _).alloc (Nat.le_refl _) _) r1_3, far6 ((Below.refl _ _).alloc (Nat.le_refl _) _) r2_3, far6 ((Below.refl _ _).alloc (Nat.le_refl _) _) r3_3, far6 ((Below.refl _ _).alloc (Nat.le_refl _) _) r4_3, far6 ((Below.refl _ _).alloc (Nat.le_refl _) _) r5_3, far6 ((Below.refl _ _).alloc (Nat.le_refl _) _) r6_3⟩
                have Kb3 : Hid ((y3.alloc (.cells #[.int .i64 q.k, .int .i64 q.n, .string q.t] 33)).cell? ⟨w.heap.size, 0, none⟩ = some (.slice a n c) ∧ (y3.alloc (.cells #[.int .i64 q.k, .int .i64 q.n, .string q.t] 33)).cell? ⟨(w.heap.size + 1), 0, none⟩ = some (.int .i64 i) ∧ (y3.alloc (.cells #[.int .i64 q.k, .int .i64 q.n, .string q.t] 33)).cell? ⟨(w.heap.size + 1), 1, none⟩ = some (.int .i64 u.1) ∧ (y3.alloc (.cells #[.int .i64 q.k, .int .i64 q.n, .string q.t] 33)).cell? ⟨(w.heap.size + 1), 2, none⟩ = some (.int .i64 u.2.1) ∧ (y3.alloc (.cells #[.int .i64 q.k, .int .i64 q.n, .string q.t] 33)).cell? ⟨(w.heap.size + 1), 3, none⟩ = some (.string u.2.2) ∧ (y3.alloc (.cells #[.int .i64 q.k, .int .i64 q.n, .string q.t] 33)).cell? ⟨(w.heap.size + 1), 4, none⟩ = some (.int .i64 v.1) ∧ (y3.alloc (.cells #[.int .i64 q.k, .int .i64 q.n, .string q.t] 33)).cell? ⟨(w.heap.size + 1), 5, none⟩ = some (.int .i64 v.2.1) ∧ (y3.alloc (.cells #[.int .i64 q.k, .int .i64 q.n, .string q.t] 33)).cell? ⟨(w.heap.size + 1), 6, none⟩ = some (.string v.2.2)) := ⟨far6 ((Below.refl _ _).alloc (Nat.le_refl _) _) x0_3, far6 ((Below.refl _ _).alloc (Nat.le_refl _) _) r0_3, far6 ((Below.refl _ _).alloc (Nat.le_refl _) _) r1_3, far6 ((Below.refl _ _).alloc (Nat.le_refl _) _) r2_3, far6 ((Below.refl _ _).alloc (Nat.le_refl _) _) r3_3, far6 ((Below.refl _ _).alloc (Nat.le_refl _) _) r4_3, far6 ((Below.refl _ _).alloc (Nat.le_refl _) _) r5_3, far6 ((Below.refl _ _).alloc (Nat.le_refl _) _) r6_3⟩
                first
                  | (have ZB3_0 := ZB2_0.belowS G3)
                  | (have ZB3_1 := ZB2_1.belowS G3)
                  | (have ZB3_2 := zb3 hb3)
                  | (have ZB3_2 := zb3d hb3)
                  | (have ZB3_2 := zb3e hb3)
                  | skip
                first
                  | (have KP : Hid (((((y3).setCell ⟨w2.heap.size, 0, none⟩ (.int .i64 q.k)).setCell ⟨w2.heap.size, 1, none⟩ (.int .i64 q.n)).setCell ⟨w2.heap.size, 2, none⟩ (.string q.t)).cell? ⟨w.heap.size, 0, none⟩ = some (.slice a n c) ∧ ((((y3).setCell ⟨w2.heap.size, 0, none⟩ (.int .i64 q.k)).setCell ⟨w2.heap.size, 1, none⟩ (.int .i64 q.n)).setCell ⟨w2.heap.size, 2, none⟩ (.string q.t)).cell? ⟨(w.heap.size + 1), 0, none⟩ = some (.int .i64 i) ∧ ((((y3).setCell ⟨w2.heap.size, 0, none⟩ (.int .i64 q.k)).setCell ⟨w2.heap.size, 1, none⟩ (.int .i64 q.n)).setCell ⟨w2.heap.size, 2, none⟩ (.string q.t)).cell? ⟨(w.heap.size + 1), 1, none⟩ = some (.int .i64 u.1) ∧ ((((y3).setCell ⟨w2.heap.size, 0, none⟩ (.int .i64 q.k)).setCell ⟨w2.heap.size, 1, none⟩ (.int .i64 q.n)).setCell ⟨w2.heap.size, 2, none⟩ (.string q.t)).cell? ⟨(w.heap.size + 1), 2, none⟩ = some (.int .i64 u.2.1) ∧ ((((y3).setCell ⟨w2.heap.size, 0, none⟩ (.int .i64 q.k)).setCell ⟨w2.heap.size, 1, none⟩ (.int .i64 q.n)).setCell ⟨w2.heap.size, 2, none⟩ (.string q.t)).cell? ⟨(w.heap.size + 1), 3, none⟩ = some (.string u.2.2) ∧ ((((y3).setCell ⟨w2.heap.size, 0, none⟩ (.int .i64 q.k)).setCell ⟨w2.heap.size, 1, none⟩ (.int .i64 q.n)).setCell ⟨w2.heap.size, 2, none⟩ (.string q.t)).cell? ⟨(w.heap.size + 1), 4, none⟩ = some (.int .i64 v.1) ∧ ((((y3).setCell ⟨w2.heap.size, 0, none⟩ (.int .i64 q.k)).setCell ⟨w2.heap.size, 1, none⟩ (.int .i64 q.n)).setCell ⟨w2.heap.size, 2, none⟩ (.string q.t)).cell? ⟨(w.heap.size + 1), 5, none⟩ = some (.int .i64 v.2.1) ∧ ((((y3).setCell ⟨w2.heap.size, 0, none⟩ (.int .i64 q.k)).setCell ⟨w2.heap.size, 1, none⟩ (.int .i64 q.n)).setCell ⟨w2.heap.size, 2, none⟩ (.string q.t)).cell? ⟨(w.heap.size + 1), 6, none⟩ = some (.string v.2.2)) := ⟨(put3_cell _ _ _ _ _ _ _ (by omega)).trans x0_3, (put3_cell _ _ _ _ _ _ _ (by omega)).trans r0_3, (put3_cell _ _ _ _ _ _ _ (by omega)).trans r1_3, (put3_cell _ _ _ _ _ _ _ (by omega)).trans r2_3, (put3_cell _ _ _ _ _ _ _ (by omega)).trans r3_3, (put3_cell _ _ _ _ _ _ _ (by omega)).trans r4_3, (put3_cell _ _ _ _ _ _ _ (by omega)).trans r5_3, (put3_cell _ _ _ _ _ _ _ (by omega)).trans r6_3⟩
                     have lB := ZB3_0.lt
                     obtain ⟨zc0, zc1, zc2⟩ := box3 ZB3_0
                     have zt0 := ZB3_0.thaw 0
                     have zt1 := ZB3_0.thaw 1
                     have zt2 := ZB3_0.thaw 2
                     skip)
                  | (have KP : Hid (((((y3).setCell ⟨y1.heap.size, 0, none⟩ (.int .i64 q.k)).setCell ⟨y1.heap.size, 1, none⟩ (.int .i64 q.n)).setCell ⟨y1.heap.size, 2, none⟩ (.string q.t)).cell? ⟨w.heap.size, 0, none⟩ = some (.slice a n c) ∧ ((((y3).setCell ⟨y1.heap.size, 0, none⟩ (.int .i64 q.k)).setCell ⟨y1.heap.size, 1, none⟩ (.int .i64 q.n)).setCell ⟨y1.heap.size, 2, none⟩ (.string q.t)).cell? ⟨(w.heap.size + 1), 0, none⟩ = some (.int .i64 i) ∧ ((((y3).setCell ⟨y1.heap.size, 0, none⟩ (.int .i64 q.k)).setCell ⟨y1.heap.size, 1, none⟩ (.int .i64 q.n)).setCell ⟨y1.heap.size, 2, none⟩ (.string q.t)).cell? ⟨(w.heap.size + 1), 1, none⟩ = some (.int .i64 u.1) ∧ ((((y3).setCell ⟨y1.heap.size, 0, none⟩ (.int .i64 q.k)).setCell ⟨y1.heap.size, 1, none⟩ (.int .i64 q.n)).setCell ⟨y1.heap.size, 2, none⟩ (.string q.t)).cell? ⟨(w.heap.size + 1), 2, none⟩ = some (.int .i64 u.2.1) ∧ ((((y3).setCell ⟨y1.heap.size, 0, none⟩ (.int .i64 q.k)).setCell ⟨y1.heap.size, 1, none⟩ (.int .i64 q.n)).setCell ⟨y1.heap.size, 2, none⟩ (.string q.t)).cell? ⟨(w.heap.size + 1), 3, none⟩ = some (.string u.2.2) ∧ ((((y3).setCell ⟨y1.heap.size, 0, none⟩ (.int .i64 q.k)).setCell ⟨y1.heap.size, 1, none⟩ (.int .i64 q.n)).setCell ⟨y1.heap.size, 2, none⟩ (.string q.t)).cell? ⟨(w.heap.size + 1), 4, none⟩ = some (.int .i64 v.1) ∧ ((((y3).setCell ⟨y1.heap.size, 0, none⟩ (.int .i64 q.k)).setCell ⟨y1.heap.size, 1, none⟩ (.int .i64 q.n)).setCell ⟨y1.heap.size, 2, none⟩ (.string q.t)).cell? ⟨(w.heap.size + 1), 5, none⟩ = some (.int .i64 v.2.1) ∧ ((((y3).setCell ⟨y1.heap.size, 0, none⟩ (.int .i64 q.k)).setCell ⟨y1.heap.size, 1, none⟩ (.int .i64 q.n)).setCell ⟨y1.heap.size, 2, none⟩ (.string q.t)).cell? ⟨(w.heap.size + 1), 6, none⟩ = some (.string v.2.2)) := ⟨(put3_cell _ _ _ _ _ _ _ (by omega)).trans x0_3, (put3_cell _ _ _ _ _ _ _ (by omega)).trans r0_3, (put3_cell _ _ _ _ _ _ _ (by omega)).trans r1_3, (put3_cell _ _ _ _ _ _ _ (by omega)).trans r2_3, (put3_cell _ _ _ _ _ _ _ (by omega)).trans r3_3, (put3_cell _ _ _ _ _ _ _ (by omega)).trans r4_3, (put3_cell _ _ _ _ _ _ _ (by omega)).trans r5_3, (put3_cell _ _ _ _ _ _ _ (by omega)).trans r6_3⟩
                     have lB := ZB3_1.lt
                     obtain ⟨zc0, zc1, zc2⟩ := box3 ZB3_1
                     have zt0 := ZB3_1.thaw 0
                     have zt1 := ZB3_1.thaw 1
                     have zt2 := ZB3_1.thaw 2
                     skip)
                  | (have KP : Hid (((((y3).setCell ⟨y2.heap.size, 0, none⟩ (.int .i64 q.k)).setCell ⟨y2.heap.size, 1, none⟩ (.int .i64 q.n)).setCell ⟨y2.heap.size, 2, none⟩ (.string q.t)).cell? ⟨w.heap.size, 0, none⟩ = some (.slice a n c) ∧ ((((y3).setCell ⟨y2.heap.size, 0, none⟩ (.int .i64 q.k)).setCell ⟨y2.heap.size, 1, none⟩ (.int .i64 q.n)).setCell ⟨y2.heap.size, 2, none⟩ (.string q.t)).cell? ⟨(w.heap.size + 1), 0, none⟩ = some (.int .i64 i) ∧ ((((y3).setCell ⟨y2.heap.size, 0, none⟩ (.int .i64 q.k)).setCell ⟨y2.heap.size, 1, none⟩ (.int .i64 q.n)).setCell ⟨y2.heap.size, 2, none⟩ (.string q.t)).cell? ⟨(w.heap.size + 1), 1, none⟩ = some (.int .i64 u.1) ∧ ((((y3).setCell ⟨y2.heap.size, 0, none⟩ (.int .i64 q.k)).setCell ⟨y2.heap.size, 1, none⟩ (.int .i64 q.n)).setCell ⟨y2.heap.size, 2, none⟩ (.string q.t)).cell? ⟨(w.heap.size + 1), 2, none⟩ = some (.int .i64 u.2.1) ∧ ((((y3).setCell ⟨y2.heap.size, 0, none⟩ (.int .i64 q.k)).setCell ⟨y2.heap.size, 1, none⟩ (.int .i64 q.n)).setCell ⟨y2.heap.size, 2, none⟩ (.string q.t)).cell? ⟨(w.heap.size + 1), 3, none⟩ = some (.string u.2.2) ∧ ((((y3).setCell ⟨y2.heap.size, 0, none⟩ (.int .i64 q.k)).setCell ⟨y2.heap.size, 1, none⟩ (.int .i64 q.n)).setCell ⟨y2.heap.size, 2, none⟩ (.string q.t)).cell? ⟨(w.heap.size + 1), 4, none⟩ = some (.int .i64 v.1) ∧ ((((y3).setCell ⟨y2.heap.size, 0, none⟩ (.int .i64 q.k)).setCell ⟨y2.heap.size, 1, none⟩ (.int .i64 q.n)).setCell ⟨y2.heap.size, 2, none⟩ (.string q.t)).cell? ⟨(w.heap.size + 1), 5, none⟩ = some (.int .i64 v.2.1) ∧ ((((y3).setCell ⟨y2.heap.size, 0, none⟩ (.int .i64 q.k)).setCell ⟨y2.heap.size, 1, none⟩ (.int .i64 q.n)).setCell ⟨y2.heap.size, 2, none⟩ (.string q.t)).cell? ⟨(w.heap.size + 1), 6, none⟩ = some (.string v.2.2)) := ⟨(put3_cell _ _ _ _ _ _ _ (by omega)).trans x0_3, (put3_cell _ _ _ _ _ _ _ (by omega)).trans r0_3, (put3_cell _ _ _ _ _ _ _ (by omega)).trans r1_3, (put3_cell _ _ _ _ _ _ _ (by omega)).trans r2_3, (put3_cell _ _ _ _ _ _ _ (by omega)).trans r3_3, (put3_cell _ _ _ _ _ _ _ (by omega)).trans r4_3, (put3_cell _ _ _ _ _ _ _ (by omega)).trans r5_3, (put3_cell _ _ _ _ _ _ _ (by omega)).trans r6_3⟩
                     have lB := ZB3_2.lt
                     obtain ⟨zc0, zc1, zc2⟩ := box3 ZB3_2
                     have zt0 := ZB3_2.thaw 0
                     have zt1 := ZB3_2.thaw 1
                     have zt2 := ZB3_2.thaw 2
                     skip)
                  | skip))
    all_goals (clear Kc1 Ka1 Kc2 Ka2 Kc3 Ka3 Kb3 Kd0 Ke0 Kf0 x0_1 r0_1 r1_1 r2_1 r3_1 r4_1 r5_1 r6_1 x0_2 r0_2 r1_2 r2_2 r3_2 r4_2 r5_2 r6_2 x0_3 r0_3 r1_3 r2_3 r3_3 r4_3 r5_3 r6_3)
    all_goals (clear x0 r0 r1 r2 r3 r4 r5 r6)
    all_goals (go_wp2_with fail; go_meet)
    all_goals first
      | with_reducible exact cutE_new H3
      | with_reducible exact cutE_put H3 ZB3_0 (by omega)
      | with_reducible exact cutE_put H3 ZB3_1 (by omega)
      | with_reducible exact cutE_put H3 ZB3_2 (by omega)
  case rest =>
    rename World => w3
    obtain ⟨gb, rfl, rfl, hb, hgb, wbx⟩ := hcut
    have B3 : Hid (Below w.heap.size w w3) := B2.out.trans (hb.mono B2.out.size)
    have X3 : Hid (Box w3 w.heap.size 28 #[.slice a n c]) := X2.out.belowS hb
    have R3 : Hid (Box w3 (w.heap.size + 1) 25 #[.int .i64 i, .int .i64 u.1, .int .i64 u.2.1, .string u.2.2, .int .i64 v.1, .int .i64 v.2.1, .string v.2.2]) := R2.out.belowS hb
    have W3 : Hid (Box w3 gb 33 #[.int .i64 q.k, .int .i64 q.n, .string q.t]) := wbx
    clear hb hgb wbx B2 X2 R2 x0 r0 r1 r2 r3 r4 r5 r6 CS l2
    have x0 : w3.cell? ⟨w.heap.size, 0, none⟩ = some (.slice a n c) := X3.out.cell 0
    go_wp2_with fail
    refine (CT.out w3 B3.out).mono ?_
    rintro e w4 ⟨⟨ax, cx, rfl, rx⟩, hb⟩
    have B4 : Hid (Below w.heap.size w w4) := B3.out.trans (hb.mono B3.out.size)
    have X4 : Hid (Box w4 w.heap.size 28 #[.slice a n c]) := X3.out.belowS hb
    have R4 : Hid (Box w4 (w.heap.size + 1) 25 #[.int .i64 i, .int .i64 u.1, .int .i64 u.2.1, .string u.2.2, .int .i64 v.1, .int .i64 v.2.1, .string v.2.2]) := R3.out.belowS hb
    have W4 : Hid (Box w4 gb 33 #[.int .i64 q.k, .int .i64 q.n, .string q.t]) := W3.out.belowS hb
    have RX4 : Hid (RdE w4 ax n L) := rx
    clear hb B3 X3 R3 W3 rx x0
    obtain ⟨w5, hw5⟩ : ∃ W, w4.alloc (.cells #[.slice ax n cx] 38) = W := ⟨_, rfl⟩
    have hb : Below w4.heap.size w4 w5 := by rw [← hw5]; exact (Below.refl _ _).alloc (Nat.le_refl _) _
    have B5 : Hid (Below w.heap.size w w5) := B4.out.trans (hb.mono B4.out.size)
    have X5 : Hid (Box w5 w.heap.size 28 #[.slice a n c]) := X4.out.belowS hb
    have R5 : Hid (Box w5 (w.heap.size + 1) 25 #[.int .i64 i, .int .i64 u.1, .int .i64 u.2.1, .string u.2.2, .int .i64 v.1, .int .i64 v.2.1, .string v.2.2]) := R4.out.belowS hb
    have W5 : Hid (Box w5 gb 33 #[.int .i64 q.k, .int .i64 q.n, .string q.t]) := W4.out.belowS hb
    have Y5 : Hid (Box w5 w4.heap.size 38 #[.slice ax n cx]) := by unfold Hid; rw [← hw5]; exact Box.new _ _ _
    have RX5 : Hid (RdE w5 ax n L) := RX4.out.below hb
    have RXK : Hid (∀ X, Below w5.heap.size w5 X → RdE X ax n L) := fun X hX => RX5.out.below hX
    have l5 : w4.heap.size < w5.heap.size := Y5.out.lt
    have l5' : w.heap.size + 1 < w5.heap.size := R5.out.lt
    clear hb B4 X4 R4 W4 RX4
    have s0 : w5.cell? ⟨w4.heap.size, 0, none⟩ = some (.slice ax n cx) := Y5.out.cell 0
    obtain ⟨r0, r1, r2, r3, r4, r5, r6⟩ := box7 R5.out
    go_wp2_with fail
    clear hw5
    go_cut [9, 10] (fun sp sc wx => CutE w5 q sp sc wx)
    case first =>
      have Kd0 : Hid ((w5.drew).cell? ⟨w4.heap.size, 0, none⟩ = some (.slice ax n cx) ∧ (w5.drew).cell? ⟨(w.heap.size + 1), 0, none⟩ = some (.int .i64 i) ∧ (w5.drew).cell? ⟨(w.heap.size + 1), 1, none⟩ = some (.int .i64 u.1) ∧ (w5.drew).cell? ⟨(w.heap.size + 1), 2, none⟩ = some (.int .i64 u.2.1) ∧ (w5.drew).cell? ⟨(w.heap.size + 1), 3, none⟩ = some (.string u.2.2) ∧ (w5.drew).cell? ⟨(w.heap.size + 1), 4, none⟩ = some (.int .i64 v.1) ∧ (w5.drew).cell? ⟨(w.heap.size + 1), 5, none⟩ = some (.int .i64 v.2.1) ∧ (w5.drew).cell? ⟨(w.heap.size + 1), 6, none⟩ = some (.string v.2.2)) := ⟨s0, r0, r1, r2, r3, r4, r5, r6⟩
      have Ke0 : Hid ((w5.drew.alloc (.cells #[.int .i64 0, .int .i64 0, .string ⟨#[]⟩] 33)).cell? ⟨w4.heap.size, 0, none⟩ = some (.slice ax n cx) ∧ (w5.drew.alloc (.cells #[.int .i64 0, .int .i64 0, .string ⟨#[]⟩] 33)).cell? ⟨(w.heap.size + 1), 0, none⟩ = some (.int .i64 i) ∧ (w5.drew.alloc (.cells #[.int .i64 0, .int .i64 0, .string ⟨#[]⟩] 33)).cell? ⟨(w.heap.size + 1), 1, none⟩ = some (.int .i64 u.1) ∧ (w5.drew.alloc (.cells #[.int .i64 0, .int .i64 0, .string ⟨#[]⟩] 33)).cell? ⟨(w.heap.size + 1), 2, none⟩ = some (.int .i64 u.2.1) ∧ (w5.drew.alloc (.cells #[.int .i64 0, .int .i64 0, .string ⟨#[]⟩] 33)).cell? ⟨(w.heap.size + 1), 3, none⟩ = some (.string u.2.2) ∧ (w5.drew.alloc (.cells #[.int .i64 0, .int .i64 0, .string ⟨#[]⟩] 33)).cell? ⟨(w.heap.size + 1), 4, none⟩ = some (.int .i64 v.1) ∧ (w5.drew.alloc (.cells #[.int .i64 0, .int .i64 0, .string ⟨#[]⟩] 33)).cell? ⟨(w.heap.size + 1), 5, none⟩ = some (.int .i64 v.2.1) ∧ (w5.drew.alloc (.cells #[.int .i64 0, .int .i64 0, .string ⟨#[]⟩] 33)).cell? ⟨(w.heap.size + 1), 6, none⟩ = some (.string v.2.2)) := ⟨far6 (w := w5.drew) ((Below.refl _ _).alloc (Nat.le_refl _) _) s0, far6 (w := w5.drew) ((Below.refl _ _).alloc (Nat.le_refl _) _) r0, far6 (w := w5.drew) ((Below.refl _ _).alloc (Nat.le_refl _) _) r1, far6 (w := w5.drew) ((Below.refl _ _).alloc (Nat.le_refl _) _) r2, far6 (w := w5.drew) ((Below.refl _ _).alloc (Nat.le_refl _) _) r3, far6 (w := w5.drew) ((Below.refl _ _).alloc (Nat.le_refl _) _) r4, far6 (w := w5.drew) ((Below.refl _ _).alloc (Nat.le_refl _) _) r5, far6 (w := w5.drew) ((Below.refl _ _).alloc (Nat.le_refl _) _) r6⟩
      have Kf0 : Hid ((w5.alloc (.cells #[.int .i64 0, .int .i64 0, .string ⟨#[]⟩] 33)).drew.cell? ⟨w4.heap.size, 0, none⟩ = some (.slice ax n cx) ∧ (w5.alloc (.cells #[.int .i64 0, .int .i64 0, .string ⟨#[]⟩] 33)).drew.cell? ⟨(w.heap.size + 1), 0, none⟩ = some (.int .i64 i) ∧ (w5.alloc (.cells #[.int .i64 0, .int .i64 0, .string ⟨#[]⟩] 33)).drew.cell? ⟨(w.heap.size + 1), 1, none⟩ = some (.int .i64 u.1) ∧ (w5.alloc (.cells #[.int .i64 0, .int .i64 0, .string ⟨#[]⟩] 33)).drew.cell? ⟨(w.heap.size + 1), 2, none⟩ = some (.int .i64 u.2.1) ∧ (w5.alloc (.cells #[.int .i64 0, .int .i64 0, .string ⟨#[]⟩] 33)).drew.cell? ⟨(w.heap.size + 1), 3, none⟩ = some (.string u.2.2) ∧ (w5.alloc (.cells #[.int .i64 0, .int .i64 0, .string ⟨#[]⟩] 33)).drew.cell? ⟨(w.heap.size + 1), 4, none⟩ = some (.int .i64 v.1) ∧ (w5.alloc (.cells #[.int .i64 0, .int .i64 0, .string ⟨#[]⟩] 33)).drew.cell? ⟨(w.heap.size + 1), 5, none⟩ = some (.int .i64 v.2.1) ∧ (w5.alloc (.cells #[.int .i64 0, .int .i64 0, .string ⟨#[]⟩] 33)).drew.cell? ⟨(w.heap.size + 1), 6, none⟩ = some (.string v.2.2)) := ⟨far6 (((Below.refl _ _).alloc (Nat.le_refl _) (.cells #[.int .i64 0, .int .i64 0, .string ⟨#[]⟩] 33)).drew) s0, far6 (((Below.refl _ _).alloc (Nat.le_refl _) (.cells #[.int .i64 0, .int .i64 0, .string ⟨#[]⟩] 33)).drew) r0, far6 (((Below.refl _ _).alloc (Nat.le_refl _) (.cells #[.int .i64 0, .int .i64 0, .string ⟨#[]⟩] 33)).drew) r1, far6 (((Below.refl _ _).alloc (Nat.le_refl _) (.cells #[.int .i64 0, .int .i64 0, .string ⟨#[]⟩] 33)).drew) r2, far6 (((Below.refl _ _).alloc (Nat.le_refl _) (.cells #[.int .i64 0, .int .i64 0, .string ⟨#[]⟩] 33)).drew) r3, far6 (((Below.refl _ _).alloc (Nat.le_refl _) (.cells #[.int .i64 0, .int .i64 0, .string ⟨#[]⟩] 33)).drew) r4, far6 (((Below.refl _ _).alloc (Nat.le_refl _) (.cells #[.int .i64 0, .int .i64 0, .string ⟨#[]⟩] 33)).drew) r5, far6 (((Below.refl _ _).alloc (Nat.le_refl _) (.cells #[.int .i64 0, .int .i64 0, .string ⟨#[]⟩] 33)).drew) r6⟩
      go_region_held3 (fun y => y.cell? ⟨w4.heap.size, 0, none⟩ = some (.slice ax n cx) ∧ y.cell? ⟨(w.heap.size + 1), 0, none⟩ = some (.int .i64 i) ∧ y.cell? ⟨(w.heap.size + 1), 1, none⟩ = some (.int .i64 u.1) ∧ y.cell? ⟨(w.heap.size + 1), 2, none⟩ = some (.int .i64 u.2.1) ∧ y.cell? ⟨(w.heap.size + 1), 3, none⟩ = some (.string u.2.2) ∧ y.cell? ⟨(w.heap.size + 1), 4, none⟩ = some (.int .i64 v.1) ∧ y.cell? ⟨(w.heap.size + 1), 5, none⟩ = some (.int .i64 v.2.1) ∧ y.cell? ⟨(w.heap.size + 1), 6, none⟩ = some (.string v.2.2))
        (first | with_reducible exact KP.out | with_reducible exact Kb2.out | with_reducible exact Kc2.out | with_reducible exact Ka2.out | with_reducible exact Kc1.out | with_reducible exact Ka1.out | with_reducible exact Kd0.out | with_reducible exact Ke0.out | with_reducible exact Kf0.out | go_keep)
        (first | (go_at_call 28
                  refine (c_toRow i u v _).mono ?_
                  rintro e y1 ⟨rfl, hb1⟩
                  have G1 : Below w5.heap.size w5 y1 := Below.trans (by first | exact Below.refl _ _ | exact (Below.refl _ _).drew | exact (Below.refl _ _).alloc (Nat.le_refl _) _ | exact ((Below.refl _ _).alloc (Nat.le_refl _) _).drew | exact (Below.refl _ _).drew.alloc (Nat.le_refl _) _) (hb1.mono (by first | exact Nat.le_refl _ | simp))
                  have H1 : Below w5.heap.size w5 y1 := G1
                  have e1 : w5.heap.size ≤ y1.heap.size := G1.size
                  have s0_1 := far6 G1 s0
                  have r0_1 := far6 G1 r0
                  have r1_1 := far6 G1 r1
                  have r2_1 := far6 G1 r2
                  have r3_1 := far6 G1 r3
                  have r4_1 := far6 G1 r4
                  have r5_1 := far6 G1 r5
                  have r6_1 := far6 G1 r6
                  have Kc1 : Hid (y1.cell? ⟨w4.heap.size, 0, none⟩ = some (.slice ax n cx) ∧ y1.cell? ⟨(w.heap.size + 1), 0, none⟩ = some (.int .i64 i) ∧ y1.cell? ⟨(w.heap.size + 1), 1, none⟩ = some (.int .i64 u.1) ∧ y1.cell? ⟨(w.heap.size + 1), 2, none⟩ = some (.int .i64 u.2.1) ∧ y1.cell? ⟨(w.heap.size + 1), 3, none⟩ = some (.string u.2.2) ∧ y1.cell? ⟨(w.heap.size + 1), 4, none⟩ = some (.int .i64 v.1) ∧ y1.cell? ⟨(w.heap.size + 1), 5, none⟩ = some (.int .i64 v.2.1) ∧ y1.cell? ⟨(w.heap.size + 1), 6, none⟩ = some (.string v.2.2)) := ⟨s0_1, r0_1, r1_1, r2_1, r3_1, r4_1, r5_1, r6_1⟩
                  have Ka1 : Hid ((y1.alloc (.cells #[.int .i64 0, .int .i64 0, .string ⟨#[]⟩] 33)).cell? ⟨w4.heap.size, 0, none⟩ = some (.slice ax n cx) ∧ (y1.alloc (.cells #[.int .i64 0, .int .i64 0, .string ⟨#[]⟩] 33)).cell? ⟨(w.heap.size + 1), 0, none⟩ = some (.int .i64 i) ∧ (y1.alloc (.cells #[.int .i64 0, .int .i64 0, .string ⟨#[]⟩] 33)).cell? ⟨(w.heap.size + 1), 1, none⟩ = some (.int .i64 u.1) ∧ (y1.alloc (.cells #[.int .i64 0, .int .i64 0, .string ⟨#[]⟩] 33)).cell? ⟨(w.heap.size + 1), 2, none⟩ = some (.int .i64 u.2.1) ∧ (y1.alloc (.cells #[.int .i64 0, .int .i64 0, .string ⟨#[]⟩] 33)).cell? ⟨(w.heap.size + 1), 3, none⟩ = some (.string u.2.2) ∧ (y1.alloc (.cells #[.int .i64 0, .int .i64 0, .string ⟨#[]⟩] 33)).cell? ⟨(w.heap.size + 1), 4, none⟩ = some (.int .i64 v.1) ∧ (y1.alloc (.cells #[.int .i64 0, .int .i64 0, .string ⟨#[]⟩] 33)).cell? ⟨(w.heap.size + 1), 5, none⟩ = some (.int .i64 v.2.1) ∧ (y1.alloc (.cells #[.int .i64 0, .int .i64 0, .string ⟨#[]⟩] 33)).cell? ⟨(w.heap.size + 1), 6, none⟩ = some (.string v.2.2)) := ⟨far6 ((Below.refl _ _).alloc (Nat.le_refl _) _) s0_1, far6 ((Below.refl _ _).alloc (Nat.le_refl _) _) r0_1, far6 ((Below.refl _ _).alloc (Nat.le_refl _) _) r1_1, far6 ((Below.refl _ _).alloc (Nat.le_refl _) _) r2_1, far6 ((Below.refl _ _).alloc (Nat.le_refl _) _) r3_1, far6 ((Below.refl _ _).alloc (Nat.le_refl _) _) r4_1, far6 ((Below.refl _ _).alloc (Nat.le_refl _) _) r5_1, far6 ((Below.refl _ _).alloc (Nat.le_refl _) _) r6_1⟩
                  first
                    | (have ZB1_0 := zb3 hb1)
                    | (have ZB1_0 := zb3d hb1)
                    | (have ZB1_0 := zb3e hb1)
                    | skip)
               | (go_at_call 29
                  refine (CI.out _ ax cx (RXK.out _ (H1.trans (Below.mono (show Below y1.heap.size y1 _ from (by first | exact Below.refl _ _ | exact (Below.refl _ _).drew | exact (Below.refl _ _).alloc (Nat.le_refl _) _ | exact ((Below.refl _ _).alloc (Nat.le_refl _) _).drew | exact (Below.refl _ _).drew.alloc (Nat.le_refl _) _)) H1.size)))).mono ?_
                  rintro e y2 ⟨rfl, hb2⟩
                  have G2 : Below y1.heap.size y1 y2 := Below.trans (by first | exact Below.refl _ _ | exact (Below.refl _ _).drew | exact (Below.refl _ _).alloc (Nat.le_refl _) _ | exact ((Below.refl _ _).alloc (Nat.le_refl _) _).drew | exact (Below.refl _ _).drew.alloc (Nat.le_refl _) _) (hb2.mono (by first | exact Nat.le_refl _ | simp))
                  have H2 : Below w5.heap.size w5 y2 := H1.trans (G2.mono H1.size)
                  have e2 : y1.heap.size ≤ y2.heap.size := G2.size
                  have s0_2 := far6 G2 s0_1
                  have r0_2 := far6 G2 r0_1
                  have r1_2 := far6 G2 r1_1
                  have r2_2 := far6 G2 r2_1
                  have r3_2 := far6 G2 r3_1
                  have r4_2 := far6 G2 r4_1
                  have r5_2 := far6 G2 r5_1
                  have r6_2 := far6 G2 r6_1
                  have Kc2 : Hid (y2.cell? ⟨w4.heap.size, 0, none⟩ = some (.slice ax n cx) ∧ y2.cell? ⟨(w.heap.size + 1), 0, none⟩ = some (.int .i64 i) ∧ y2.cell? ⟨(w.heap.size + 1), 1, none⟩ = some (.int .i64 u.1) ∧ y2.cell? ⟨(w.heap.size + 1), 2, none⟩ = some (.int .i64 u.2.1) ∧ y2.cell? ⟨(w.heap.size + 1), 3, none⟩ = some (.string u.2.2) ∧ y2.cell? ⟨(w.heap.size + 1), 4, none⟩ = some (.int .i64 v.1) ∧ y2.cell? ⟨(w.heap.size + 1), 5, none⟩ = some (.int .i64 v.2.1) ∧ y2.cell? ⟨(w.heap.size + 1), 6, none⟩ = some (.string v.2.2)) := ⟨s0_2, r0_2, r1_2, r2_2, r3_2, r4_2, r5_2, r6_2⟩
                  have Ka2 : Hid ((y2.alloc (.cells #[.int .i64 0, .int .i64 0, .string ⟨#[]⟩] 33)).cell? ⟨w4.heap.size, 0, none⟩ = some (.slice ax n cx) ∧ (y2.alloc (.cells #[.int .i64 0, .int .i64 0, .string ⟨#[]⟩] 33)).cell? ⟨(w.heap.size + 1), 0, none⟩ = some (.int .i64 i) ∧ (y2.alloc (.cells #[.int .i64 0, .int .i64 0, .string ⟨#[]⟩] 33)).cell? ⟨(w.heap.size + 1), 1, none⟩ = some (.int .i64 u.1) ∧ (y2.alloc (.cells #[.int .i64 0, .int .i64 0, .string ⟨#[]⟩] 33)).cell? ⟨(w.heap.size + 1), 2, none⟩ = some (.int .i64 u.2.1) ∧ (y2.alloc (.cells #[.int .i64 0, .int .i64 0, .string ⟨#[]⟩] 33)).cell? ⟨(w.heap.size + 1), 3, none⟩ = some (.string u.2.2) ∧ (y2.alloc (.cells #[.int .i64 0, .int .i64 0, .string ⟨#[]⟩] 33)).cell? ⟨(w.heap.size + 1), 4, none⟩ = some (.int .i64 v.1) ∧ (y2.alloc (.cells #[.int .i64 0, .int .i64 0, .string ⟨#[]⟩] 33)).cell? ⟨(w.heap.size + 1), 5, none⟩ = some (.int .i64 v.2.1) ∧ (y2.alloc (.cells #[.int .i64 0, .int .i64 0, .string ⟨#[]⟩] 33)).cell? ⟨(w.heap.size + 1), 6, none⟩ = some (.string v.2.2)) := ⟨far6 ((Below.refl _ _).alloc (Nat.le_refl _) _) s0_2, far6 ((Below.refl _ _).alloc (Nat.le_refl _) _) r0_2, far6 ((Below.refl _ _).alloc (Nat.le_refl _) _) r1_2, far6 ((Below.refl _ _).alloc (Nat.le_refl _) _) r2_2, far6 ((Below.refl _ _).alloc (Nat.le_refl _) _) r3_2, far6 ((Below.refl _ _).alloc (Nat.le_refl _) _) r4_2, far6 ((Below.refl _ _).alloc (Nat.le_refl _) _) r5_2, far6 ((Below.refl _ _).alloc (Nat.le_refl _) _) r6_2⟩
                  have Kb2 : Hid ((y2.alloc (.cells #[.int .i64 q.k, .int .i64 q.n, .string q.t] 33)).cell? ⟨w4.heap.size, 0, none⟩ = some (.slice ax n cx) ∧ (y2.alloc (.cells #[.int .i64 q.k, .int .i64 q.n, .string q.t] 33)).cell? ⟨(w.heap.size + 1), 0, none⟩ = some (.int .i64 i) ∧ (y2.alloc (.cells #[.int .i64 q.k, .int .i64 q.n, .string q.t] 33)).cell? ⟨(w.heap.size + 1), 1, none⟩ = some (.int .i64 u.1) ∧ (y2.alloc (.cells #[.int .i64 q.k, .int .i64 q.n, .string q.t] 33)).cell? ⟨(w.heap.size + 1), 2, none⟩ = some (.int .i64 u.2.1) ∧ (y2.alloc (.cells #[.int .i64 q.k, .int .i64 q.n, .string q.t] 33)).cell? ⟨(w.heap.size + 1), 3, none⟩ = some (.string u.2.2) ∧ (y2.alloc (.cells #[.int .i64 q.k, .int .i64 q.n, .string q.t] 33)).cell? ⟨(w.heap.size + 1), 4, none⟩ = some (.int .i64 v.1) ∧ (y2.alloc (.cells #[.int .i64 q.k, .int .i64 q.n, .string q.t] 33)).cell? ⟨(w.heap.size + 1), 5, none⟩ = some (.int .i64 v.2.1) ∧ (y2.alloc (.cells #[.int .i64 q.k, .int .i64 q.n, .string q.t] 33)).cell? ⟨(w.heap.size + 1), 6, none⟩ = some (.string v.2.2)) := ⟨far6 ((Below.refl _ _).alloc (Nat.le_refl _) _) s0_2, far6 ((Below.refl _ _).alloc (Nat.le_refl _) _) r0_2, far6 ((Below.refl _ _).alloc (Nat.le_refl _) _) r1_2, far6 ((Below.refl _ _).alloc (Nat.le_refl _) _) r2_2, far6 ((Below.refl _ _).alloc (Nat.le_refl _) _) r3_2, far6 ((Below.refl _ _).alloc (Nat.le_refl _) _) r4_2, far6 ((Below.refl _ _).alloc (Nat.le_refl _) _) r5_2, far6 ((Below.refl _ _).alloc (Nat.le_refl _) _) r6_2⟩
                  first
                    | (have ZB2_0 := ZB1_0.belowS G2)
                    | (have ZB2_1 := zb3 hb2)
                    | (have ZB2_1 := zb3d hb2)
                    | (have ZB2_1 := zb3e hb2)
                    | skip
                  first
                    | (have KP : Hid (((((y2).setCell ⟨w5.heap.size, 0, none⟩ (.int .i64 q.k)).setCell ⟨w5.heap.size, 1, none⟩ (.int .i64 q.n)).setCell ⟨w5.heap.size, 2, none⟩ (.string q.t)).cell? ⟨w4.heap.size, 0, none⟩ = some (.slice ax n cx) ∧ ((((y2).setCell ⟨w5.heap.size, 0, none⟩ (.int .i64 q.k)).setCell ⟨w5.heap.size, 1, none⟩ (.int .i64 q.n)).setCell ⟨w5.heap.size, 2, none⟩ (.string q.t)).cell? ⟨(w.heap.size + 1), 0, none⟩ = some (.int .i64 i) ∧ ((((y2).setCell ⟨w5.heap.size, 0, none⟩ (.int .i64 q.k)).setCell ⟨w5.heap.size, 1, none⟩ (.int .i64 q.n)).setCell ⟨w5.heap.size, 2, none⟩ (.string q.t)).cell? ⟨(w.heap.size + 1), 1, none⟩ = some (.int .i64 u.1) ∧ ((((y2).setCell ⟨w5.heap.size, 0, none⟩ (.int .i64 q.k)).setCell ⟨w5.heap.size, 1, none⟩ (.int .i64 q.n)).setCell ⟨w5.heap.size, 2, none⟩ (.string q.t)).cell? ⟨(w.heap.size + 1), 2, none⟩ = some (.int .i64 u.2.1) ∧ ((((y2).setCell ⟨w5.heap.size, 0, none⟩ (.int .i64 q.k)).setCell ⟨w5.heap.size, 1, none⟩ (.int .i64 q.n)).setCell ⟨w5.heap.size, 2, none⟩ (.string q.t)).cell? ⟨(w.heap.size + 1), 3, none⟩ = some (.string u.2.2) ∧ ((((y2).setCell ⟨w5.heap.size, 0, none⟩ (.int .i64 q.k)).setCell ⟨w5.heap.size, 1, none⟩ (.int .i64 q.n)).setCell ⟨w5.heap.size, 2, none⟩ (.string q.t)).cell? ⟨(w.heap.size + 1), 4, none⟩ = some (.int .i64 v.1) ∧ ((((y2).setCell ⟨w5.heap.size, 0, none⟩ (.int .i64 q.k)).setCell ⟨w5.heap.size, 1, none⟩ (.int .i64 q.n)).setCell ⟨w5.heap.size, 2, none⟩ (.string q.t)).cell? ⟨(w.heap.size + 1), 5, none⟩ = some (.int .i64 v.2.1) ∧ ((((y2).setCell ⟨w5.heap.size, 0, none⟩ (.int .i64 q.k)).setCell ⟨w5.heap.size, 1, none⟩ (.int .i64 q.n)).setCell ⟨w5.heap.size, 2, none⟩ (.string q.t)).cell? ⟨(w.heap.size + 1), 6, none⟩ = some (.string v.2.2)) := ⟨(put3_cell _ _ _ _ _ _ _ (by omega)).trans s0_2, (put3_cell _ _ _ _ _ _ _ (by omega)).trans r0_2, (put3_cell _ _ _ _ _ _ _ (by omega)).trans r1_2, (put3_cell _ _ _ _ _ _ _ (by omega)).trans r2_2, (put3_cell _ _ _ _ _ _ _ (by omega)).trans r3_2, (put3_cell _ _ _ _ _ _ _ (by omega)).trans r4_2, (put3_cell _ _ _ _ _ _ _ (by omega)).trans r5_2, (put3_cell _ _ _ _ _ _ _ (by omega)).trans r6_2⟩
                       have lB := ZB2_0.lt
                       obtain ⟨zc0, zc1, zc2⟩ := box3 ZB2_0
                       have zt0 := ZB2_0.thaw 0
                       have zt1 := ZB2_0.thaw 1
                       have zt2 := ZB2_0.thaw 2
                       skip)
                    | (have KP : Hid (((((y2).setCell ⟨y1.heap.size, 0, none⟩ (.int .i64 q.k)).setCell ⟨y1.heap.size, 1, none⟩ (.int .i64 q.n)).setCell ⟨y1.heap.size, 2, none⟩ (.string q.t)).cell? ⟨w4.heap.size, 0, none⟩ = some (.slice ax n cx) ∧ ((((y2).setCell ⟨y1.heap.size, 0, none⟩ (.int .i64 q.k)).setCell ⟨y1.heap.size, 1, none⟩ (.int .i64 q.n)).setCell ⟨y1.heap.size, 2, none⟩ (.string q.t)).cell? ⟨(w.heap.size + 1), 0, none⟩ = some (.int .i64 i) ∧ ((((y2).setCell ⟨y1.heap.size, 0, none⟩ (.int .i64 q.k)).setCell ⟨y1.heap.size, 1, none⟩ (.int .i64 q.n)).setCell ⟨y1.heap.size, 2, none⟩ (.string q.t)).cell? ⟨(w.heap.size + 1), 1, none⟩ = some (.int .i64 u.1) ∧ ((((y2).setCell ⟨y1.heap.size, 0, none⟩ (.int .i64 q.k)).setCell ⟨y1.heap.size, 1, none⟩ (.int .i64 q.n)).setCell ⟨y1.heap.size, 2, none⟩ (.string q.t)).cell? ⟨(w.heap.size + 1), 2, none⟩ = some (.int .i64 u.2.1) ∧ ((((y2).setCell ⟨y1.heap.size, 0, none⟩ (.int .i64 q.k)).setCell ⟨y1.heap.size, 1, none⟩ (.int .i64 q.n)).setCell ⟨y1.heap.size, 2, none⟩ (.string q.t)).cell? ⟨(w.heap.size + 1), 3, none⟩ = some (.string u.2.2) ∧ ((((y2).setCell ⟨y1.heap.size, 0, none⟩ (.int .i64 q.k)).setCell ⟨y1.heap.size, 1, none⟩ (.int .i64 q.n)).setCell ⟨y1.heap.size, 2, none⟩ (.string q.t)).cell? ⟨(w.heap.size + 1), 4, none⟩ = some (.int .i64 v.1) ∧ ((((y2).setCell ⟨y1.heap.size, 0, none⟩ (.int .i64 q.k)).setCell ⟨y1.heap.size, 1, none⟩ (.int .i64 q.n)).setCell ⟨y1.heap.size, 2, none⟩ (.string q.t)).cell? ⟨(w.heap.size + 1), 5, none⟩ = some (.int .i64 v.2.1) ∧ ((((y2).setCell ⟨y1.heap.size, 0, none⟩ (.int .i64 q.k)).setCell ⟨y1.heap.size, 1, none⟩ (.int .i64 q.n)).setCell ⟨y1.heap.size, 2, none⟩ (.string q.t)).cell? ⟨(w.heap.size + 1), 6, none⟩ = some (.string v.2.2)) := ⟨(put3_cell _ _ _ _ _ _ _ (by omega)).trans s0_2, (put3_cell _ _ _ _ _ _ _ (by omega)).trans r0_2, (put3_cell _ _ _ _ _ _ _ (by omega)).trans r1_2, (put3_cell _ _ _ _ _ _ _ (by omega)).trans r2_2, (put3_cell _ _ _ _ _ _ _ (by omega)).trans r3_2, (put3_cell _ _ _ _ _ _ _ (by omega)).trans r4_2, (put3_cell _ _ _ _ _ _ _ (by omega)).trans r5_2, (put3_cell _ _ _ _ _ _ _ (by omega)).trans r6_2⟩
                       have lB := ZB2_1.lt
                       obtain ⟨zc0, zc1, zc2⟩ := box3 ZB2_1
                       have zt0 := ZB2_1.thaw 0
                       have zt1 := ZB2_1.thaw 1
                       have zt2 := ZB2_1.thaw 2
                       skip)
                    | skip))
      all_goals (clear Kc1 Ka1 Kc2 Ka2 Kb2 Kd0 Ke0 Kf0 s0_1 r0_1 r1_1 r2_1 r3_1 r4_1 r5_1 r6_1 s0_2 r0_2 r1_2 r2_2 r3_2 r4_2 r5_2 r6_2)
      all_goals (clear s0 r0 r1 r2 r3 r4 r5 r6)
      all_goals (go_wp2_with fail; go_meet)
      all_goals first
        | with_reducible exact cutE_new H2
        | with_reducible exact cutE_put H2 ZB2_0 (by omega)
        | with_reducible exact cutE_put H2 ZB2_1 (by omega)
    case rest =>
      rename World => w6
      obtain ⟨ga, rfl, rfl, hb, hga, gbx⟩ := hcut
      have B6 : Hid (Below w.heap.size w w6) := B5.out.trans (hb.mono B5.out.size)
      have X6 : Hid (Box w6 w.heap.size 28 #[.slice a n c]) := X5.out.belowS hb
      have W6 : Hid (Box w6 gb 33 #[.int .i64 q.k, .int .i64 q.n, .string q.t]) := W5.out.belowS hb
      have G6 : Hid (Box w6 ga 33 #[.int .i64 q.k, .int .i64 q.n, .string q.t]) := gbx
      have Y6 : Hid (Box w6 w4.heap.size 38 #[.slice ax n cx]) := Y5.out.belowS hb
      have RX6 : Hid (RdE w6 ax n L) := RX5.out.below hb
      clear hb hga gbx B5 X5 R5 W5 Y5 RX5 RXK s0 r0 r1 r2 r3 r4 r5 r6 CI
      have nc : (q.c != q.c) = false := by simp
      obtain ⟨q0, q1, q2⟩ := box3 W6.out
      obtain ⟨p0, p1, p2⟩ := box3 G6.out
      go_wp2_with fail
      refine (c_eqV1 _ _ _ _).mono ?_
      rintro e w7 ⟨rfl, hb⟩
      have B7 : Hid (Below w.heap.size w w7) := B6.out.trans (hb.mono B6.out.size)
      have X7' : Hid (Box w7 w.heap.size 28 #[.slice a n c]) := X6.out.belowS hb
      have Y7 : Hid (Box w7 w4.heap.size 38 #[.slice ax n cx]) := Y6.out.belowS hb
      have RX7 : Hid (RdE w7 ax n L) := RX6.out.below hb
      clear hb q0 q1 q2 p0 p1 p2 B6 X6 W6 G6 Y6 RX6
      have x0 : w7.cell? ⟨w.heap.size, 0, none⟩ = some (.slice a n c) := X7'.out.cell 0
      have y0 : w7.cell? ⟨w4.heap.size, 0, none⟩ = some (.slice ax n cx) := Y7.out.cell 0
      go_wp2_with fail
      go_region_held3 (fun x => x.cell? ⟨w.heap.size, 0, none⟩ = some (.slice a n c) ∧ x.cell? ⟨w4.heap.size, 0, none⟩ = some (.slice ax n cx))
        (first | exact ⟨far6 hb8 (far6 hb7 x0), far6 hb8 (far6 hb7 y0)⟩ | exact ⟨far6 hb7 x0, far6 hb7 y0⟩ | go_keep)
        (first | (go_at_call 27; refine (CT.out _ (below_drewN B7.out _)).mono ?_; rintro e wa ⟨⟨a7, c7, rfl, r7⟩, hb7⟩)
               | (go_at_call 31; refine (CE.out _ _ _ _ _ (RX7.out.below ((Below.refl _ _).drew.trans hb7)) r7).mono ?_; rintro e w8 ⟨rfl, hb8⟩))
      have hb : Below w7.heap.size w7 w8 := ((Below.refl w7.heap.size w7).drew.trans hb7).trans (hb8.mono hb7.size)
      have B8 : Hid (Below w.heap.size w w8) := B7.out.trans (hb.mono B7.out.size)
      clear hb hb7 hb8 r7
      go_wp2
      go_ret
      exact ⟨rfl, B8.out⟩

end Go.Proofs.Ytlapmidiakaimaa
