/-
  The walk of the law of RunCode.
-/
import Derived.Test.YtcgcaomaofppiaaDoorDg
import Derived.Deep.RegionHeld3
import Derived.Deep.DrawnRows
import Derived.Deep.DeepCutAuto
namespace Go.Proofs.YtcgcaomaofppiaaDoor
open Go Go.RowKit
attribute [local go_sem ↓] Go.wp_at_zero Go.wp_at_succ

set_option linter.unusedVariables false
set_option linter.unusedSimpArgs false
def CutE (W : World) (r : EV) (sp sc : Value) (wx : World) : Prop := ∃ gb : Nat, sp = .pointer (some ⟨gb, 0, none⟩) ∧ sc = .int .i64 r.c ∧ Below W.heap.size W wx ∧ W.heap.size ≤ gb ∧ Box wx gb 29 #[.int .i64 r.k, .int .i64 r.n, .string r.t]
theorem cutE_new {W y : World} {r : EV} (H : Below W.heap.size W y) : CutE W r (.pointer (some ⟨y.heap.size, 0, none⟩)) (.int .i64 r.c) (y.alloc (.cells #[.int .i64 r.k, .int .i64 r.n, .string r.t] 29)) :=
  ⟨y.heap.size, rfl, rfl, H.alloc H.size _, H.size, Box.new _ _ _⟩
theorem cutE_put {W y : World} {r : EV} {g : Nat} (H : Below W.heap.size W y) (zb : Box y g 29 #[.int .i64 0, .int .i64 0, .string ⟨#[]⟩]) (h1 : W.heap.size ≤ g) : CutE W r (.pointer (some ⟨g, 0, none⟩)) (.int .i64 r.c) ((((y).setCell ⟨g, 0, none⟩ (.int .i64 r.k)).setCell ⟨g, 1, none⟩ (.int .i64 r.n)).setCell ⟨g, 2, none⟩ (.string r.t)) :=
  ⟨g, rfl, rfl, put3_below H h1 _ _ _, h1, put3_box zb _ _ _⟩
theorem put3_cell (w : World) (g b o : Nat) (v0 v1 v2 : Value) (h : b ≠ g) : ((((w).setCell ⟨g, 0, none⟩ (v0)).setCell ⟨g, 1, none⟩ (v1)).setCell ⟨g, 2, none⟩ (v2)).cell? ⟨b, o, none⟩ = w.cell? ⟨b, o, none⟩ := World.cell?_of_block (((Below.heap_setCell _ _ _ b h).trans (Below.heap_setCell _ _ _ b h)).trans (Below.heap_setCell _ _ _ b h))
theorem zb3 {w w' : World} (hb : Below (w.alloc (.cells #[.int .i64 0, .int .i64 0, .string ⟨#[]⟩] 29)).heap.size (w.alloc (.cells #[.int .i64 0, .int .i64 0, .string ⟨#[]⟩] 29)) w') : Box w' w.heap.size 29 #[.int .i64 0, .int .i64 0, .string ⟨#[]⟩] := (Box.new w #[.int .i64 0, .int .i64 0, .string ⟨#[]⟩] 29).belowS hb
theorem zb3d {w w' : World} (hb : Below (w.alloc (.cells #[.int .i64 0, .int .i64 0, .string ⟨#[]⟩] 29)).drew.heap.size (w.alloc (.cells #[.int .i64 0, .int .i64 0, .string ⟨#[]⟩] 29)).drew w') : Box w' w.heap.size 29 #[.int .i64 0, .int .i64 0, .string ⟨#[]⟩] := (show Box (w.alloc (.cells #[.int .i64 0, .int .i64 0, .string ⟨#[]⟩] 29)).drew w.heap.size 29 #[.int .i64 0, .int .i64 0, .string ⟨#[]⟩] from Box.new w #[.int .i64 0, .int .i64 0, .string ⟨#[]⟩] 29).belowS hb
theorem zb3e {w w' : World} (hb : Below (w.drew.alloc (.cells #[.int .i64 0, .int .i64 0, .string ⟨#[]⟩] 29)).heap.size (w.drew.alloc (.cells #[.int .i64 0, .int .i64 0, .string ⟨#[]⟩] 29)) w') : Box w' w.heap.size 29 #[.int .i64 0, .int .i64 0, .string ⟨#[]⟩] := (Box.new w.drew #[.int .i64 0, .int .i64 0, .string ⟨#[]⟩] 29).belowS hb
set_option maxRecDepth 100000 in
set_option maxHeartbeats 4000000 in
theorem c_szRL (i : Int) (u v : VV) (left : Int) (w : World) (h1 : u.2.2.size ≤ maxLen) (h2 : v.2.2.size ≤ maxLen) (l0 : 0 ≤ left) (l1 : left ≤ 1048576) : Calls Tryd.prog 6 #[.agg #[.int .i64 i, .int .i64 u.1, .int .i64 u.2.1, .string u.2.2, .int .i64 v.1, .int .i64 v.2.1, .string v.2.2], .int .i64 left] w fun e w' => (∃ r : Int, e = .returned (.int .i64 r)) ∧ Below w.heap.size w w' := by
  obtain ⟨w0, hV⟩ : ∃ V, w.alloc (.cells #[.int .i64 i, .int .i64 u.1, .int .i64 u.2.1, .string u.2.2, .int .i64 v.1, .int .i64 v.2.1, .string v.2.2] 26) = V := ⟨_, rfl⟩
  have B0 : Hid (Below w.heap.size w w0) := by unfold Hid; rw [← hV]; exact (Below.refl _ _).alloc (Nat.le_refl _) _
  have R0 : Hid (Box w0 w.heap.size 26 #[.int .i64 i, .int .i64 u.1, .int .i64 u.2.1, .string u.2.2, .int .i64 v.1, .int .i64 v.2.1, .string v.2.2]) := by unfold Hid; rw [← hV]; exact Box.new _ _ _
  obtain ⟨q0, q1, q2, q3, q4, q5, q6⟩ := box7 R0.out
  go_enter Tryd.func6, Tryd.ntmps6
  go_wp2_with fail
  refine (c_sz _ _ _ _ _ h1 l0 l1).mono ?_
  rintro e w1 ⟨rfl, hb⟩
  have B1 : Hid (Below w.heap.size w w1) := B0.out.trans (hb.mono B0.out.size)
  have R1 : Hid (Box w1 w.heap.size 26 #[.int .i64 i, .int .i64 u.1, .int .i64 u.2.1, .string u.2.2, .int .i64 v.1, .int .i64 v.2.1, .string v.2.2]) := R0.out.belowS hb
  clear hb q0 q1 q2 q3 q4 q5 q6 B0 R0 hV
  by_cases h : left - u.2.2.size < 0
  · rw [if_pos h]
    go_wp2
    go_ret
    exact ⟨⟨_, rfl⟩, B1.out⟩
  rw [if_neg h]
  obtain ⟨q0, q1, q2, q3, q4, q5, q6⟩ := box7 R1.out
  go_wp2_with fail
  refine (c_sz _ _ _ _ _ h2 (by omega) (by omega)).mono ?_
  rintro e w2 ⟨rfl, hb⟩
  have B2 : Hid (Below w.heap.size w w2) := B1.out.trans (hb.mono B1.out.size)
  clear hb q0 q1 q2 q3 q4 q5 q6 B1 R1
  by_cases h' : left - u.2.2.size - v.2.2.size < 0
  · rw [if_pos h']
    go_wp2
    go_ret
    exact ⟨⟨_, rfl⟩, B2.out⟩
  · rw [if_neg h']
    go_wp2
    go_ret
    exact ⟨⟨_, rfl⟩, B2.out⟩
set_option maxRecDepth 100000 in
set_option maxHeartbeats 8000000 in
theorem law_FnExactRunCode (L : List IN) (a : Option Addr) (n c : Nat) (i : Int) (u v : VV) (w : World) (hr : RdI w a n L) (hm : n ≤ maxLen) (hs : ∀ x ∈ L, x.t.size ≤ maxLen) (h1 : u.2.2.size ≤ maxLen) (h2 : v.2.2.size ≤ maxLen) (ht : TakH w) :
    Calls Tryd.prog 3 #[.slice a n c, .agg #[.int .i64 i, .int .i64 u.1, .int .i64 u.2.1, .string u.2.2, .int .i64 v.1, .int .i64 v.2.1, .string v.2.2]] w fun e w' => e = .returned (.bool true) ∧ Below w.heap.size w w' := by
  obtain ⟨V0, hV⟩ : ∃ V, w.alloc (.cells #[.int .i64 i, .int .i64 u.1, .int .i64 u.2.1, .string u.2.2, .int .i64 v.1, .int .i64 v.2.1, .string v.2.2] 26) = V := ⟨_, rfl⟩
  have B0 : Hid (Below w.heap.size w V0) := by unfold Hid; rw [← hV]; exact (Below.refl _ _).alloc (Nat.le_refl _) _
  have R0 : Hid (Box V0 w.heap.size 26 #[.int .i64 i, .int .i64 u.1, .int .i64 u.2.1, .string u.2.2, .int .i64 v.1, .int .i64 v.2.1, .string v.2.2]) := by unfold Hid; rw [← hV]; exact Box.new _ _ _
  have C1 := c_szI a n c L 1048576 V0 (hr.below B0.out) hm hs (by omega) (by omega)
  have HR : Hid (RdI w a n L) := hr
  have HS : Hid (∀ x ∈ L, x.t.size ≤ maxLen) := hs
  have HT : Hid (TakH w) := ht
  clear hr hs ht
  go_enter Tryd.func3, Tryd.ntmps3
  go_wp2_with fail
  refine C1.mono ?_
  rintro e w1 ⟨⟨z, rfl, hz, hzn⟩, hb⟩
  have B1 : Hid (Below w.heap.size w w1) := B0.out.trans (hb.mono B0.out.size)
  have R1 : Hid (Box w1 w.heap.size 26 #[.int .i64 i, .int .i64 u.1, .int .i64 u.2.1, .string u.2.2, .int .i64 v.1, .int .i64 v.2.1, .string v.2.2]) := R0.out.belowS hb
  clear hb B0 R0 C1 hV
  by_cases hneg : z < 0
  · clear hzn
    go_wp2
    go_ret
    exact ⟨rfl, B1.out⟩
  have hn : n ≤ 1048576 := hzn (by omega)
  have CT : Hid (∀ W, Below w.heap.size w W → Calls Tryd.prog 8 #[.slice a n c] W fun e w' => (∃ g, e = .returned (.slice (some ⟨g, 0, none⟩) n n) ∧ RdI w' (some ⟨g, 0, none⟩) n L) ∧ Below W.heap.size W w') := fun W hW => (c_toI a n c L W (HR.out.below hW) hn).mono fun e w' ⟨h1, h2, h3⟩ => ⟨⟨_, h1, RdI.own h2⟩, h3⟩
  obtain ⟨q, hq⟩ : ∃ q, rcE L n i u v = q := ⟨_, rfl⟩
  have CS : Hid (∀ W g, RdI W (some ⟨g, 0, none⟩) n L → Calls Tryd.prog 7 #[.slice (some ⟨g, 0, none⟩) n n, .agg #[.int .i64 i, .int .i64 u.1, .int .i64 u.2.1, .string u.2.2, .int .i64 v.1, .int .i64 v.2.1, .string v.2.2]] W fun e w' => e = .returned (.tuple #[.agg #[.int .i64 q.k, .int .i64 q.n, .string q.t], .int .i64 q.c]) ∧ Below W.heap.size W w') := fun W g h => by rw [← hq]; exact c_specRC L _ n n i u v W h hm HS.out h1 h2
  have CI : Hid (∀ W g, RdI W (some ⟨g, 0, none⟩) n L → TakH W → Calls Tryd.prog 10 #[.slice (some ⟨g, 0, none⟩) n n, .agg #[.int .i64 i, .int .i64 u.1, .int .i64 u.2.1, .string u.2.2, .int .i64 v.1, .int .i64 v.2.1, .string v.2.2]] W fun e w' => e = .returned (.tuple #[.agg #[.int .i64 q.k, .int .i64 q.n, .string q.t], .int .i64 q.c]) ∧ Below W.heap.size W w') := fun W g h h3 => by rw [← hq]; exact c_implRC L _ n n i u v W h hm HS.out h1 h2 h3
  have CE : Hid (∀ W g1 g2, RdI W (some ⟨g1, 0, none⟩) n L → RdI W (some ⟨g2, 0, none⟩) n L → Calls Tryd.prog 12 #[.slice (some ⟨g1, 0, none⟩) n n, .slice (some ⟨g2, 0, none⟩) n n] W fun e w' => e = .returned (.bool true) ∧ Below W.heap.size W w') := fun W g1 g2 r1 r2 => c_eqI _ _ n n n L W r1 r2 hn
  clear hzn HS HR hq hm
  obtain ⟨r0, r1, r2, r3, r4, r5, r6⟩ := box7 R1.out
  go_wp2_with fail
  refine (c_szRL i u v z _ h1 h2 (by omega) hz).mono ?_
  rintro e w2 ⟨⟨z2, rfl⟩, hb⟩
  have B2 : Hid (Below w.heap.size w w2) := B1.out.trans (hb.mono B1.out.size)
  have R2 : Hid (Box w2 w.heap.size 26 #[.int .i64 i, .int .i64 u.1, .int .i64 u.2.1, .string u.2.2, .int .i64 v.1, .int .i64 v.2.1, .string v.2.2]) := R1.out.belowS hb
  clear hb B1 R1 r0 r1 r2 r3 r4 r5 r6
  by_cases hneg2 : z2 < 0
  · go_wp2
    go_ret
    exact ⟨rfl, B2.out⟩
  have l2 : w.heap.size < w2.heap.size := R2.out.lt
  obtain ⟨r0, r1, r2, r3, r4, r5, r6⟩ := box7 R2.out
  go_wp2_with fail
  go_cut [6, 7] (fun sp sc wx => CutE w2 q sp sc wx)
  case first =>
    have Kd0 : Hid ((w2.drew).cell? ⟨w.heap.size, 0, none⟩ = some (.int .i64 i) ∧ (w2.drew).cell? ⟨w.heap.size, 1, none⟩ = some (.int .i64 u.1) ∧ (w2.drew).cell? ⟨w.heap.size, 2, none⟩ = some (.int .i64 u.2.1) ∧ (w2.drew).cell? ⟨w.heap.size, 3, none⟩ = some (.string u.2.2) ∧ (w2.drew).cell? ⟨w.heap.size, 4, none⟩ = some (.int .i64 v.1) ∧ (w2.drew).cell? ⟨w.heap.size, 5, none⟩ = some (.int .i64 v.2.1) ∧ (w2.drew).cell? ⟨w.heap.size, 6, none⟩ = some (.string v.2.2)) := ⟨r0, r1, r2, r3, r4, r5, r6⟩
    have Ke0 : Hid ((w2.drew.alloc (.cells #[.int .i64 0, .int .i64 0, .string ⟨#[]⟩] 29)).cell? ⟨w.heap.size, 0, none⟩ = some (.int .i64 i) ∧ (w2.drew.alloc (.cells #[.int .i64 0, .int .i64 0, .string ⟨#[]⟩] 29)).cell? ⟨w.heap.size, 1, none⟩ = some (.int .i64 u.1) ∧ (w2.drew.alloc (.cells #[.int .i64 0, .int .i64 0, .string ⟨#[]⟩] 29)).cell? ⟨w.heap.size, 2, none⟩ = some (.int .i64 u.2.1) ∧ (w2.drew.alloc (.cells #[.int .i64 0, .int .i64 0, .string ⟨#[]⟩] 29)).cell? ⟨w.heap.size, 3, none⟩ = some (.string u.2.2) ∧ (w2.drew.alloc (.cells #[.int .i64 0, .int .i64 0, .string ⟨#[]⟩] 29)).cell? ⟨w.heap.size, 4, none⟩ = some (.int .i64 v.1) ∧ (w2.drew.alloc (.cells #[.int .i64 0, .int .i64 0, .string ⟨#[]⟩] 29)).cell? ⟨w.heap.size, 5, none⟩ = some (.int .i64 v.2.1) ∧ (w2.drew.alloc (.cells #[.int .i64 0, .int .i64 0, .string ⟨#[]⟩] 29)).cell? ⟨w.heap.size, 6, none⟩ = some (.string v.2.2)) := ⟨far6 (w := w2.drew) ((Below.refl _ _).alloc (Nat.le_refl _) _) r0, far6 (w := w2.drew) ((Below.refl _ _).alloc (Nat.le_refl _) _) r1, far6 (w := w2.drew) ((Below.refl _ _).alloc (Nat.le_refl _) _) r2, far6 (w := w2.drew) ((Below.refl _ _).alloc (Nat.le_refl _) _) r3, far6 (w := w2.drew) ((Below.refl _ _).alloc (Nat.le_refl _) _) r4, far6 (w := w2.drew) ((Below.refl _ _).alloc (Nat.le_refl _) _) r5, far6 (w := w2.drew) ((Below.refl _ _).alloc (Nat.le_refl _) _) r6⟩
    have Kf0 : Hid ((w2.alloc (.cells #[.int .i64 0, .int .i64 0, .string ⟨#[]⟩] 29)).drew.cell? ⟨w.heap.size, 0, none⟩ = some (.int .i64 i) ∧ (w2.alloc (.cells #[.int .i64 0, .int .i64 0, .string ⟨#[]⟩] 29)).drew.cell? ⟨w.heap.size, 1, none⟩ = some (.int .i64 u.1) ∧ (w2.alloc (.cells #[.int .i64 0, .int .i64 0, .string ⟨#[]⟩] 29)).drew.cell? ⟨w.heap.size, 2, none⟩ = some (.int .i64 u.2.1) ∧ (w2.alloc (.cells #[.int .i64 0, .int .i64 0, .string ⟨#[]⟩] 29)).drew.cell? ⟨w.heap.size, 3, none⟩ = some (.string u.2.2) ∧ (w2.alloc (.cells #[.int .i64 0, .int .i64 0, .string ⟨#[]⟩] 29)).drew.cell? ⟨w.heap.size, 4, none⟩ = some (.int .i64 v.1) ∧ (w2.alloc (.cells #[.int .i64 0, .int .i64 0, .string ⟨#[]⟩] 29)).drew.cell? ⟨w.heap.size, 5, none⟩ = some (.int .i64 v.2.1) ∧ (w2.alloc (.cells #[.int .i64 0, .int .i64 0, .string ⟨#[]⟩] 29)).drew.cell? ⟨w.heap.size, 6, none⟩ = some (.string v.2.2)) := ⟨far6 (((Below.refl _ _).alloc (Nat.le_refl _) (.cells #[.int .i64 0, .int .i64 0, .string ⟨#[]⟩] 29)).drew) r0, far6 (((Below.refl _ _).alloc (Nat.le_refl _) (.cells #[.int .i64 0, .int .i64 0, .string ⟨#[]⟩] 29)).drew) r1, far6 (((Below.refl _ _).alloc (Nat.le_refl _) (.cells #[.int .i64 0, .int .i64 0, .string ⟨#[]⟩] 29)).drew) r2, far6 (((Below.refl _ _).alloc (Nat.le_refl _) (.cells #[.int .i64 0, .int .i64 0, .string ⟨#[]⟩] 29)).drew) r3, far6 (((Below.refl _ _).alloc (Nat.le_refl _) (.cells #[.int .i64 0, .int .i64 0, .string ⟨#[]⟩] 29)).drew) r4, far6 (((Below.refl _ _).alloc (Nat.le_refl _) (.cells #[.int .i64 0, .int .i64 0, .string ⟨#[]⟩] 29)).drew) r5, far6 (((Below.refl _ _).alloc (Nat.le_refl _) (.cells #[.int .i64 0, .int .i64 0, .string ⟨#[]⟩] 29)).drew) r6⟩
    go_region_held3 (fun y => y.cell? ⟨w.heap.size, 0, none⟩ = some (.int .i64 i) ∧ y.cell? ⟨w.heap.size, 1, none⟩ = some (.int .i64 u.1) ∧ y.cell? ⟨w.heap.size, 2, none⟩ = some (.int .i64 u.2.1) ∧ y.cell? ⟨w.heap.size, 3, none⟩ = some (.string u.2.2) ∧ y.cell? ⟨w.heap.size, 4, none⟩ = some (.int .i64 v.1) ∧ y.cell? ⟨w.heap.size, 5, none⟩ = some (.int .i64 v.2.1) ∧ y.cell? ⟨w.heap.size, 6, none⟩ = some (.string v.2.2))
      (first | with_reducible exact KP.out | with_reducible exact Kb3.out | with_reducible exact Kc3.out | with_reducible exact Ka3.out | with_reducible exact Kc2.out | with_reducible exact Ka2.out | with_reducible exact Kc1.out | with_reducible exact Ka1.out | with_reducible exact Kd0.out | with_reducible exact Ke0.out | with_reducible exact Kf0.out | go_keep)
      (first | (go_at_call 8
                refine (CT.out _ (B2.out.trans (Below.mono (show Below w2.heap.size w2 _ from (by first | exact Below.refl _ _ | exact (Below.refl _ _).drew | exact (Below.refl _ _).alloc (Nat.le_refl _) _ | exact ((Below.refl _ _).alloc (Nat.le_refl _) _).drew | exact (Below.refl _ _).drew.alloc (Nat.le_refl _) _)) B2.out.size))).mono ?_
                rintro e y1 ⟨⟨gt_, rfl, rt_⟩, hb1⟩
                have G1 : Below w2.heap.size w2 y1 := Below.trans (by first | exact Below.refl _ _ | exact (Below.refl _ _).drew | exact (Below.refl _ _).alloc (Nat.le_refl _) _ | exact ((Below.refl _ _).alloc (Nat.le_refl _) _).drew | exact (Below.refl _ _).drew.alloc (Nat.le_refl _) _) (hb1.mono (by first | exact Nat.le_refl _ | simp))
                have H1 : Below w2.heap.size w2 y1 := G1
                have e1 : w2.heap.size ≤ y1.heap.size := G1.size
                have RK1 := rt_
                have r0_1 := far6 G1 r0
                have r1_1 := far6 G1 r1
                have r2_1 := far6 G1 r2
                have r3_1 := far6 G1 r3
                have r4_1 := far6 G1 r4
                have r5_1 := far6 G1 r5
                have r6_1 := far6 G1 r6
                have Kc1 : Hid (y1.cell? ⟨w.heap.size, 0, none⟩ = some (.int .i64 i) ∧ y1.cell? ⟨w.heap.size, 1, none⟩ = some (.int .i64 u.1) ∧ y1.cell? ⟨w.heap.size, 2, none⟩ = some (.int .i64 u.2.1) ∧ y1.cell? ⟨w.heap.size, 3, none⟩ = some (.string u.2.2) ∧ y1.cell? ⟨w.heap.size, 4, none⟩ = some (.int .i64 v.1) ∧ y1.cell? ⟨w.heap.size, 5, none⟩ = some (.int .i64 v.2.1) ∧ y1.cell? ⟨w.heap.size, 6, none⟩ = some (.string v.2.2)) := ⟨r0_1, r1_1, r2_1, r3_1, r4_1, r5_1, r6_1⟩
                have Ka1 : Hid ((y1.alloc (.cells #[.int .i64 0, .int .i64 0, .string ⟨#[]⟩] 29)).cell? ⟨w.heap.size, 0, none⟩ = some (.int .i64 i) ∧ (y1.alloc (.cells #[.int .i64 0, .int .i64 0, .string ⟨#[]⟩] 29)).cell? ⟨w.heap.size, 1, none⟩ = some (.int .i64 u.1) ∧ (y1.alloc (.cells #[.int .i64 0, .int .i64 0, .string ⟨#[]⟩] 29)).cell? ⟨w.heap.size, 2, none⟩ = some (.int .i64 u.2.1) ∧ (y1.alloc (.cells #[.int .i64 0, .int .i64 0, .string ⟨#[]⟩] 29)).cell? ⟨w.heap.size, 3, none⟩ = some (.string u.2.2) ∧ (y1.alloc (.cells #[.int .i64 0, .int .i64 0, .string ⟨#[]⟩] 29)).cell? ⟨w.heap.size, 4, none⟩ = some (.int .i64 v.1) ∧ (y1.alloc (.cells #[.int .i64 0, .int .i64 0, .string ⟨#[]⟩] 29)).cell? ⟨w.heap.size, 5, none⟩ = some (.int .i64 v.2.1) ∧ (y1.alloc (.cells #[.int .i64 0, .int .i64 0, .string ⟨#[]⟩] 29)).cell? ⟨w.heap.size, 6, none⟩ = some (.string v.2.2)) := ⟨far6 ((Below.refl _ _).alloc (Nat.le_refl _) _) r0_1, far6 ((Below.refl _ _).alloc (Nat.le_refl _) _) r1_1, far6 ((Below.refl _ _).alloc (Nat.le_refl _) _) r2_1, far6 ((Below.refl _ _).alloc (Nat.le_refl _) _) r3_1, far6 ((Below.refl _ _).alloc (Nat.le_refl _) _) r4_1, far6 ((Below.refl _ _).alloc (Nat.le_refl _) _) r5_1, far6 ((Below.refl _ _).alloc (Nat.le_refl _) _) r6_1⟩
                first
                  | (have ZB1_0 := zb3 hb1)
                  | (have ZB1_0 := zb3d hb1)
                  | (have ZB1_0 := zb3e hb1)
                  | skip)
             | (go_at_call 9
                refine (c_toRow i u v _).mono ?_
                rintro e y2 ⟨rfl, hb2⟩
                have G2 : Below y1.heap.size y1 y2 := Below.trans (by first | exact Below.refl _ _ | exact (Below.refl _ _).drew | exact (Below.refl _ _).alloc (Nat.le_refl _) _ | exact ((Below.refl _ _).alloc (Nat.le_refl _) _).drew | exact (Below.refl _ _).drew.alloc (Nat.le_refl _) _) (hb2.mono (by first | exact Nat.le_refl _ | simp))
                have H2 : Below w2.heap.size w2 y2 := H1.trans (G2.mono H1.size)
                have e2 : y1.heap.size ≤ y2.heap.size := G2.size
                have RK2 := RK1.below G2
                have r0_2 := far6 G2 r0_1
                have r1_2 := far6 G2 r1_1
                have r2_2 := far6 G2 r2_1
                have r3_2 := far6 G2 r3_1
                have r4_2 := far6 G2 r4_1
                have r5_2 := far6 G2 r5_1
                have r6_2 := far6 G2 r6_1
                have Kc2 : Hid (y2.cell? ⟨w.heap.size, 0, none⟩ = some (.int .i64 i) ∧ y2.cell? ⟨w.heap.size, 1, none⟩ = some (.int .i64 u.1) ∧ y2.cell? ⟨w.heap.size, 2, none⟩ = some (.int .i64 u.2.1) ∧ y2.cell? ⟨w.heap.size, 3, none⟩ = some (.string u.2.2) ∧ y2.cell? ⟨w.heap.size, 4, none⟩ = some (.int .i64 v.1) ∧ y2.cell? ⟨w.heap.size, 5, none⟩ = some (.int .i64 v.2.1) ∧ y2.cell? ⟨w.heap.size, 6, none⟩ = some (.string v.2.2)) := ⟨r0_2, r1_2, r2_2, r3_2, r4_2, r5_2, r6_2⟩
                have Ka2 : Hid ((y2.alloc (.cells #[.int .i64 0, .int .i64 0, .string ⟨#[]⟩] 29)).cell? ⟨w.heap.size, 0, none⟩ = some (.int .i64 i) ∧ (y2.alloc (.cells #[.int .i64 0, .int .i64 0, .string ⟨#[]⟩] 29)).cell? ⟨w.heap.size, 1, none⟩ = some (.int .i64 u.1) ∧ (y2.alloc (.cells #[.int .i64 0, .int .i64 0, .string ⟨#[]⟩] 29)).cell? ⟨w.heap.size, 2, none⟩ = some (.int .i64 u.2.1) ∧ (y2.alloc (.cells #[.int .i64 0, .int .i64 0, .string ⟨#[]⟩] 29)).cell? ⟨w.heap.size, 3, none⟩ = some (.string u.2.2) ∧ (y2.alloc (.cells #[.int .i64 0, .int .i64 0, .string ⟨#[]⟩] 29)).cell? ⟨w.heap.size, 4, none⟩ = some (.int .i64 v.1) ∧ (y2.alloc (.cells #[.int .i64 0, .int .i64 0, .string ⟨#[]⟩] 29)).cell? ⟨w.heap.size, 5, none⟩ = some (.int .i64 v.2.1) ∧ (y2.alloc (.cells #[.int .i64 0, .int .i64 0, .string ⟨#[]⟩] 29)).cell? ⟨w.heap.size, 6, none⟩ = some (.string v.2.2)) := ⟨far6 ((Below.refl _ _).alloc (Nat.le_refl _) _) r0_2, far6 ((Below.refl _ _).alloc (Nat.le_refl _) _) r1_2, far6 ((Below.refl _ _).alloc (Nat.le_refl _) _) r2_2, far6 ((Below.refl _ _).alloc (Nat.le_refl _) _) r3_2, far6 ((Below.refl _ _).alloc (Nat.le_refl _) _) r4_2, far6 ((Below.refl _ _).alloc (Nat.le_refl _) _) r5_2, far6 ((Below.refl _ _).alloc (Nat.le_refl _) _) r6_2⟩
                first
                  | (have ZB2_0 := ZB1_0.belowS G2)
                  | (have ZB2_1 := zb3 hb2)
                  | (have ZB2_1 := zb3d hb2)
                  | (have ZB2_1 := zb3e hb2)
                  | skip)
             | (go_at_call 7
                refine (CS.out _ gt_ (RK2.below (show Below y2.heap.size y2 _ from (by first | exact Below.refl _ _ | exact (Below.refl _ _).drew | exact (Below.refl _ _).alloc (Nat.le_refl _) _ | exact ((Below.refl _ _).alloc (Nat.le_refl _) _).drew | exact (Below.refl _ _).drew.alloc (Nat.le_refl _) _)))).mono ?_
                rintro e y3 ⟨rfl, hb3⟩
                have G3 : Below y2.heap.size y2 y3 := Below.trans (by first | exact Below.refl _ _ | exact (Below.refl _ _).drew | exact (Below.refl _ _).alloc (Nat.le_refl _) _ | exact ((Below.refl _ _).alloc (Nat.le_refl _) _).drew | exact (Below.refl _ _).drew.alloc (Nat.le_refl _) _) (hb3.mono (by first | exact Nat.le_refl _ | simp))
                have H3 : Below w2.heap.size w2 y3 := H2.trans (G3.mono H2.size)
                have e3 : y2.heap.size ≤ y3.heap.size := G3.size
                have r0_3 := far6 G3 r0_2
                have r1_3 := far6 G3 r1_2
                have r2_3 := far6 G3 r2_2
                have r3_3 := far6 G3 r3_2
                have r4_3 := far6 G3 r4_2
                have r5_3 := far6 G3 r5_2
                have r6_3 := far6 G3 r6_2
                have Kc3 : Hid (y3.cell? ⟨w.heap.size, 0, none⟩ = some (.int .i64 i) ∧ y3.cell? ⟨w.heap.size, 1, none⟩ = some (.int .i64 u.1) ∧ y3.cell? ⟨w.heap.size, 2, none⟩ = some (.int .i64 u.2.1) ∧ y3.cell? ⟨w.heap.size, 3, none⟩ = some (.string u.2.2) ∧ y3.cell? ⟨w.heap.size, 4, none⟩ = some (.int .i64 v.1) ∧ y3.cell? ⟨w.heap.size, 5, none⟩ = some (.int .i64 v.2.1) ∧ y3.cell? ⟨w.heap.size, 6, none⟩ = some (.string v.2.2)) := ⟨r0_3, r1_3, r2_3, r3_3, r4_3, r5_3, r6_3⟩
                have Ka3 : Hid ((y3.alloc (.cells #[.int .i64 0, .int .i64 0, .string ⟨#[]⟩] 29)).cell? ⟨w.heap.size, 0, none⟩ = some (.int .i64 i) ∧ (y3.alloc (.cells #[.int .i64 0, .int .i64 0, .string ⟨#[]⟩] 29)).cell? ⟨w.heap.size, 1, none⟩ = some (.int .i64 u.1) ∧ (y3.alloc (.cells #[.int .i64 0, .int .i64 0, .string ⟨#[]⟩] 29)).cell? ⟨w.heap.size, 2, none⟩ = some (.int .i64 u.2.1) ∧ (y3.alloc (.cells #[.int .i64 0, .int .i64 0, .string ⟨#[]⟩] 29)).cell? ⟨w.heap.size, 3, none⟩ = some (.string u.2.2) ∧ (y3.alloc (.cells #[.int .i64 0, .int .i64 0, .string ⟨#[]⟩] 29)).cell? ⟨w.heap.size, 4, none⟩ = some (.int .i64 v.1) ∧ (y3.alloc (.cells #[.int .i64 0, .int .i64 0, .string ⟨#[]⟩] 29)).cell? ⟨w.heap.size, 5, none⟩ = some (.int .i64 v.2.1) ∧ (y3.alloc (.cells #[.int .i64 0, .int .i64 0, .string ⟨#[]⟩] 29)).cell? ⟨w.heap.size, 6, none⟩ = some (.string v.2.2)) := ⟨far6 ((Below.refl _ _).alloc (Nat.le_refl _) _) r0_3, far6 ((Below.refl _ _).alloc (Nat.le_refl _) _) r1_3, far6 ((Below.refl _ _).alloc (Nat.le_refl _) _) r2_3, far6 ((Below.refl _ _).alloc (Nat.le_refl _) _) r3_3, far6 ((Below.refl _ _).alloc (Nat.le_refl _) _) r4_3, far6 ((Below.refl _ _).alloc (Nat.le_refl _) _) r5_3, far6 ((Below.refl _ _).alloc (Nat.le_refl _) _) r6_3⟩
                have Kb3 : Hid ((y3.alloc (.cells #[.int .i64 q.k, .int .i64 q.n, .string q.t] 29)).cell? ⟨w.heap.size, 0, none⟩ = some (.int .i64 i) ∧ (y3.alloc (.cells #[.int .i64 q.k, .int .i64 q.n, .string q.t] 29)).cell? ⟨w.heap.size, 1, none⟩ = some (.int .i64 u.1) ∧ (y3.alloc (.cells #[.int .i64 q.k, .int .i64 q.n, .string q.t] 29)).cell? ⟨w.heap.size, 2, none⟩ = some (.int .i64 u.2.1) ∧ (y3.alloc (.cells #[.int .i64 q.k, .int .i64 q.n, .string q.t] 29)).cell? ⟨w.heap.size, 3, none⟩ = some (.string u.2.2) ∧ (y3.alloc (.cells #[.int .i64 q.k, .int .i64 q.n, .string q.t] 29)).cell? ⟨w.heap.size, 4, none⟩ = some (.int .i64 v.1) ∧ (y3.alloc (.cells #[.int .i64 q.k, .int .i64 q.n, .string q.t] 29)).cell? ⟨w.heap.size, 5, none⟩ = some (.int .i64 v.2.1) ∧ (y3.alloc (.cells #[.int .i64 q.k, .int .i64 q.n, .string q.t] 29)).cell? ⟨w.heap.size, 6, none⟩ = some (.string v.2.2)) := ⟨far6 ((Below.refl _ _).alloc (Nat.le_refl _) _) r0_3, far6 ((Below.refl _ _).alloc (Nat.le_refl _) _) r1_3, far6 ((Below.refl _ _).alloc (Nat.le_refl _) _) r2_3, far6 ((Below.refl _ _).alloc (Nat.le_refl _) _) r3_3, far6 ((Below.refl _ _).alloc (Nat.le_refl _) _) r4_3, far6 ((Below.refl _ _).alloc (Nat.le_refl _) _) r5_3, far6 ((Below.refl _ _).alloc (Nat.le_refl _) _) r6_3⟩
                first
                  | (have ZB3_0 := ZB2_0.belowS G3)
                  | (have ZB3_1 := ZB2_1.belowS G3)
                  | (have ZB3_2 := zb3 hb3)
                  | (have ZB3_2 := zb3d hb3)
                  | (have ZB3_2 := zb3e hb3)
                  | skip
                first
                  | (have KP : Hid (((((y3).setCell ⟨w2.heap.size, 0, none⟩ (.int .i64 q.k)).setCell ⟨w2.heap.size, 1, none⟩ (.int .i64 q.n)).setCell ⟨w2.heap.size, 2, none⟩ (.string q.t)).cell? ⟨w.heap.size, 0, none⟩ = some (.int .i64 i) ∧ ((((y3).setCell ⟨w2.heap.size, 0, none⟩ (.int .i64 q.k)).setCell ⟨w2.heap.size, 1, none⟩ (.int .i64 q.n)).setCell ⟨w2.heap.size, 2, none⟩ (.string q.t)).cell? ⟨w.heap.size, 1, none⟩ = some (.int .i64 u.1) ∧ ((((y3).setCell ⟨w2.heap.size, 0, none⟩ (.int .i64 q.k)).setCell ⟨w2.heap.size, 1, none⟩ (.int .i64 q.n)).setCell ⟨w2.heap.size, 2, none⟩ (.string q.t)).cell? ⟨w.heap.size, 2, none⟩ = some (.int .i64 u.2.1) ∧ ((((y3).setCell ⟨w2.heap.size, 0, none⟩ (.int .i64 q.k)).setCell ⟨w2.heap.size, 1, none⟩ (.int .i64 q.n)).setCell ⟨w2.heap.size, 2, none⟩ (.string q.t)).cell? ⟨w.heap.size, 3, none⟩ = some (.string u.2.2) ∧ ((((y3).setCell ⟨w2.heap.size, 0, none⟩ (.int .i64 q.k)).setCell ⟨w2.heap.size, 1, none⟩ (.int .i64 q.n)).setCell ⟨w2.heap.size, 2, none⟩ (.string q.t)).cell? ⟨w.heap.size, 4, none⟩ = some (.int .i64 v.1) ∧ ((((y3).setCell ⟨w2.heap.size, 0, none⟩ (.int .i64 q.k)).setCell ⟨w2.heap.size, 1, none⟩ (.int .i64 q.n)).setCell ⟨w2.heap.size, 2, none⟩ (.string q.t)).cell? ⟨w.heap.size, 5, none⟩ = some (.int .i64 v.2.1) ∧ ((((y3).setCell ⟨w2.heap.size, 0, none⟩ (.int .i64 q.k)).setCell ⟨w2.heap.size, 1, none⟩ (.int .i64 q.n)).setCell ⟨w2.heap.size, 2, none⟩ (.string q.t)).cell? ⟨w.heap.size, 6, none⟩ = some (.string v.2.2)) := ⟨(put3_cell _ _ _ _ _ _ _ (by omega)).trans r0_3, (put3_cell _ _ _ _ _ _ _ (by omega)).trans r1_3, (put3_cell _ _ _ _ _ _ _ (by omega)).trans r2_3, (put3_cell _ _ _ _ _ _ _ (by omega)).trans r3_3, (put3_cell _ _ _ _ _ _ _ (by omega)).trans r4_3, (put3_cell _ _ _ _ _ _ _ (by omega)).trans r5_3, (put3_cell _ _ _ _ _ _ _ (by omega)).trans r6_3⟩
                     have lB := ZB3_0.lt
                     obtain ⟨zc0, zc1, zc2⟩ := box3 ZB3_0
                     have zt0 := ZB3_0.thaw 0
                     have zt1 := ZB3_0.thaw 1
                     have zt2 := ZB3_0.thaw 2
                     skip)
                  | (have KP : Hid (((((y3).setCell ⟨y1.heap.size, 0, none⟩ (.int .i64 q.k)).setCell ⟨y1.heap.size, 1, none⟩ (.int .i64 q.n)).setCell ⟨y1.heap.size, 2, none⟩ (.string q.t)).cell? ⟨w.heap.size, 0, none⟩ = some (.int .i64 i) ∧ ((((y3).setCell ⟨y1.heap.size, 0, none⟩ (.int .i64 q.k)).setCell ⟨y1.heap.size, 1, none⟩ (.int .i64 q.n)).setCell ⟨y1.heap.size, 2, none⟩ (.string q.t)).cell? ⟨w.heap.size, 1, none⟩ = some (.int .i64 u.1) ∧ ((((y3).setCell ⟨y1.heap.size, 0, none⟩ (.int .i64 q.k)).setCell ⟨y1.heap.size, 1, none⟩ (.int .i64 q.n)).setCell ⟨y1.heap.size, 2, none⟩ (.string q.t)).cell? ⟨w.heap.size, 2, none⟩ = some (.int .i64 u.2.1) ∧ ((((y3).setCell ⟨y1.heap.size, 0, none⟩ (.int .i64 q.k)).setCell ⟨y1.heap.size, 1, none⟩ (.int .i64 q.n)).setCell ⟨y1.heap.size, 2, none⟩ (.string q.t)).cell? ⟨w.heap.size, 3, none⟩ = some (.string u.2.2) ∧ ((((y3).setCell ⟨y1.heap.size, 0, none⟩ (.int .i64 q.k)).setCell ⟨y1.heap.size, 1, none⟩ (.int .i64 q.n)).setCell ⟨y1.heap.size, 2, none⟩ (.string q.t)).cell? ⟨w.heap.size, 4, none⟩ = some (.int .i64 v.1) ∧ ((((y3).setCell ⟨y1.heap.size, 0, none⟩ (.int .i64 q.k)).setCell ⟨y1.heap.size, 1, none⟩ (.int .i64 q.n)).setCell ⟨y1.heap.size, 2, none⟩ (.string q.t)).cell? ⟨w.heap.size, 5, none⟩ = some (.int .i64 v.2.1) ∧ ((((y3).setCell ⟨y1.heap.size, 0, none⟩ (.int .i64 q.k)).setCell ⟨y1.heap.size, 1, none⟩ (.int .i64 q.n)).setCell ⟨y1.heap.size, 2, none⟩ (.string q.t)).cell? ⟨w.heap.size, 6, none⟩ = some (.string v.2.2)) := ⟨(put3_cell _ _ _ _ _ _ _ (by omega)).trans r0_3, (put3_cell _ _ _ _ _ _ _ (by omega)).trans r1_3, (put3_cell _ _ _ _ _ _ _ (by omega)).trans r2_3, (put3_cell _ _ _ _ _ _ _ (by omega)).trans r3_3, (put3_cell _ _ _ _ _ _ _ (by omega)).trans r4_3, (put3_cell _ _ _ _ _ _ _ (by omega)).trans r5_3, (put3_cell _ _ _ _ _ _ _ (by omega)).trans r6_3⟩
                     have lB := ZB3_1.lt
                     obtain ⟨zc0, zc1, zc2⟩ := box3 ZB3_1
                     have zt0 := ZB3_1.thaw 0
                     have zt1 := ZB3_1.thaw 1
                     have zt2 := ZB3_1.thaw 2
                     skip)
                  | (have KP : Hid (((((y3).setCell ⟨y2.heap.size, 0, none⟩ (.int .i64 q.k)).setCell ⟨y2.heap.size, 1, none⟩ (.int .i64 q.n)).setCell ⟨y2.heap.size, 2, none⟩ (.string q.t)).cell? ⟨w.heap.size, 0, none⟩ = some (.int .i64 i) ∧ ((((y3).setCell ⟨y2.heap.size, 0, none⟩ (.int .i64 q.k)).setCell ⟨y2.heap.size, 1, none⟩ (.int .i64 q.n)).setCell ⟨y2.heap.size, 2, none⟩ (.string q.t)).cell? ⟨w.heap.size, 1, none⟩ = some (.int .i64 u.1) ∧ ((((y3).setCell ⟨y2.heap.size, 0, none⟩ (.int .i64 q.k)).setCell ⟨y2.heap.size, 1, none⟩ (.int .i64 q.n)).setCell ⟨y2.heap.size, 2, none⟩ (.string q.t)).cell? ⟨w.heap.size, 2, none⟩ = some (.int .i64 u.2.1) ∧ ((((y3).setCell ⟨y2.heap.size, 0, none⟩ (.int .i64 q.k)).setCell ⟨y2.heap.size, 1, none⟩ (.int .i64 q.n)).setCell ⟨y2.heap.size, 2, none⟩ (.string q.t)).cell? ⟨w.heap.size, 3, none⟩ = some (.string u.2.2) ∧ ((((y3).setCell ⟨y2.heap.size, 0, none⟩ (.int .i64 q.k)).setCell ⟨y2.heap.size, 1, none⟩ (.int .i64 q.n)).setCell ⟨y2.heap.size, 2, none⟩ (.string q.t)).cell? ⟨w.heap.size, 4, none⟩ = some (.int .i64 v.1) ∧ ((((y3).setCell ⟨y2.heap.size, 0, none⟩ (.int .i64 q.k)).setCell ⟨y2.heap.size, 1, none⟩ (.int .i64 q.n)).setCell ⟨y2.heap.size, 2, none⟩ (.string q.t)).cell? ⟨w.heap.size, 5, none⟩ = some (.int .i64 v.2.1) ∧ ((((y3).setCell ⟨y2.heap.size, 0, none⟩ (.int .i64 q.k)).setCell ⟨y2.heap.size, 1, none⟩ (.int .i64 q.n)).setCell ⟨y2.heap.size, 2, none⟩ (.string q.t)).cell? ⟨w.heap.size, 6, none⟩ = some (.string v.2.2)) := ⟨(put3_cell _ _ _ _ _ _ _ (by omega)).trans r0_3, (put3_cell _ _ _ _ _ _ _ (by omega)).trans r1_3, (put3_cell _ _ _ _ _ _ _ (by omega)).trans r2_3, (put3_cell _ _ _ _ _ _ _ (by omega)).trans r3_3, (put3_cell _ _ _ _ _ _ _ (by omega)).trans r4_3, (put3_cell _ _ _ _ _ _ _ (by omega)).trans r5_3, (put3_cell _ _ _ _ _ _ _ (by omega)).trans r6_3⟩
                     have lB := ZB3_2.lt
                     obtain ⟨zc0, zc1, zc2⟩ := box3 ZB3_2
                     have zt0 := ZB3_2.thaw 0
                     have zt1 := ZB3_2.thaw 1
                     have zt2 := ZB3_2.thaw 2
                     skip)
                  | skip))
    all_goals (clear Kc1 Ka1 Kc2 Ka2 Kc3 Ka3 Kb3 Kd0 Ke0 Kf0 r0_1 r1_1 r2_1 r3_1 r4_1 r5_1 r6_1 r0_2 r1_2 r2_2 r3_2 r4_2 r5_2 r6_2 r0_3 r1_3 r2_3 r3_3 r4_3 r5_3 r6_3)
    all_goals (clear r0 r1 r2 r3 r4 r5 r6)
    all_goals (go_wp2_with fail; go_meet)
    all_goals first
      | with_reducible exact cutE_new H3
      | with_reducible exact cutE_put H3 ZB3_0 (by omega)
      | with_reducible exact cutE_put H3 ZB3_1 (by omega)
      | with_reducible exact cutE_put H3 ZB3_2 (by omega)
  case rest =>
    rename World => w3
    obtain ⟨gb, rfl, rfl, hb, hgb, wbx⟩ := hcut
    have B3 : Hid (Below w.heap.size w w3) := B2.out.trans (hb.mono B2.out.size)
    have R3 : Hid (Box w3 w.heap.size 26 #[.int .i64 i, .int .i64 u.1, .int .i64 u.2.1, .string u.2.2, .int .i64 v.1, .int .i64 v.2.1, .string v.2.2]) := R2.out.belowS hb
    have W3 : Hid (Box w3 gb 29 #[.int .i64 q.k, .int .i64 q.n, .string q.t]) := wbx
    clear hb hgb wbx B2 R2 r0 r1 r2 r3 r4 r5 r6 CS l2
    go_wp2_with fail
    refine (CT.out w3 B3.out).mono ?_
    rintro e w4 ⟨⟨gx, rfl, rx⟩, hb⟩
    have B4 : Hid (Below w.heap.size w w4) := B3.out.trans (hb.mono B3.out.size)
    have R4 : Hid (Box w4 w.heap.size 26 #[.int .i64 i, .int .i64 u.1, .int .i64 u.2.1, .string u.2.2, .int .i64 v.1, .int .i64 v.2.1, .string v.2.2]) := R3.out.belowS hb
    have W4 : Hid (Box w4 gb 29 #[.int .i64 q.k, .int .i64 q.n, .string q.t]) := W3.out.belowS hb
    have RX4 : Hid (RdI w4 (some ⟨gx, 0, none⟩) n L) := rx
    clear hb B3 R3 W3 rx
    obtain ⟨r0, r1, r2, r3, r4, r5, r6⟩ := box7 R4.out
    go_wp2_with fail
    refine (c_toRow i u v w4).mono ?_
    rintro e w5 ⟨rfl, hb⟩
    have B5 : Hid (Below w.heap.size w w5) := B4.out.trans (hb.mono B4.out.size)
    have W5 : Hid (Box w5 gb 29 #[.int .i64 q.k, .int .i64 q.n, .string q.t]) := W4.out.belowS hb
    have RX5 : Hid (RdI w5 (some ⟨gx, 0, none⟩) n L) := RX4.out.below hb
    clear hb B4 R4 W4 RX4 r0 r1 r2 r3 r4 r5 r6
    go_wp2_with fail
    refine (CI.out w5 gx RX5.out (HT.out.below B5.out)).mono ?_
    rintro e w6 ⟨rfl, hb⟩
    obtain ⟨W7, hW7⟩ : ∃ W, w6.alloc (.cells #[.int .i64 q.k, .int .i64 q.n, .string q.t] 29) = W := ⟨_, rfl⟩
    have b7 : Below w6.heap.size w6 W7 := by rw [← hW7]; exact (Below.refl _ _).alloc (Nat.le_refl _) _
    have hb7 : Below w5.heap.size w5 W7 := hb.trans (b7.mono hb.size)
    have B6 : Hid (Below w.heap.size w W7) := B5.out.trans (hb7.mono B5.out.size)
    have W6 : Box W7 gb 29 #[.int .i64 q.k, .int .i64 q.n, .string q.t] := W5.out.belowS hb7
    have G6 : Box W7 w6.heap.size 29 #[.int .i64 q.k, .int .i64 q.n, .string q.t] := by rw [← hW7]; exact Box.new _ _ _
    have RX6 : Hid (RdI W7 (some ⟨gx, 0, none⟩) n L) := RX5.out.below hb7
    clear hb b7 hb7 B5 W5 RX5 CI
    have nc : (q.c != q.c) = false := by simp
    obtain ⟨q0, q1, q2⟩ := box3 W6
    obtain ⟨p0, p1, p2⟩ := box3 G6
    clear W6 G6
    go_wp2_with fail
    refine (c_eqV1 _ _ _ _).mono ?_
    rintro e w7 ⟨rfl, hb⟩
    have B7 : Hid (Below w.heap.size w w7) := B6.out.trans (hb.mono B6.out.size)
    have RX7 : Hid (RdI w7 (some ⟨gx, 0, none⟩) n L) := RX6.out.below hb
    clear hb q0 q1 q2 p0 p1 p2 B6 RX6 hW7
    go_wp2_with fail
    refine (CT.out w7 B7.out).mono ?_
    rintro e w8 ⟨⟨g8, rfl, r8⟩, hb⟩
    have B8 : Hid (Below w.heap.size w w8) := B7.out.trans (hb.mono B7.out.size)
    have R8 : Hid (RdI w8 (some ⟨g8, 0, none⟩) n L) := r8
    have RX8 : Hid (RdI w8 (some ⟨gx, 0, none⟩) n L) := RX7.out.below hb
    clear hb r8 B7 RX7 CT
    go_wp2_with fail
    refine (CE.out w8 gx g8 RX8.out R8.out).mono ?_
    rintro e w9 ⟨rfl, hb⟩
    have B9 : Hid (Below w.heap.size w w9) := B8.out.trans (hb.mono B8.out.size)
    clear hb
    go_wp2
    go_ret
    exact ⟨rfl, B9.out⟩

end Go.Proofs.YtcgcaomaofppiaaDoor
