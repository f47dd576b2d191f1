/-
  StmtText: the law.
-/
import Derived.Test.YtknjglgellhchaaDoorVd
import Derived.Test.YtknjglgellhchaaDoorSd
import Derived.Deep.RegionHeld3
import Derived.Deep.DrawnRows
namespace Go.Proofs.YtknjglgellhchaaDoor
open Go Go.RowKit
attribute [local go_sem ↓] Go.wp_at_zero Go.wp_at_succ

set_option linter.unusedVariables false
set_option linter.unusedSimpArgs false
set_option maxRecDepth 100000 in
set_option maxHeartbeats 4000000 in
theorem law_FnExactStmtText (k tb i : Int) (u v : VV) (c : Int) (sa : Option Addr) (sn sc : Nat) (wa : Option Addr) (wn wc : Nat) (o : Int) (d : Bool) (LS LW : List EN) (w : World) (h1 : u.2.2.size ≤ maxLen) (h2 : v.2.2.size ≤ maxLen) (s1 : sn ≤ maxLen) (s2 : RdE w sa sn LS) (s3 : ∀ x ∈ LS, x.t.size ≤ maxLen) (w1 : wn ≤ maxLen) (w2 : RdE w wa wn LW) (w3 : ∀ x ∈ LW, x.t.size ≤ maxLen) (T : TabX w) :
    Calls Tryd.prog 5 #[.agg #[.int .i64 k, .int .i64 tb, .int .i64 i, .int .i64 u.1, .int .i64 u.2.1, .string u.2.2, .int .i64 v.1, .int .i64 v.2.1, .string v.2.2, .int .i64 c, .slice sa sn sc, .slice wa wn wc, .int .i64 o, .bool d]] w fun e w' => e = .returned (.bool true) ∧ Below w.heap.size w w' := by
  obtain ⟨V, hV⟩ : ∃ V, w.alloc (.cells #[.int .i64 k, .int .i64 tb, .int .i64 i, .int .i64 u.1, .int .i64 u.2.1, .string u.2.2, .int .i64 v.1, .int .i64 v.2.1, .string v.2.2, .int .i64 c, .slice sa sn sc, .slice wa wn wc, .int .i64 o, .bool d] 45) = V := ⟨_, rfl⟩
  have B0 : Hid (Below w.heap.size w V) := by unfold Hid; rw [← hV]; exact (Below.refl _ _).alloc (Nat.le_refl _) _
  have X0 : Hid (Box V w.heap.size 45 #[.int .i64 k, .int .i64 tb, .int .i64 i, .int .i64 u.1, .int .i64 u.2.1, .string u.2.2, .int .i64 v.1, .int .i64 v.2.1, .string v.2.2, .int .i64 c, .slice sa sn sc, .slice wa wn wc, .int .i64 o, .bool d]) := by unfold Hid; rw [← hV]; exact Box.new _ _ _
  have C1 := c_szStmt k tb i u v c sa sn sc wa wn wc o d LS LW V h1 h2 s1 (s2.below B0.out) s3 w1 (w2.below B0.out) w3 1048576 (by omega) (by omega)
  have HQ : Hid (u.2.2.size ≤ maxLen ∧ v.2.2.size ≤ maxLen ∧ RdE w sa sn LS ∧ (∀ x ∈ LS, x.t.size ≤ maxLen) ∧ RdE w wa wn LW ∧ (∀ x ∈ LW, x.t.size ≤ maxLen)) := ⟨h1, h2, s2, s3, w2, w3⟩
  have HT : Hid (TabX w) := T
  clear h1 h2 s1 s2 s3 w1 w2 w3 T
  obtain ⟨x0, x1, x2, x3, x4, x5, x6, x7, x8, x9, x10, x11, x12, x13⟩ := box14 X0.out
  go_enter Tryd.func5, Tryd.ntmps5
  go_wp2_with fail
  refine C1.mono ?_
  rintro e W1 ⟨⟨z, rfl, hzn⟩, hb⟩
  have B1 : Hid (Below w.heap.size w W1) := B0.out.trans (hb.mono B0.out.size)
  have X1 : Hid (Box W1 w.heap.size 45 #[.int .i64 k, .int .i64 tb, .int .i64 i, .int .i64 u.1, .int .i64 u.2.1, .string u.2.2, .int .i64 v.1, .int .i64 v.2.1, .string v.2.2, .int .i64 c, .slice sa sn sc, .slice wa wn wc, .int .i64 o, .bool d]) := X0.out.belowS hb
  clear hb B0 X0 C1 hV x0 x1 x2 x3 x4 x5 x6 x7 x8 x9 x10 x11 x12 x13
  by_cases hneg : z < 0
  · clear hzn
    go_wp2
    go_ret
    exact ⟨rfl, B1.out⟩
  obtain ⟨hsn, hwn⟩ := hzn (by omega)
  have CT : Hid (∀ W, Below w.heap.size w W → Calls Tryd.prog 19 #[.agg #[.int .i64 k, .int .i64 tb, .int .i64 i, .int .i64 u.1, .int .i64 u.2.1, .string u.2.2, .int .i64 v.1, .int .i64 v.2.1, .string v.2.2, .int .i64 c, .slice sa sn sc, .slice wa wn wc, .int .i64 o, .bool d]] W fun e w' => (∃ sb wb : Nat, e = .returned (.agg #[.int .i64 k, .int .i64 tb, .int .i64 i, .int .i64 u.1, .int .i64 u.2.1, .string u.2.2, .int .i64 v.1, .int .i64 v.2.1, .string v.2.2, .int .i64 c, .slice (some ⟨sb, 0, none⟩) sn sn, .slice (some ⟨wb, 0, none⟩) wn wn, .int .i64 o, .bool d]) ∧ RdE w' (some ⟨sb, 0, none⟩) sn LS ∧ RdE w' (some ⟨wb, 0, none⟩) wn LW) ∧ Below W.heap.size W w') := fun W hW => c_toStmt k tb i u v c sa sn sc wa wn wc o d LS LW W (HQ.out.2.2.1.below hW) hsn (HQ.out.2.2.2.2.1.below hW) hwn
  have CS : Hid (∀ W (sb wb : Nat), RdE W (some ⟨sb, 0, none⟩) sn LS → RdE W (some ⟨wb, 0, none⟩) wn LW → Calls Tryd.prog 18 #[.agg #[.int .i64 k, .int .i64 tb, .int .i64 i, .int .i64 u.1, .int .i64 u.2.1, .string u.2.2, .int .i64 v.1, .int .i64 v.2.1, .string v.2.2, .int .i64 c, .slice (some ⟨sb, 0, none⟩) sn sn, .slice (some ⟨wb, 0, none⟩) wn wn, .int .i64 o, .bool d]] W fun e w' => e = .returned (.tuple #[.string (stS k tb i u v c LS sn LW wn o d), .int .i64 (stE k tb i u v c LS sn LW wn o d)]) ∧ Below W.heap.size W w') := fun W sb wb r1 r2 => c_specStT k tb i u v c _ sn sn _ wn wn o d LS LW W HQ.out.1 HQ.out.2.1 r1 hsn HQ.out.2.2.2.1 r2 hwn HQ.out.2.2.2.2.2
  have CI : Hid (∀ W (sb wb : Nat), TabX W → RdE W (some ⟨sb, 0, none⟩) sn LS → RdE W (some ⟨wb, 0, none⟩) wn LW → Calls Tryd.prog 20 #[.agg #[.int .i64 k, .int .i64 tb, .int .i64 i, .int .i64 u.1, .int .i64 u.2.1, .string u.2.2, .int .i64 v.1, .int .i64 v.2.1, .string v.2.2, .int .i64 c, .slice (some ⟨sb, 0, none⟩) sn sn, .slice (some ⟨wb, 0, none⟩) wn wn, .int .i64 o, .bool d]] W fun e w' => e = .returned (.tuple #[.string (stS k tb i u v c LS sn LW wn o d), .int .i64 (stE k tb i u v c LS sn LW wn o d)]) ∧ Below W.heap.size W w') := fun W sb wb t r1 r2 => c_implStT k tb i u v c _ sn sn _ wn wn o d LS LW W HQ.out.1 HQ.out.2.1 r1 hsn HQ.out.2.2.2.1 r2 hwn HQ.out.2.2.2.2.2 t
  have CE : Hid (∀ W (s1 w1 s2 w2 : Nat), RdE W (some ⟨s1, 0, none⟩) sn LS → RdE W (some ⟨w1, 0, none⟩) wn LW → RdE W (some ⟨s2, 0, none⟩) sn LS → RdE W (some ⟨w2, 0, none⟩) wn LW → Calls Tryd.prog 21 #[.agg #[.int .i64 k, .int .i64 tb, .int .i64 i, .int .i64 u.1, .int .i64 u.2.1, .string u.2.2, .int .i64 v.1, .int .i64 v.2.1, .string v.2.2, .int .i64 c, .slice (some ⟨s1, 0, none⟩) sn sn, .slice (some ⟨w1, 0, none⟩) wn wn, .int .i64 o, .bool d], .agg #[.int .i64 k, .int .i64 tb, .int .i64 i, .int .i64 u.1, .int .i64 u.2.1, .string u.2.2, .int .i64 v.1, .int .i64 v.2.1, .string v.2.2, .int .i64 c, .slice (some ⟨s2, 0, none⟩) sn sn, .slice (some ⟨w2, 0, none⟩) wn wn, .int .i64 o, .bool d]] W fun e w' => e = .returned (.bool true) ∧ Below W.heap.size W w') := fun W s1 w1 s2 w2 r1 r2 r3 r4 => c_eqStmt k tb i u v c _ sn sn _ wn wn o d _ sn _ wn LS LW W r1 r3 hsn r2 r4 hwn
  obtain ⟨xs, hxs⟩ : ∃ b, b = stS k tb i u v c LS sn LW wn o d := ⟨_, rfl⟩
  obtain ⟨xe, hxe⟩ : ∃ b, b = stE k tb i u v c LS sn LW wn o d := ⟨_, rfl⟩
  rw [← hxs, ← hxe] at CS CI
  clear hzn HQ hxs hxe
  obtain ⟨x0, x1, x2, x3, x4, x5, x6, x7, x8, x9, x10, x11, x12, x13⟩ := box14 X1.out
  have D1 := CT.out W1 B1.out
  go_wp2_with fail
  refine D1.mono ?_
  rintro e W2 ⟨⟨sb2, wb2, rfl, r2, q2⟩, hb⟩
  have B2 : Hid (Below w.heap.size w W2) := B1.out.trans (hb.mono B1.out.size)
  have X2 : Hid (Box W2 w.heap.size 45 #[.int .i64 k, .int .i64 tb, .int .i64 i, .int .i64 u.1, .int .i64 u.2.1, .string u.2.2, .int .i64 v.1, .int .i64 v.2.1, .string v.2.2, .int .i64 c, .slice sa sn sc, .slice wa wn wc, .int .i64 o, .bool d]) := X1.out.belowS hb
  have CS2 := CS.out W2 sb2 wb2 r2 q2
  clear hb B1 X1 CS r2 q2 D1 x0 x1 x2 x3 x4 x5 x6 x7 x8 x9 x10 x11 x12 x13
  go_wp2_with fail
  refine CS2.mono ?_
  rintro e W3 ⟨rfl, hb⟩
  have B3 : Hid (Below w.heap.size w W3) := B2.out.trans (hb.mono B2.out.size)
  have X3 : Hid (Box W3 w.heap.size 45 #[.int .i64 k, .int .i64 tb, .int .i64 i, .int .i64 u.1, .int .i64 u.2.1, .string u.2.2, .int .i64 v.1, .int .i64 v.2.1, .string v.2.2, .int .i64 c, .slice sa sn sc, .slice wa wn wc, .int .i64 o, .bool d]) := X2.out.belowS hb
  clear hb B2 X2 CS2
  obtain ⟨x0, x1, x2, x3, x4, x5, x6, x7, x8, x9, x10, x11, x12, x13⟩ := box14 X3.out
  have D3 := CT.out W3 B3.out
  go_wp2_with fail
  refine D3.mono ?_
  rintro e W4 ⟨⟨xb, yb, rfl, rx, ry⟩, hb⟩
  have B4 : Hid (Below w.heap.size w W4) := B3.out.trans (hb.mono B3.out.size)
  have X4 : Hid (Box W4 w.heap.size 45 #[.int .i64 k, .int .i64 tb, .int .i64 i, .int .i64 u.1, .int .i64 u.2.1, .string u.2.2, .int .i64 v.1, .int .i64 v.2.1, .string v.2.2, .int .i64 c, .slice sa sn sc, .slice wa wn wc, .int .i64 o, .bool d]) := X3.out.belowS hb
  have RX4 : Hid (RdE W4 (some ⟨xb, 0, none⟩) sn LS ∧ RdE W4 (some ⟨yb, 0, none⟩) wn LW) := ⟨rx, ry⟩
  clear hb B3 X3 rx ry D3 x0 x1 x2 x3 x4 x5 x6 x7 x8 x9 x10 x11 x12 x13
  obtain ⟨W5, hw5⟩ : ∃ W, W4.alloc (.cells #[.int .i64 k, .int .i64 tb, .int .i64 i, .int .i64 u.1, .int .i64 u.2.1, .string u.2.2, .int .i64 v.1, .int .i64 v.2.1, .string v.2.2, .int .i64 c, .slice (some ⟨xb, 0, none⟩) sn sn, .slice (some ⟨yb, 0, none⟩) wn wn, .int .i64 o, .bool d] 52) = W := ⟨_, rfl⟩
  have hb : Below W4.heap.size W4 W5 := by rw [← hw5]; exact (Below.refl _ _).alloc (Nat.le_refl _) _
  have B5 : Hid (Below w.heap.size w W5) := B4.out.trans (hb.mono B4.out.size)
  have X5 : Hid (Box W5 w.heap.size 45 #[.int .i64 k, .int .i64 tb, .int .i64 i, .int .i64 u.1, .int .i64 u.2.1, .string u.2.2, .int .i64 v.1, .int .i64 v.2.1, .string v.2.2, .int .i64 c, .slice sa sn sc, .slice wa wn wc, .int .i64 o, .bool d]) := X4.out.belowS hb
  have Y5 : Hid (Box W5 W4.heap.size 52 #[.int .i64 k, .int .i64 tb, .int .i64 i, .int .i64 u.1, .int .i64 u.2.1, .string u.2.2, .int .i64 v.1, .int .i64 v.2.1, .string v.2.2, .int .i64 c, .slice (some ⟨xb, 0, none⟩) sn sn, .slice (some ⟨yb, 0, none⟩) wn wn, .int .i64 o, .bool d]) := by unfold Hid; rw [← hw5]; exact Box.new _ _ _
  have RX5 : Hid (RdE W5 (some ⟨xb, 0, none⟩) sn LS ∧ RdE W5 (some ⟨yb, 0, none⟩) wn LW) := ⟨RX4.out.1.below hb, RX4.out.2.below hb⟩
  have C5 := CI.out W5 xb yb (HT.out.below B5.out) RX5.out.1 RX5.out.2
  clear hb B4 X4 RX4 CI
  obtain ⟨y0, y1, y2, y3, y4, y5, y6, y7, y8, y9, y10, y11, y12, y13⟩ := box14 Y5.out
  go_wp2_with fail
  refine C5.mono ?_
  rintro e W6 ⟨rfl, hb⟩
  have B6 : Hid (Below w.heap.size w W6) := B5.out.trans (hb.mono B5.out.size)
  have X6 : Hid (Box W6 w.heap.size 45 #[.int .i64 k, .int .i64 tb, .int .i64 i, .int .i64 u.1, .int .i64 u.2.1, .string u.2.2, .int .i64 v.1, .int .i64 v.2.1, .string v.2.2, .int .i64 c, .slice sa sn sc, .slice wa wn wc, .int .i64 o, .bool d]) := X5.out.belowS hb
  have Y6 : Hid (Box W6 W4.heap.size 52 #[.int .i64 k, .int .i64 tb, .int .i64 i, .int .i64 u.1, .int .i64 u.2.1, .string u.2.2, .int .i64 v.1, .int .i64 v.2.1, .string v.2.2, .int .i64 c, .slice (some ⟨xb, 0, none⟩) sn sn, .slice (some ⟨yb, 0, none⟩) wn wn, .int .i64 o, .bool d]) := Y5.out.belowS hb
  have RX6 : Hid (RdE W6 (some ⟨xb, 0, none⟩) sn LS ∧ RdE W6 (some ⟨yb, 0, none⟩) wn LW) := ⟨RX5.out.1.below hb, RX5.out.2.below hb⟩
  clear hb B5 X5 Y5 RX5 C5 hw5 y0 y1 y2 y3 y4 y5 y6 y7 y8 y9 y10 y11 y12 y13
  have nn : (xe != xe) = false := by simp
  have ns : (xs.toList == xs.toList) = true := by simp
  obtain ⟨x0, x1, x2, x3, x4, x5, x6, x7, x8, x9, x10, x11, x12, x13⟩ := box14 X6.out
  obtain ⟨y0, y1, y2, y3, y4, y5, y6, y7, y8, y9, y10, y11, y12, y13⟩ := box14 Y6.out
  go_wp2_with fail
  go_region_held3 (fun x => x.cell? ⟨w.heap.size, 0, none⟩ = some (.int .i64 k) ∧ x.cell? ⟨w.heap.size, 1, none⟩ = some (.int .i64 tb) ∧ x.cell? ⟨w.heap.size, 2, none⟩ = some (.int .i64 i) ∧ x.cell? ⟨w.heap.size, 3, none⟩ = some (.int .i64 u.1) ∧ x.cell? ⟨w.heap.size, 4, none⟩ = some (.int .i64 u.2.1) ∧ x.cell? ⟨w.heap.size, 5, none⟩ = some (.string u.2.2) ∧ x.cell? ⟨w.heap.size, 6, none⟩ = some (.int .i64 v.1) ∧ x.cell? ⟨w.heap.size, 7, none⟩ = some (.int .i64 v.2.1) ∧ x.cell? ⟨w.heap.size, 8, none⟩ = some (.string v.2.2) ∧ x.cell? ⟨w.heap.size, 9, none⟩ = some (.int .i64 c) ∧ x.cell? ⟨w.heap.size, 10, none⟩ = some (.slice sa sn sc) ∧ x.cell? ⟨w.heap.size, 11, none⟩ = some (.slice wa wn wc) ∧ x.cell? ⟨w.heap.size, 12, none⟩ = some (.int .i64 o) ∧ x.cell? ⟨w.heap.size, 13, none⟩ = some (.bool d) ∧ x.cell? ⟨W4.heap.size, 0, none⟩ = some (.int .i64 k) ∧ x.cell? ⟨W4.heap.size, 1, none⟩ = some (.int .i64 tb) ∧ x.cell? ⟨W4.heap.size, 2, none⟩ = some (.int .i64 i) ∧ x.cell? ⟨W4.heap.size, 3, none⟩ = some (.int .i64 u.1) ∧ x.cell? ⟨W4.heap.size, 4, none⟩ = some (.int .i64 u.2.1) ∧ x.cell? ⟨W4.heap.size, 5, none⟩ = some (.string u.2.2) ∧ x.cell? ⟨W4.heap.size, 6, none⟩ = some (.int .i64 v.1) ∧ x.cell? ⟨W4.heap.size, 7, none⟩ = some (.int .i64 v.2.1) ∧ x.cell? ⟨W4.heap.size, 8, none⟩ = some (.string v.2.2) ∧ x.cell? ⟨W4.heap.size, 9, none⟩ = some (.int .i64 c) ∧ x.cell? ⟨W4.heap.size, 10, none⟩ = some (.slice (some ⟨xb, 0, none⟩) sn sn) ∧ x.cell? ⟨W4.heap.size, 11, none⟩ = some (.slice (some ⟨yb, 0, none⟩) wn wn) ∧ x.cell? ⟨W4.heap.size, 12, none⟩ = some (.int .i64 o) ∧ x.cell? ⟨W4.heap.size, 13, none⟩ = some (.bool d))
    (first | exact ⟨far6 hb8 (far6 hb7 x0), far6 hb8 (far6 hb7 x1), far6 hb8 (far6 hb7 x2), far6 hb8 (far6 hb7 x3), far6 hb8 (far6 hb7 x4), far6 hb8 (far6 hb7 x5), far6 hb8 (far6 hb7 x6), far6 hb8 (far6 hb7 x7), far6 hb8 (far6 hb7 x8), far6 hb8 (far6 hb7 x9), far6 hb8 (far6 hb7 x10), far6 hb8 (far6 hb7 x11), far6 hb8 (far6 hb7 x12), far6 hb8 (far6 hb7 x13), far6 hb8 (far6 hb7 y0), far6 hb8 (far6 hb7 y1), far6 hb8 (far6 hb7 y2), far6 hb8 (far6 hb7 y3), far6 hb8 (far6 hb7 y4), far6 hb8 (far6 hb7 y5), far6 hb8 (far6 hb7 y6), far6 hb8 (far6 hb7 y7), far6 hb8 (far6 hb7 y8), far6 hb8 (far6 hb7 y9), far6 hb8 (far6 hb7 y10), far6 hb8 (far6 hb7 y11), far6 hb8 (far6 hb7 y12), far6 hb8 (far6 hb7 y13)⟩ | exact ⟨far6 hb7 x0, far6 hb7 x1, far6 hb7 x2, far6 hb7 x3, far6 hb7 x4, far6 hb7 x5, far6 hb7 x6, far6 hb7 x7, far6 hb7 x8, far6 hb7 x9, far6 hb7 x10, far6 hb7 x11, far6 hb7 x12, far6 hb7 x13, far6 hb7 y0, far6 hb7 y1, far6 hb7 y2, far6 hb7 y3, far6 hb7 y4, far6 hb7 y5, far6 hb7 y6, far6 hb7 y7, far6 hb7 y8, far6 hb7 y9, far6 hb7 y10, far6 hb7 y11, far6 hb7 y12, far6 hb7 y13⟩ | go_keep)
    (first | (go_at_call 19; refine (CT.out _ (below_drewN B6.out _)).mono ?_; rintro e wa ⟨⟨s7, w7, rfl, r7, q7⟩, hb7⟩)
           | (go_at_call 21; refine (CE.out _ _ _ _ _ (RX6.out.1.below ((Below.refl _ _).drew.trans hb7)) (RX6.out.2.below ((Below.refl _ _).drew.trans hb7)) r7 q7).mono ?_; rintro e w8 ⟨rfl, hb8⟩))
  have hb : Below W6.heap.size W6 w8 := ((Below.refl W6.heap.size W6).drew.trans hb7).trans (hb8.mono hb7.size)
  have B8 : Hid (Below w.heap.size w w8) := B6.out.trans (hb.mono B6.out.size)
  clear hb hb7 hb8 r7 q7
  go_wp2
  go_ret
  exact ⟨rfl, B8.out⟩

end Go.Proofs.YtknjglgellhchaaDoor
