/-
  Rows compared by a column.
-/
import Derived.Test.YtlapmidiakaimaaRa
import Derived.Test.YtlapmidiakaimaaEa
import Derived.Test.YtlapmidiakaimaaYq
import Derived.Deep.RegionHeld3
import Derived.Laws.EntriesVeiled
namespace Go.Proofs.Ytlapmidiakaimaa
open Go Go.RowKit
attribute [local go_sem ↓] Go.wp_at_zero Go.wp_at_succ

set_option linter.unusedVariables false
def colR (c : Int) (r : RW) : EV := colE c r.i (r.a, r.b, r.t) (r.p, r.q, r.z)
def cV (c : Int) (x y : RW) : Int := cmpV (colR c x).k (colR c x).n (colR c x).t (colR c y).k (colR c y).n (colR c y).t
/-- Rows by a column, then by the Id. -/
def cU (c : Int) (x y : RW) : Int := if cV c x y = 0 then cmpI x.i y.i else cV c x y
set_option maxRecDepth 100000 in
set_option maxHeartbeats 8000000 in
theorem c_or2 (a b : Int) (g : Nat) (w : World) (h0 : w.cell? ⟨g, 0, none⟩ = some (.int .i64 a)) (h1 : w.cell? ⟨g, 1, none⟩ = some (.int .i64 b)) :
    Calls Try.prog 80 #[.slice (some ⟨g, 0, none⟩) 2 2] w fun e w' => e = .returned (.int .i64 (if a = 0 then b else a)) ∧ w' = w := by
  obtain ⟨r, hr⟩ : ∃ r, (if a = 0 then b else a) = r := ⟨_, rfl⟩
  rw [hr]
  have HR : Hid ((if a = 0 then b else a) = r) := hr
  clear hr
  go_enter Try.func80, Try.ntmps80
  go_wp2
  go_loopw [8] (fun i wr => ∃ k : Nat, k ≤ 2 ∧ i = .int .i64 k ∧ Hid (1 ≤ k → a = 0) ∧ Hid (k = 2 → b = 0) ∧ wr = w) (fun i _ => 2 - (intOf i).toNat)
  case atStart => exact ⟨0, by omega, rfl, fun h => absurd h (by omega), fun h => absurd h (by omega), rfl⟩
  case round =>
    obtain ⟨k, hk, rfl, A, B, rfl⟩ := hrel
    have hk3 : k = 0 ∨ k = 1 ∨ k = 2 := by omega
    rcases hk3 with rfl | rfl | rfl
    · by_cases ha : a = 0
      · have e1 : (a != 0) = false := by simp [ha]
        have HA : Hid (a = 0) := ha
        clear ha
        go_wp2
        go_roundw
        case rel => exact ⟨1, by omega, by go_num, fun _ => HA.out, fun h => absurd h (by omega), by trivial⟩
        case measure => simp [intOf]
      · have e1 : (a != 0) = true := by simp [ha]
        have E : Hid (r = a) := by unfold Hid; rw [← HR.out, if_neg ha]
        clear ha
        go_wp2
        go_ret
        exact ⟨by rw [E.out]; rfl, rfl⟩
    · have HA : Hid (a = 0) := A.out (by omega)
      by_cases hb : b = 0
      · have e1 : (b != 0) = false := by simp [hb]
        have HB : Hid (b = 0) := hb
        clear hb
        go_wp2
        go_roundw
        case rel => exact ⟨2, by omega, by go_num, fun _ => HA.out, fun _ => HB.out, by trivial⟩
        case measure => simp [intOf]
      · have e1 : (b != 0) = true := by simp [hb]
        have E : Hid (r = b) := by unfold Hid; rw [← HR.out, if_pos HA.out]
        clear hb
        go_wp2
        go_ret
        exact ⟨by rw [E.out]; rfl, rfl⟩
    · have E : Hid (r = 0) := by unfold Hid; rw [← HR.out, if_pos (A.out (by omega))]; exact B.out rfl
      go_wp2
      go_ret
      exact ⟨by rw [E.out]; rfl, rfl⟩
theorem c_colR (c : Int) (xi xa xb : Int) (xt : ByteArray) (xp xq : Int) (xz : ByteArray) (w : World) (h : inB c 0 2 = true) : Calls Try.prog 81 #[.int .i64 c, .agg #[.int .i64 xi, .int .i64 xa, .int .i64 xb, .string xt, .int .i64 xp, .int .i64 xq, .string xz]] w fun e w' => e = .returned (.agg #[.int .i64 (colR c ⟨xi, xa, xb, xt, xp, xq, xz⟩).k, .int .i64 (colR c ⟨xi, xa, xb, xt, xp, xq, xz⟩).n, .string (colR c ⟨xi, xa, xb, xt, xp, xq, xz⟩).t]) ∧ Below w.heap.size w w' := c_colV c xi (xa, xb, xt) (xp, xq, xz) w h
theorem c_colRS (c : Int) (xi xa xb : Int) (xt : ByteArray) (xp xq : Int) (xz : ByteArray) (w : World) (h : inB c 0 2 = true) : Calls Try.prog 75 #[.agg #[.int .i64 xi, .int .i64 xa, .int .i64 xb, .string xt, .int .i64 xp, .int .i64 xq, .string xz], .int .i64 c] w fun e w' => e = .returned (.agg #[.int .i64 (colR c ⟨xi, xa, xb, xt, xp, xq, xz⟩).k, .int .i64 (colR c ⟨xi, xa, xb, xt, xp, xq, xz⟩).n, .string (colR c ⟨xi, xa, xb, xt, xp, xq, xz⟩).t]) ∧ Below w.heap.size w w' := c_colS c xi (xa, xb, xt) (xp, xq, xz) w h
set_option maxRecDepth 100000 in
set_option maxHeartbeats 8000000 in
theorem c_up (c : Int) (xi xa xb : Int) (xt : ByteArray) (xp xq : Int) (xz : ByteArray) (yi ya yb : Int) (yt : ByteArray) (yp yq : Int) (yz : ByteArray) (cg : Nat) (w : World) (hc : inB c 0 2 = true) (hg : w.cell? ⟨cg, 0, none⟩ = some (.int .i64 c)) :
    Calls Try.prog 79 #[.agg #[.int .i64 xi, .int .i64 xa, .int .i64 xb, .string xt, .int .i64 xp, .int .i64 xq, .string xz], .agg #[.int .i64 yi, .int .i64 ya, .int .i64 yb, .string yt, .int .i64 yp, .int .i64 yq, .string yz], .pointer (some ⟨cg, 0, none⟩)] w fun e w' => e = .returned (.int .i64 (cU c ⟨xi, xa, xb, xt, xp, xq, xz⟩ ⟨yi, ya, yb, yt, yp, yq, yz⟩)) ∧ Below w.heap.size w w' := by
  have CX : Hid (∀ W, Calls Try.prog 81 #[.int .i64 c, .agg #[.int .i64 xi, .int .i64 xa, .int .i64 xb, .string xt, .int .i64 xp, .int .i64 xq, .string xz]] W fun e w' => e = .returned (.agg #[.int .i64 (colR c ⟨xi, xa, xb, xt, xp, xq, xz⟩).k, .int .i64 (colR c ⟨xi, xa, xb, xt, xp, xq, xz⟩).n, .string (colR c ⟨xi, xa, xb, xt, xp, xq, xz⟩).t]) ∧ Below W.heap.size W w') := fun W => c_colR c xi xa xb xt xp xq xz W hc
  have CY : Hid (∀ W, Calls Try.prog 81 #[.int .i64 c, .agg #[.int .i64 yi, .int .i64 ya, .int .i64 yb, .string yt, .int .i64 yp, .int .i64 yq, .string yz]] W fun e w' => e = .returned (.agg #[.int .i64 (colR c ⟨yi, ya, yb, yt, yp, yq, yz⟩).k, .int .i64 (colR c ⟨yi, ya, yb, yt, yp, yq, yz⟩).n, .string (colR c ⟨yi, ya, yb, yt, yp, yq, yz⟩).t]) ∧ Below W.heap.size W w') := fun W => c_colR c yi ya yb yt yp yq yz W hc
  have HU : Hid (∀ r s, cV c ⟨xi, xa, xb, xt, xp, xq, xz⟩ ⟨yi, ya, yb, yt, yp, yq, yz⟩ = r → cmpI xi yi = s → cU c ⟨xi, xa, xb, xt, xp, xq, xz⟩ ⟨yi, ya, yb, yt, yp, yq, yz⟩ = if r = 0 then s else r) := fun r s h1 h2 => by unfold cU; rw [h1, h2]
  have HV : Hid (cV c ⟨xi, xa, xb, xt, xp, xq, xz⟩ ⟨yi, ya, yb, yt, yp, yq, yz⟩ = cmpV (colR c ⟨xi, xa, xb, xt, xp, xq, xz⟩).k (colR c ⟨xi, xa, xb, xt, xp, xq, xz⟩).n (colR c ⟨xi, xa, xb, xt, xp, xq, xz⟩).t (colR c ⟨yi, ya, yb, yt, yp, yq, yz⟩).k (colR c ⟨yi, ya, yb, yt, yp, yq, yz⟩).n (colR c ⟨yi, ya, yb, yt, yp, yq, yz⟩).t) := rfl
  obtain ⟨p, hp⟩ : ∃ p, colR c ⟨xi, xa, xb, xt, xp, xq, xz⟩ = p := ⟨_, rfl⟩
  obtain ⟨q, hq⟩ : ∃ q, colR c ⟨yi, ya, yb, yt, yp, yq, yz⟩ = q := ⟨_, rfl⟩
  rw [hp] at CX HV
  rw [hq] at CY HV
  clear hp hq
  obtain ⟨r, hr⟩ : ∃ r, cmpV p.k p.n p.t q.k q.n q.t = r := ⟨_, rfl⟩
  rw [hr] at HV
  have CC : Hid (∀ W, Calls Try.prog 58 #[.agg #[.int .i64 p.k, .int .i64 p.n, .string p.t], .agg #[.int .i64 q.k, .int .i64 q.n, .string q.t]] W fun e w' => e = .returned (.int .i64 r) ∧ Below W.heap.size W w') := fun W => by rw [← hr]; exact c_cmpR _ _ _ _ _ _ W
  clear hr hc
  obtain ⟨s, hs⟩ : ∃ s, cmpI xi yi = s := ⟨_, rfl⟩
  have CI : Hid (∀ W, Calls Try.prog 82 #[.int .i64 xi, .int .i64 yi] W fun e w' => e = .returned (.int .i64 s) ∧ w' = W) := fun W => by rw [← hs]; exact c_cmpI xi yi W
  have HE : Hid (cU c ⟨xi, xa, xb, xt, xp, xq, xz⟩ ⟨yi, ya, yb, yt, yp, yq, yz⟩ = if r = 0 then s else r) := HU.out r s HV.out hs
  obtain ⟨z, hz⟩ : ∃ z, (if r = 0 then s else r) = z := ⟨_, rfl⟩
  have CO : Hid (∀ W g, W.cell? ⟨g, 0, none⟩ = some (.int .i64 r) → W.cell? ⟨g, 1, none⟩ = some (.int .i64 s) → Calls Try.prog 80 #[.slice (some ⟨g, 0, none⟩) 2 2] W fun e w' => e = .returned (.int .i64 z) ∧ w' = W) := fun W g h0 h1 => by rw [← hz]; exact c_or2 r s g W h0 h1
  rw [hz] at HE
  clear hz hs HU HV
  obtain ⟨V, hV⟩ : ∃ V, (w.alloc (.cells #[.int .i64 xi, .int .i64 xa, .int .i64 xb, .string xt, .int .i64 xp, .int .i64 xq, .string xz] 35)).alloc (.cells #[.int .i64 yi, .int .i64 ya, .int .i64 yb, .string yt, .int .i64 yp, .int .i64 yq, .string yz] 35) = V := ⟨_, rfl⟩
  have BV : Below w.heap.size w V := by rw [← hV]; exact ((Below.refl _ _).alloc (Nat.le_refl _) _).alloc (by simp) _
  have X : Box V w.heap.size 35 #[.int .i64 xi, .int .i64 xa, .int .i64 xb, .string xt, .int .i64 xp, .int .i64 xq, .string xz] := by rw [← hV]; exact (Box.new _ _ _).alloc _
  have Y : Box V (w.heap.size + 1) 35 #[.int .i64 yi, .int .i64 ya, .int .i64 yb, .string yt, .int .i64 yp, .int .i64 yq, .string yz] := by rw [← hV]; exact Box.new2 _ _ _ _
  obtain ⟨x0, x1, x2, x3, x4, x5, x6⟩ := box7 X
  obtain ⟨y0, y1, y2, y3, y4, y5, y6⟩ := box7 Y
  have g0 : V.cell? ⟨cg, 0, none⟩ = some (.int .i64 c) := far6 BV hg
  have BH : Hid (Below w.heap.size w V) := BV
  clear X Y BV hg
  go_enter Try.func79, Try.ntmps79
  go_wp2_with fail
  clear hV
  go_region_held3 (fun x => x.cell? ⟨cg, 0, none⟩ = some (.int .i64 c) ∧ x.cell? ⟨w.heap.size, 0, none⟩ = some (.int .i64 xi) ∧ x.cell? ⟨w.heap.size, 1, none⟩ = some (.int .i64 xa) ∧ x.cell? ⟨w.heap.size, 2, none⟩ = some (.int .i64 xb) ∧ x.cell? ⟨w.heap.size, 3, none⟩ = some (.string xt) ∧ x.cell? ⟨w.heap.size, 4, none⟩ = some (.int .i64 xp) ∧ x.cell? ⟨w.heap.size, 5, none⟩ = some (.int .i64 xq) ∧ x.cell? ⟨w.heap.size, 6, none⟩ = some (.string xz) ∧ x.cell? ⟨w.heap.size + 1, 0, none⟩ = some (.int .i64 yi) ∧ x.cell? ⟨w.heap.size + 1, 1, none⟩ = some (.int .i64 ya) ∧ x.cell? ⟨w.heap.size + 1, 2, none⟩ = some (.int .i64 yb) ∧ x.cell? ⟨w.heap.size + 1, 3, none⟩ = some (.string yt) ∧ x.cell? ⟨w.heap.size + 1, 4, none⟩ = some (.int .i64 yp) ∧ x.cell? ⟨w.heap.size + 1, 5, none⟩ = some (.int .i64 yq) ∧ x.cell? ⟨w.heap.size + 1, 6, none⟩ = some (.string yz))
    (first | exact ⟨(far6 hb3 (far6 hb2 (far6 hb1 g0))), (far6 hb3 (far6 hb2 (far6 hb1 x0))), (far6 hb3 (far6 hb2 (far6 hb1 x1))), (far6 hb3 (far6 hb2 (far6 hb1 x2))), (far6 hb3 (far6 hb2 (far6 hb1 x3))), (far6 hb3 (far6 hb2 (far6 hb1 x4))), (far6 hb3 (far6 hb2 (far6 hb1 x5))), (far6 hb3 (far6 hb2 (far6 hb1 x6))), (far6 hb3 (far6 hb2 (far6 hb1 y0))), (far6 hb3 (far6 hb2 (far6 hb1 y1))), (far6 hb3 (far6 hb2 (far6 hb1 y2))), (far6 hb3 (far6 hb2 (far6 hb1 y3))), (far6 hb3 (far6 hb2 (far6 hb1 y4))), (far6 hb3 (far6 hb2 (far6 hb1 y5))), (far6 hb3 (far6 hb2 (far6 hb1 y6)))⟩ | exact ⟨(far6 hb2 (far6 hb1 g0)), (far6 hb2 (far6 hb1 x0)), (far6 hb2 (far6 hb1 x1)), (far6 hb2 (far6 hb1 x2)), (far6 hb2 (far6 hb1 x3)), (far6 hb2 (far6 hb1 x4)), (far6 hb2 (far6 hb1 x5)), (far6 hb2 (far6 hb1 x6)), (far6 hb2 (far6 hb1 y0)), (far6 hb2 (far6 hb1 y1)), (far6 hb2 (far6 hb1 y2)), (far6 hb2 (far6 hb1 y3)), (far6 hb2 (far6 hb1 y4)), (far6 hb2 (far6 hb1 y5)), (far6 hb2 (far6 hb1 y6))⟩ | exact ⟨(far6 hb1 g0), (far6 hb1 x0), (far6 hb1 x1), (far6 hb1 x2), (far6 hb1 x3), (far6 hb1 x4), (far6 hb1 x5), (far6 hb1 x6), (far6 hb1 y0), (far6 hb1 y1), (far6 hb1 y2), (far6 hb1 y3), (far6 hb1 y4), (far6 hb1 y5), (far6 hb1 y6)⟩ | go_keep)
    (first | (go_at_call_of 81 (Value.agg #[.int .i64 xi, .int .i64 xa, .int .i64 xb, .string xt, .int .i64 xp, .int .i64 xq, .string xz]); refine (CX.out _).mono ?_; rintro e w1 ⟨rfl, hb1⟩)
           | (go_at_call_of 81 (Value.agg #[.int .i64 yi, .int .i64 ya, .int .i64 yb, .string yt, .int .i64 yp, .int .i64 yq, .string yz]); refine (CY.out _).mono ?_; rintro e w2 ⟨rfl, hb2⟩)
           | (go_at_call 58; refine (CC.out _).mono ?_; rintro e w3 ⟨rfl, hb3⟩)
           | (go_at_call 82; refine (CI.out _).mono ?_; rintro e w4 ⟨rfl, rfl⟩)
           | (go_at_call 80; refine (CO.out _ _ (by exact (Box.new _ _ _).cell 0) (by exact (Box.new _ _ _).cell 1)).mono ?_; rintro e w5 ⟨rfl, rfl⟩))
  have q1 : Below w.heap.size w w1 := BH.out.trans (((Below.refl V.heap.size V).drew.trans hb1).mono BH.out.size)
  have q2 : Below w.heap.size w w2 := q1.trans (hb2.mono q1.size)
  have q3 : Hid (Below w.heap.size w w4) := q2.trans (hb3.mono q2.size)
  clear q1 q2 hb1 hb2 hb3
  go_wp2
  go_ret
  exact ⟨by rw [HE.out]; rfl, q3.out.alloc q3.out.size _⟩
set_option maxRecDepth 100000 in
set_option maxHeartbeats 8000000 in
theorem c_down (c : Int) (xi xa xb : Int) (xt : ByteArray) (xp xq : Int) (xz : ByteArray) (yi ya yb : Int) (yt : ByteArray) (yp yq : Int) (yz : ByteArray) (cg ug : Nat) (w : World) (hc : inB c 0 2 = true) (hg : w.cell? ⟨cg, 0, none⟩ = some (.int .i64 c)) (hu : w.cell? ⟨ug, 0, none⟩ = some (.func (Fn.func 79) #[] #[.pointer (some ⟨cg, 0, none⟩)])) :
    Calls Try.prog 83 #[.agg #[.int .i64 xi, .int .i64 xa, .int .i64 xb, .string xt, .int .i64 xp, .int .i64 xq, .string xz], .agg #[.int .i64 yi, .int .i64 ya, .int .i64 yb, .string yt, .int .i64 yp, .int .i64 yq, .string yz], .pointer (some ⟨ug, 0, none⟩)] w fun e w' => e = .returned (.int .i64 (cU c ⟨yi, ya, yb, yt, yp, yq, yz⟩ ⟨xi, xa, xb, xt, xp, xq, xz⟩)) ∧ Below w.heap.size w w' := by
  obtain ⟨V, hV⟩ : ∃ V, (w.alloc (.cells #[.int .i64 xi, .int .i64 xa, .int .i64 xb, .string xt, .int .i64 xp, .int .i64 xq, .string xz] 35)).alloc (.cells #[.int .i64 yi, .int .i64 ya, .int .i64 yb, .string yt, .int .i64 yp, .int .i64 yq, .string yz] 35) = V := ⟨_, rfl⟩
  have BV : Below w.heap.size w V := by rw [← hV]; exact ((Below.refl _ _).alloc (Nat.le_refl _) _).alloc (by simp) _
  have X : Box V w.heap.size 35 #[.int .i64 xi, .int .i64 xa, .int .i64 xb, .string xt, .int .i64 xp, .int .i64 xq, .string xz] := by rw [← hV]; exact (Box.new _ _ _).alloc _
  have Y : Box V (w.heap.size + 1) 35 #[.int .i64 yi, .int .i64 ya, .int .i64 yb, .string yt, .int .i64 yp, .int .i64 yq, .string yz] := by rw [← hV]; exact Box.new2 _ _ _ _
  obtain ⟨x0, x1, x2, x3, x4, x5, x6⟩ := box7 X
  obtain ⟨y0, y1, y2, y3, y4, y5, y6⟩ := box7 Y
  have g0 : V.cell? ⟨ug, 0, none⟩ = some (.func (Fn.func 79) #[] #[.pointer (some ⟨cg, 0, none⟩)]) := far6 BV hu
  have C := c_up c yi ya yb yt yp yq yz xi xa xb xt xp xq xz cg V hc (far6 BV hg)
  have BH : Hid (Below w.heap.size w V) := BV
  clear X Y BV hg hu hc
  go_enter Try.func83, Try.ntmps83
  go_wp2_with fail
  refine C.mono ?_
  rintro e w1 ⟨rfl, hb⟩
  have q3 : Hid (Below w.heap.size w w1) := BH.out.trans (hb.mono BH.out.size)
  clear hb C hV x0 x1 x2 x3 x4 x5 x6 y0 y1 y2 y3 y4 y5 y6 g0
  go_wp2
  go_ret
  exact ⟨rfl, q3.out⟩

end Go.Proofs.Ytlapmidiakaimaa
