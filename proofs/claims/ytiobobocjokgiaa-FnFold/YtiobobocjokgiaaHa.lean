/-
  Changes: what lists of them read as, sizes, copies, comparisons.
-/
import Derived.Test.YtiobobocjokgiaaHc
import Derived.Deep.RegionHeld3
import Derived.Deep.DrawnRows
namespace Go.Proofs.Ytiobobocjokgiaa
open Go Go.RowKit
attribute [local go_sem ↓] Go.wp_at_zero Go.wp_at_succ

set_option maxRecDepth 100000 in
set_option maxHeartbeats 4000000 in
theorem c_eqC1 (se tb i a b : Int) (t : ByteArray) (p q : Int) (z : ByteArray) (g : Bool) (w : World) : Calls Try.prog 26 #[.agg #[.int .i64 se, .int .i64 tb, .int .i64 i, .int .i64 a, .int .i64 b, .string t, .int .i64 p, .int .i64 q, .string z, .bool g], .agg #[.int .i64 se, .int .i64 tb, .int .i64 i, .int .i64 a, .int .i64 b, .string t, .int .i64 p, .int .i64 q, .string z, .bool g]] w fun e w' => e = .returned (.bool true) ∧ Below w.heap.size w w' := by
  have e1 : (se != se) = false := by simp
  have e2 : (tb != tb) = false := by simp
  have e3 : (g != g) = false := by simp
  obtain ⟨V, hV⟩ : ∃ V, (w.alloc (.cells #[.int .i64 se, .int .i64 tb, .int .i64 i, .int .i64 a, .int .i64 b, .string t, .int .i64 p, .int .i64 q, .string z, .bool g] 42)).alloc (.cells #[.int .i64 se, .int .i64 tb, .int .i64 i, .int .i64 a, .int .i64 b, .string t, .int .i64 p, .int .i64 q, .string z, .bool g] 42) = V := ⟨_, rfl⟩
  have BV : Hid (Below w.heap.size w V) := by unfold Hid; rw [← hV]; exact ((Below.refl _ _).alloc (Nat.le_refl _) _).alloc (by simp) _
  have X : Hid (Box V w.heap.size 42 #[.int .i64 se, .int .i64 tb, .int .i64 i, .int .i64 a, .int .i64 b, .string t, .int .i64 p, .int .i64 q, .string z, .bool g]) := by unfold Hid; rw [← hV]; exact (Box.new _ _ _).alloc _
  have Y : Hid (Box V (w.heap.size + 1) 42 #[.int .i64 se, .int .i64 tb, .int .i64 i, .int .i64 a, .int .i64 b, .string t, .int .i64 p, .int .i64 q, .string z, .bool g]) := by unfold Hid; rw [← hV]; exact Box.new2 _ _ _ _
  obtain ⟨x0, x1, x2, x3, x4, x5, x6, x7, x8, x9⟩ := box10 X.out
  obtain ⟨y0, y1, y2, y3, y4, y5, y6, y7, y8, y9⟩ := box10 Y.out
  go_enter Try.func26, Try.ntmps26
  go_wp2_with fail
  refine (c_eqRow i (a, b, t) (p, q, z) _).mono ?_
  rintro e' w1 ⟨rfl, hb⟩
  have B1 : Hid (Below w.heap.size w w1) := BV.out.trans (hb.mono BV.out.size)
  have X1 : Hid (Box w1 w.heap.size 42 #[.int .i64 se, .int .i64 tb, .int .i64 i, .int .i64 a, .int .i64 b, .string t, .int .i64 p, .int .i64 q, .string z, .bool g]) := X.out.belowS hb
  have Y1 : Hid (Box w1 (w.heap.size + 1) 42 #[.int .i64 se, .int .i64 tb, .int .i64 i, .int .i64 a, .int .i64 b, .string t, .int .i64 p, .int .i64 q, .string z, .bool g]) := Y.out.belowS hb
  clear hb hV x0 x1 x2 x3 x4 x5 x6 x7 x8 x9 y0 y1 y2 y3 y4 y5 y6 y7 y8 y9 BV X Y
  obtain ⟨x0, x1, x2, x3, x4, x5, x6, x7, x8, x9⟩ := box10 X1.out
  obtain ⟨y0, y1, y2, y3, y4, y5, y6, y7, y8, y9⟩ := box10 Y1.out
  go_wp2
  go_ret
  exact ⟨rfl, B1.out⟩
set_option maxRecDepth 100000 in
set_option maxHeartbeats 4000000 in
theorem c_szC1 (se tb i a b : Int) (t : ByteArray) (p q : Int) (z : ByteArray) (g : Bool) (left : Int) (w : World) (hs : t.size ≤ maxLen ∧ z.size ≤ maxLen) (h0 : 0 ≤ left) (h1 : left ≤ 1048576) : Calls Try.prog 17 #[.agg #[.int .i64 se, .int .i64 tb, .int .i64 i, .int .i64 a, .int .i64 b, .string t, .int .i64 p, .int .i64 q, .string z, .bool g], .int .i64 left] w fun e w' => (∃ zz : Int, e = .returned (.int .i64 zz) ∧ zz ≤ left) ∧ Below w.heap.size w w' := by
  obtain ⟨V, hV⟩ : ∃ V, w.alloc (.cells #[.int .i64 se, .int .i64 tb, .int .i64 i, .int .i64 a, .int .i64 b, .string t, .int .i64 p, .int .i64 q, .string z, .bool g] 49) = V := ⟨_, rfl⟩
  have BV : Hid (Below w.heap.size w V) := by unfold Hid; rw [← hV]; exact (Below.refl _ _).alloc (Nat.le_refl _) _
  have X : Hid (Box V w.heap.size 49 #[.int .i64 se, .int .i64 tb, .int .i64 i, .int .i64 a, .int .i64 b, .string t, .int .i64 p, .int .i64 q, .string z, .bool g]) := by unfold Hid; rw [← hV]; exact Box.new _ _ _
  obtain ⟨x0, x1, x2, x3, x4, x5, x6, x7, x8, x9⟩ := box10 X.out
  have C := c_szRowL i (a, b, t) (p, q, z) left V hs.1 hs.2 h0 h1
  clear hs
  go_enter Try.func17, Try.ntmps17
  go_wp2_with fail
  refine C.mono ?_
  rintro e w1 ⟨⟨zz, rfl, hz⟩, hb⟩
  have B1 : Hid (Below w.heap.size w w1) := BV.out.trans (hb.mono BV.out.size)
  clear hb hV x0 x1 x2 x3 x4 x5 x6 x7 x8 x9 BV X C
  by_cases hn : zz < 0
  · go_wp2
    go_ret
    exact ⟨⟨_, rfl, by omega⟩, B1.out⟩
  go_wp2
  go_ret
  exact ⟨⟨_, rfl, hz⟩, B1.out⟩
set_option maxRecDepth 100000 in
set_option maxHeartbeats 8000000 in
theorem c_eqC (a a' : Option Addr) (n cap cap' : Nat) (zs : List CW) (w : World) (hr : RdC w a n zs) (hr' : RdC w a' n zs) (hn : n ≤ 1048576) :
    Calls Try.prog 10 #[.slice a n cap, .slice a' n cap'] w fun e w' => e = .returned (.bool true) ∧ Below w.heap.size w w' := by
  obtain ⟨hl, hcs⟩ := hr
  obtain ⟨hl', hcs'⟩ := hr'
  go_enter Try.func10, Try.ntmps10
  go_wp2
  go_loopw [5] (fun i wr => ∃ k : Nat, k ≤ n ∧ i = .int .i64 k ∧ Below w.heap.size w wr) (fun i _ => n - (intOf i).toNat)
  case atStart => exact ⟨0, by omega, rfl, Below.refl _ _⟩
  case round =>
    obtain ⟨k, hk, rfl, hb⟩ := hrel
    by_cases hlt : k < n
    · obtain ⟨b, off, rfl, hbl, hc⟩ := hcs (by omega)
      obtain ⟨b', off', rfl, hbl', hc'⟩ := hcs' (by omega)
      obtain ⟨⟨vse, vtb, vi, va, vb, vt, vp, vq, vz, vg⟩, hv⟩ : ∃ v, v = zs.getD k zeroC := ⟨_, rfl⟩
      obtain ⟨d0, d1, d2, d3, d4, d5, d6, d7, d8, d9⟩ := RdC.at hc hlt hv
      obtain ⟨x0, x1, x2, x3, x4, x5, x6, x7, x8, x9⟩ := RdC.at hc' hlt hv
      dsimp only at d0 d1 d2 d3 d4 d5 d6 d7 d8 d9 x0 x1 x2 x3 x4 x5 x6 x7 x8 x9
      have e0 : wr.cell? ⟨b, off + k * 10, none⟩ = some (.int .i64 vse) := by rw [hb.cell (p := ⟨b, off + k * 10, none⟩) hbl, d0]
      have e1 : wr.cell? ⟨b, off + k * 10 + 1, none⟩ = some (.int .i64 vtb) := by rw [hb.cell (p := ⟨b, off + k * 10 + 1, none⟩) hbl, d1]
      have e2 : wr.cell? ⟨b, off + k * 10 + 2, none⟩ = some (.int .i64 vi) := by rw [hb.cell (p := ⟨b, off + k * 10 + 2, none⟩) hbl, d2]
      have e3 : wr.cell? ⟨b, off + k * 10 + 3, none⟩ = some (.int .i64 va) := by rw [hb.cell (p := ⟨b, off + k * 10 + 3, none⟩) hbl, d3]
      have e4 : wr.cell? ⟨b, off + k * 10 + 4, none⟩ = some (.int .i64 vb) := by rw [hb.cell (p := ⟨b, off + k * 10 + 4, none⟩) hbl, d4]
      have e5 : wr.cell? ⟨b, off + k * 10 + 5, none⟩ = some (.string vt) := by rw [hb.cell (p := ⟨b, off + k * 10 + 5, none⟩) hbl, d5]
      have e6 : wr.cell? ⟨b, off + k * 10 + 6, none⟩ = some (.int .i64 vp) := by rw [hb.cell (p := ⟨b, off + k * 10 + 6, none⟩) hbl, d6]
      have e7 : wr.cell? ⟨b, off + k * 10 + 7, none⟩ = some (.int .i64 vq) := by rw [hb.cell (p := ⟨b, off + k * 10 + 7, none⟩) hbl, d7]
      have e8 : wr.cell? ⟨b, off + k * 10 + 8, none⟩ = some (.string vz) := by rw [hb.cell (p := ⟨b, off + k * 10 + 8, none⟩) hbl, d8]
      have e9 : wr.cell? ⟨b, off + k * 10 + 9, none⟩ = some (.bool vg) := by rw [hb.cell (p := ⟨b, off + k * 10 + 9, none⟩) hbl, d9]
      have y0 : wr.cell? ⟨b', off' + k * 10, none⟩ = some (.int .i64 vse) := by rw [hb.cell (p := ⟨b', off' + k * 10, none⟩) hbl', x0]
      have y1 : wr.cell? ⟨b', off' + k * 10 + 1, none⟩ = some (.int .i64 vtb) := by rw [hb.cell (p := ⟨b', off' + k * 10 + 1, none⟩) hbl', x1]
      have y2 : wr.cell? ⟨b', off' + k * 10 + 2, none⟩ = some (.int .i64 vi) := by rw [hb.cell (p := ⟨b', off' + k * 10 + 2, none⟩) hbl', x2]
      have y3 : wr.cell? ⟨b', off' + k * 10 + 3, none⟩ = some (.int .i64 va) := by rw [hb.cell (p := ⟨b', off' + k * 10 + 3, none⟩) hbl', x3]
      have y4 : wr.cell? ⟨b', off' + k * 10 + 4, none⟩ = some (.int .i64 vb) := by rw [hb.cell (p := ⟨b', off' + k * 10 + 4, none⟩) hbl', x4]
      have y5 : wr.cell? ⟨b', off' + k * 10 + 5, none⟩ = some (.string vt) := by rw [hb.cell (p := ⟨b', off' + k * 10 + 5, none⟩) hbl', x5]
      have y6 : wr.cell? ⟨b', off' + k * 10 + 6, none⟩ = some (.int .i64 vp) := by rw [hb.cell (p := ⟨b', off' + k * 10 + 6, none⟩) hbl', x6]
      have y7 : wr.cell? ⟨b', off' + k * 10 + 7, none⟩ = some (.int .i64 vq) := by rw [hb.cell (p := ⟨b', off' + k * 10 + 7, none⟩) hbl', x7]
      have y8 : wr.cell? ⟨b', off' + k * 10 + 8, none⟩ = some (.string vz) := by rw [hb.cell (p := ⟨b', off' + k * 10 + 8, none⟩) hbl', x8]
      have y9 : wr.cell? ⟨b', off' + k * 10 + 9, none⟩ = some (.bool vg) := by rw [hb.cell (p := ⟨b', off' + k * 10 + 9, none⟩) hbl', x9]
      have g1 : (0 : Int) ≤ (k : Int) := by omega
      have g2 : (k : Int) < (n : Int) := by omega
      have C : Hid (∀ wx, Calls Try.prog 26 #[.agg #[.int .i64 vse, .int .i64 vtb, .int .i64 vi, .int .i64 va, .int .i64 vb, .string vt, .int .i64 vp, .int .i64 vq, .string vz, .bool vg], .agg #[.int .i64 vse, .int .i64 vtb, .int .i64 vi, .int .i64 va, .int .i64 vb, .string vt, .int .i64 vp, .int .i64 vq, .string vz, .bool vg]] wx fun e w' => e = .returned (.bool true) ∧ Below wx.heap.size wx w') := fun wx => c_eqC1 vse vtb vi va vb vt vp vq vz vg wx
      clear hc hc' hcs hcs' hv d0 d1 d2 d3 d4 d5 d6 d7 d8 d9 x0 x1 x2 x3 x4 x5 x6 x7 x8 x9
      go_wp2_with fail
      go_region_held3 (fun x => x.cell? ⟨b, off + k * 10, none⟩ = some (.int .i64 vse) ∧ x.cell? ⟨b, off + k * 10 + 1, none⟩ = some (.int .i64 vtb) ∧ x.cell? ⟨b, off + k * 10 + 2, none⟩ = some (.int .i64 vi) ∧ x.cell? ⟨b, off + k * 10 + 3, none⟩ = some (.int .i64 va) ∧ x.cell? ⟨b, off + k * 10 + 4, none⟩ = some (.int .i64 vb) ∧ x.cell? ⟨b, off + k * 10 + 5, none⟩ = some (.string vt) ∧ x.cell? ⟨b, off + k * 10 + 6, none⟩ = some (.int .i64 vp) ∧ x.cell? ⟨b, off + k * 10 + 7, none⟩ = some (.int .i64 vq) ∧ x.cell? ⟨b, off + k * 10 + 8, none⟩ = some (.string vz) ∧ x.cell? ⟨b, off + k * 10 + 9, none⟩ = some (.bool vg) ∧ x.cell? ⟨b', off' + k * 10, none⟩ = some (.int .i64 vse) ∧ x.cell? ⟨b', off' + k * 10 + 1, none⟩ = some (.int .i64 vtb) ∧ x.cell? ⟨b', off' + k * 10 + 2, none⟩ = some (.int .i64 vi) ∧ x.cell? ⟨b', off' + k * 10 + 3, none⟩ = some (.int .i64 va) ∧ x.cell? ⟨b', off' + k * 10 + 4, none⟩ = some (.int .i64 vb) ∧ x.cell? ⟨b', off' + k * 10 + 5, none⟩ = some (.string vt) ∧ x.cell? ⟨b', off' + k * 10 + 6, none⟩ = some (.int .i64 vp) ∧ x.cell? ⟨b', off' + k * 10 + 7, none⟩ = some (.int .i64 vq) ∧ x.cell? ⟨b', off' + k * 10 + 8, none⟩ = some (.string vz) ∧ x.cell? ⟨b', off' + k * 10 + 9, none⟩ = some (.bool vg))
        (first | go_keep | (exact ⟨far6 hb3 e0, far6 hb3 e1, far6 hb3 e2, far6 hb3 e3, far6 hb3 e4, far6 hb3 e5, far6 hb3 e6, far6 hb3 e7, far6 hb3 e8, far6 hb3 e9, far6 hb3 y0, far6 hb3 y1, far6 hb3 y2, far6 hb3 y3, far6 hb3 y4, far6 hb3 y5, far6 hb3 y6, far6 hb3 y7, far6 hb3 y8, far6 hb3 y9⟩))
        (first | (go_at_call 26; refine (C.out _).mono ?_; rintro e w3 ⟨rfl, hb3⟩))
      have hb' : Below w.heap.size w w3 := hb.drew.trans (hb3.mono hb.size)
      clear hb3 e0 e1 e2 e3 e4 e5 e6 e7 e8 e9 y0 y1 y2 y3 y4 y5 y6 y7 y8 y9 C
      go_wp2
      go_roundw
      case rel => exact ⟨k + 1, by omega, by go_num, hb'⟩
      case measure => simp [intOf]; omega
    · have e : k = n := by omega
      subst e
      go_wp2
      go_ret
      exact ⟨rfl, hb⟩
set_option maxRecDepth 100000 in
set_option maxHeartbeats 8000000 in
theorem c_szC (a : Option Addr) (n cap : Nat) (vs : List CW) (left : Int) (w : World) (hr : RdC w a n vs) (hm : n ≤ maxLen) (hs : ∀ v ∈ vs, v.t.size ≤ maxLen ∧ v.z.size ≤ maxLen) (h0 : 0 ≤ left) (h1 : left ≤ 1048576) :
    Calls Try.prog 5 #[.slice a n cap, .int .i64 left] w fun e w' => (∃ z : Int, e = .returned (.int .i64 z) ∧ z ≤ left ∧ (0 ≤ z → n ≤ 1048576)) ∧ Below w.heap.size w w' := by
  unfold maxLen at hm
  obtain ⟨hl, hcs⟩ := hr
  by_cases hn : left - n < 0
  · go_enter Try.func5, Try.ntmps5
    go_wp2
    go_ret
    exact ⟨⟨_, rfl, by omega, fun h => absurd h (by omega)⟩, Below.refl _ _⟩
  · have HS : Hid (∀ v ∈ vs, v.t.size ≤ maxLen ∧ v.z.size ≤ maxLen) := hs
    clear hs
    go_enter Try.func5, Try.ntmps5
    go_wp2
    go_loopw [1, 5] (fun m i wr => ∃ (k : Nat) (l : Int), k ≤ n ∧ 0 ≤ l ∧ l ≤ left ∧ i = .int .i64 k ∧ m = .int .i64 l ∧ Below w.heap.size w wr) (fun _ i _ => n - (intOf i).toNat)
    case atStart => exact ⟨0, left - n, by omega, by omega, by omega, rfl, rfl, Below.refl _ _⟩
    case round =>
      obtain ⟨k, l, hk, hl0, hl1, rfl, rfl, hb⟩ := hrel
      by_cases hlt : k < n
      · obtain ⟨b, off, rfl, hbl, hc⟩ := hcs (by omega)
        obtain ⟨⟨vse, vtb, vi, va, vb, vt, vp, vq, vz, vg⟩, hv⟩ : ∃ v, v = vs.getD k zeroC := ⟨_, rfl⟩
        obtain ⟨d0, d1, d2, d3, d4, d5, d6, d7, d8, d9⟩ := RdC.at hc hlt hv
        dsimp only at d0 d1 d2 d3 d4 d5 d6 d7 d8 d9
        have e0 : wr.cell? ⟨b, off + k * 10, none⟩ = some (.int .i64 vse) := by rw [hb.cell (p := ⟨b, off + k * 10, none⟩) hbl, d0]
        have e1 : wr.cell? ⟨b, off + k * 10 + 1, none⟩ = some (.int .i64 vtb) := by rw [hb.cell (p := ⟨b, off + k * 10 + 1, none⟩) hbl, d1]
        have e2 : wr.cell? ⟨b, off + k * 10 + 2, none⟩ = some (.int .i64 vi) := by rw [hb.cell (p := ⟨b, off + k * 10 + 2, none⟩) hbl, d2]
        have e3 : wr.cell? ⟨b, off + k * 10 + 3, none⟩ = some (.int .i64 va) := by rw [hb.cell (p := ⟨b, off + k * 10 + 3, none⟩) hbl, d3]
        have e4 : wr.cell? ⟨b, off + k * 10 + 4, none⟩ = some (.int .i64 vb) := by rw [hb.cell (p := ⟨b, off + k * 10 + 4, none⟩) hbl, d4]
        have e5 : wr.cell? ⟨b, off + k * 10 + 5, none⟩ = some (.string vt) := by rw [hb.cell (p := ⟨b, off + k * 10 + 5, none⟩) hbl, d5]
        have e6 : wr.cell? ⟨b, off + k * 10 + 6, none⟩ = some (.int .i64 vp) := by rw [hb.cell (p := ⟨b, off + k * 10 + 6, none⟩) hbl, d6]
        have e7 : wr.cell? ⟨b, off + k * 10 + 7, none⟩ = some (.int .i64 vq) := by rw [hb.cell (p := ⟨b, off + k * 10 + 7, none⟩) hbl, d7]
        have e8 : wr.cell? ⟨b, off + k * 10 + 8, none⟩ = some (.string vz) := by rw [hb.cell (p := ⟨b, off + k * 10 + 8, none⟩) hbl, d8]
        have e9 : wr.cell? ⟨b, off + k * 10 + 9, none⟩ = some (.bool vg) := by rw [hb.cell (p := ⟨b, off + k * 10 + 9, none⟩) hbl, d9]
        have hvs : vt.size ≤ maxLen ∧ vz.size ≤ maxLen := by
          have := getD_ofX (d := zeroC) HS.out (show k < vs.length by omega)
          rw [← hv] at this
          exact this
        clear hc hcs hv HS d0 d1 d2 d3 d4 d5 d6 d7 d8 d9
        go_wp2_with fail
        refine (c_szC1 _ _ _ _ _ _ _ _ _ _ _ _ hvs hl0 (by omega)).mono ?_
        rintro e w1 ⟨⟨z, rfl, hzl⟩, hb1⟩
        have hb' : Below w.heap.size w w1 := hb.trans (hb1.mono hb.size)
        clear hb1 hb e0 e1 e2 e3 e4 e5 e6 e7 e8 e9
        by_cases hneg : z < 0
        · go_wp2
          go_ret
          exact ⟨⟨_, rfl, by omega, fun h => absurd h (by omega)⟩, hb'⟩
        · go_wp2
          go_roundw
          case rel => exact ⟨k + 1, z, by omega, by omega, by omega, by go_num, rfl, hb'⟩
          case measure => simp [intOf]; omega
      · have e : k = n := by omega
        subst e
        go_wp2
        go_ret
        exact ⟨⟨_, rfl, by omega, fun _ => by omega⟩, hb⟩
theorem made_zeroC (n : Nat) : (madeCells #[.int .i64 0, .int .i64 0, .int .i64 0, .int .i64 0, .int .i64 0, .string ⟨#[]⟩, .int .i64 0, .int .i64 0, .string ⟨#[]⟩, .bool false] (n * 10)).toList = cellsC (List.replicate n zeroC) := by
  apply List.ext_getElem?
  intro j
  by_cases hj : j < n * 10
  · have h1 : (madeCells #[.int .i64 0, .int .i64 0, .int .i64 0, .int .i64 0, .int .i64 0, .string ⟨#[]⟩, .int .i64 0, .int .i64 0, .string ⟨#[]⟩, .bool false] (n * 10)).toList[j]? = some ((#[.int .i64 0, .int .i64 0, .int .i64 0, .int .i64 0, .int .i64 0, .string ⟨#[]⟩, .int .i64 0, .int .i64 0, .string ⟨#[]⟩, .bool false] : Array Value)[j % 10]!) := by
      simp [madeCells, hj]
    rw [h1]
    have hi : j / 10 < (List.replicate n zeroC).length := by simp; omega
    have hd : (List.replicate n zeroC).getD (j / 10) zeroC = zeroC := by rw [List.getD_eq_getElem?_getD, List.getElem?_eq_getElem hi]; simp
    have c := cellsC_get (List.replicate n zeroC) (j / 10) hi (j % 10) (by omega)
    rw [hd, show j / 10 * 10 + j % 10 = j by omega] at c
    rw [c]
    have hm : j % 10 < 10 := by omega
    generalize j % 10 = m at hm
    match m, hm with
    | 0, _ => rfl
    | 1, _ => rfl
    | 2, _ => rfl
    | 3, _ => rfl
    | 4, _ => rfl
    | 5, _ => rfl
    | 6, _ => rfl
    | 7, _ => rfl
    | 8, _ => rfl
    | 9, _ => rfl
  · rw [List.getElem?_eq_none (by simp [size_madeCells]; omega), List.getElem?_eq_none (by rw [cellsC_len]; simp; omega)]
theorem infoC : (Try.prog.info? 42).map (fun i => (i.zero, i.size, i.bytes)) = some (some (.agg #[.int .i64 0, .int .i64 0, .int .i64 0, .int .i64 0, .int .i64 0, .string ⟨#[]⟩, .int .i64 0, .int .i64 0, .string ⟨#[]⟩, .bool false]), 10, 96) := by kernel_rfl
theorem own_putC {w : World} {base e g n cap : Nat} {vs : List CW} (h : w.ownsRow base e 10 (.slice (some ⟨g, 0, none⟩) n cap) n (cellsC vs)) (i : Nat) (v : CW) (hi : i < vs.length) :
    (((((((((((w).setCell ⟨g, i * 10, none⟩ (.int .i64 v.se)).setCell ⟨g, i * 10 + 1, none⟩ (.int .i64 v.tb)).setCell ⟨g, i * 10 + 2, none⟩ (.int .i64 v.i)).setCell ⟨g, i * 10 + 3, none⟩ (.int .i64 v.a)).setCell ⟨g, i * 10 + 4, none⟩ (.int .i64 v.b)).setCell ⟨g, i * 10 + 5, none⟩ (.string v.t)).setCell ⟨g, i * 10 + 6, none⟩ (.int .i64 v.p)).setCell ⟨g, i * 10 + 7, none⟩ (.int .i64 v.q)).setCell ⟨g, i * 10 + 8, none⟩ (.string v.z)).setCell ⟨g, i * 10 + 9, none⟩ (.bool v.g)).ownsRow base e 10 (.slice (some ⟨g, 0, none⟩) n cap) n (cellsC (vs.set i v)) := by
  have h0 := (h.stored (i * 10) (.int .i64 v.se)).1
  have h1 := (h0.stored (i * 10 + 1) (.int .i64 v.tb)).1
  have h2 := (h1.stored (i * 10 + 2) (.int .i64 v.i)).1
  have h3 := (h2.stored (i * 10 + 3) (.int .i64 v.a)).1
  have h4 := (h3.stored (i * 10 + 4) (.int .i64 v.b)).1
  have h5 := (h4.stored (i * 10 + 5) (.string v.t)).1
  have h6 := (h5.stored (i * 10 + 6) (.int .i64 v.p)).1
  have h7 := (h6.stored (i * 10 + 7) (.int .i64 v.q)).1
  have h8 := (h7.stored (i * 10 + 8) (.string v.z)).1
  have h9 := (h8.stored (i * 10 + 9) (.bool v.g)).1
  have := cellsC_set vs i v hi
  unfold setC at this
  rw [this] at h9
  exact h9
set_option maxRecDepth 100000 in
set_option maxHeartbeats 8000000 in
theorem c_toC (a : Option Addr) (n cap : Nat) (vs : List CW) (w : World) (hr : RdC w a n vs) (hn : n ≤ 1048576) :
    Calls Try.prog 7 #[.slice a n cap] w fun e w' => e = .returned (.slice (some ⟨w.heap.size, 0, none⟩) n n) ∧ w'.ownsRow w.heap.size 42 10 (.slice (some ⟨w.heap.size, 0, none⟩) n n) n (cellsC vs) ∧ Below w.heap.size w w' := by
  obtain ⟨hl, hcs⟩ := hr
  obtain ⟨i0, hi, hz0, hz1, hz2⟩ := info_parts infoC
  go_enter Try.func7, Try.ntmps7
  go_wp2_with (at_make; refine wpList_make_full _ rfl (.tmp 6) (.tmp 6) 27 rfl w.heap.size 42 i0 (.agg #[.int .i64 0, .int .i64 0, .int .i64 0, .int .i64 0, .int .i64 0, .string ⟨#[]⟩, .int .i64 0, .int .i64 0, .string ⟨#[]⟩, .bool false]) 10 Try.underlying27 hi hz0 hz1 .i64 .i64 _ _ n rfl rfl rfl rfl (by rw [hz2]; omega) (by unfold maxLen; omega) (Nat.le_refl _) ?_; intro w1 hown hgrow)
  go_loopw [4] (fun i wr => ∃ k : Nat, k ≤ n ∧ i = .int .i64 k ∧ wr.ownsRow w.heap.size 42 10 (.slice (some ⟨w.heap.size, 0, none⟩) n n) n (cellsC (partA zeroC vs n k)) ∧ Below w.heap.size w wr) (fun i _ => n - (intOf i).toNat)
  case atStart => exact ⟨0, by omega, rfl, by have e := made_zeroC n; simp only [Value.cells] at hown; rw [e] at hown; simpa [partA] using hown, (Below.refl _ _).grown hgrow (Nat.le_refl _) (fun k h => by cases h)⟩
  case round =>
    obtain ⟨k, hk, rfl, hown, hb⟩ := hrel
    by_cases hlt : k < n
    · obtain ⟨b, off, rfl, hbl, hc⟩ := hcs (by omega)
      obtain ⟨⟨vse, vtb, vi, va, vb, vt, vp, vq, vz, vg⟩, hv⟩ : ∃ v, v = vs.getD k zeroC := ⟨_, rfl⟩
      obtain ⟨d0, d1, d2, d3, d4, d5, d6, d7, d8, d9⟩ := RdC.at hc hlt hv
      dsimp only at d0 d1 d2 d3 d4 d5 d6 d7 d8 d9
      have e0 : wr.cell? ⟨b, off + k * 10, none⟩ = some (.int .i64 vse) := by rw [hb.cell (p := ⟨b, off + k * 10, none⟩) hbl, d0]
      have e1 : wr.cell? ⟨b, off + k * 10 + 1, none⟩ = some (.int .i64 vtb) := by rw [hb.cell (p := ⟨b, off + k * 10 + 1, none⟩) hbl, d1]
      have e2 : wr.cell? ⟨b, off + k * 10 + 2, none⟩ = some (.int .i64 vi) := by rw [hb.cell (p := ⟨b, off + k * 10 + 2, none⟩) hbl, d2]
      have e3 : wr.cell? ⟨b, off + k * 10 + 3, none⟩ = some (.int .i64 va) := by rw [hb.cell (p := ⟨b, off + k * 10 + 3, none⟩) hbl, d3]
      have e4 : wr.cell? ⟨b, off + k * 10 + 4, none⟩ = some (.int .i64 vb) := by rw [hb.cell (p := ⟨b, off + k * 10 + 4, none⟩) hbl, d4]
      have e5 : wr.cell? ⟨b, off + k * 10 + 5, none⟩ = some (.string vt) := by rw [hb.cell (p := ⟨b, off + k * 10 + 5, none⟩) hbl, d5]
      have e6 : wr.cell? ⟨b, off + k * 10 + 6, none⟩ = some (.int .i64 vp) := by rw [hb.cell (p := ⟨b, off + k * 10 + 6, none⟩) hbl, d6]
      have e7 : wr.cell? ⟨b, off + k * 10 + 7, none⟩ = some (.int .i64 vq) := by rw [hb.cell (p := ⟨b, off + k * 10 + 7, none⟩) hbl, d7]
      have e8 : wr.cell? ⟨b, off + k * 10 + 8, none⟩ = some (.string vz) := by rw [hb.cell (p := ⟨b, off + k * 10 + 8, none⟩) hbl, d8]
      have e9 : wr.cell? ⟨b, off + k * 10 + 9, none⟩ = some (.bool vg) := by rw [hb.cell (p := ⟨b, off + k * 10 + 9, none⟩) hbl, d9]
      have HV : Hid ((⟨vse, vtb, vi, va, vb, vt, vp, vq, vz, vg⟩ : CW) = vs.getD k zeroC) := hv
      clear hc hcs hgrow hv d0 d1 d2 d3 d4 d5 d6 d7 d8 d9
      have HO : Hid (wr.ownsRow w.heap.size 42 10 (.slice (some ⟨w.heap.size, 0, none⟩) n n) n (cellsC (partA zeroC vs n k))) := hown
      have HB : Hid (Below w.heap.size w wr) := hb
      clear hown hb
      go_wp2_with fail
      refine (c_toC1 _ _ _ _ _ _ _ _ _ _ _).mono ?_
      rintro e w1 ⟨rfl, hb1⟩
      have hown1 := own_below HO.out hb1
      have hbb : Below w.heap.size w w1 := HB.out.trans (hb1.mono HB.out.size)
      have hpl := partA_len zeroC vs n k hl hk
      obtain ⟨u0, f0⟩ : ∃ u, w1.cell? ⟨w.heap.size, k * 10, none⟩ = some u := ⟨_, (hown1.cellAt (k * 10) (by omega)).trans (List.getElem?_eq_getElem (by rw [cellsC_len]; omega))⟩
      have z0 := hown1.frozenAt (k * 10)
      obtain ⟨u1, f1⟩ : ∃ u, w1.cell? ⟨w.heap.size, k * 10 + 1, none⟩ = some u := ⟨_, (hown1.cellAt (k * 10 + 1) (by omega)).trans (List.getElem?_eq_getElem (by rw [cellsC_len]; omega))⟩
      have z1 := hown1.frozenAt (k * 10 + 1)
      obtain ⟨u2, f2⟩ : ∃ u, w1.cell? ⟨w.heap.size, k * 10 + 2, none⟩ = some u := ⟨_, (hown1.cellAt (k * 10 + 2) (by omega)).trans (List.getElem?_eq_getElem (by rw [cellsC_len]; omega))⟩
      have z2 := hown1.frozenAt (k * 10 + 2)
      obtain ⟨u3, f3⟩ : ∃ u, w1.cell? ⟨w.heap.size, k * 10 + 3, none⟩ = some u := ⟨_, (hown1.cellAt (k * 10 + 3) (by omega)).trans (List.getElem?_eq_getElem (by rw [cellsC_len]; omega))⟩
      have z3 := hown1.frozenAt (k * 10 + 3)
      obtain ⟨u4, f4⟩ : ∃ u, w1.cell? ⟨w.heap.size, k * 10 + 4, none⟩ = some u := ⟨_, (hown1.cellAt (k * 10 + 4) (by omega)).trans (List.getElem?_eq_getElem (by rw [cellsC_len]; omega))⟩
      have z4 := hown1.frozenAt (k * 10 + 4)
      obtain ⟨u5, f5⟩ : ∃ u, w1.cell? ⟨w.heap.size, k * 10 + 5, none⟩ = some u := ⟨_, (hown1.cellAt (k * 10 + 5) (by omega)).trans (List.getElem?_eq_getElem (by rw [cellsC_len]; omega))⟩
      have z5 := hown1.frozenAt (k * 10 + 5)
      obtain ⟨u6, f6⟩ : ∃ u, w1.cell? ⟨w.heap.size, k * 10 + 6, none⟩ = some u := ⟨_, (hown1.cellAt (k * 10 + 6) (by omega)).trans (List.getElem?_eq_getElem (by rw [cellsC_len]; omega))⟩
      have z6 := hown1.frozenAt (k * 10 + 6)
      obtain ⟨u7, f7⟩ : ∃ u, w1.cell? ⟨w.heap.size, k * 10 + 7, none⟩ = some u := ⟨_, (hown1.cellAt (k * 10 + 7) (by omega)).trans (List.getElem?_eq_getElem (by rw [cellsC_len]; omega))⟩
      have z7 := hown1.frozenAt (k * 10 + 7)
      obtain ⟨u8, f8⟩ : ∃ u, w1.cell? ⟨w.heap.size, k * 10 + 8, none⟩ = some u := ⟨_, (hown1.cellAt (k * 10 + 8) (by omega)).trans (List.getElem?_eq_getElem (by rw [cellsC_len]; omega))⟩
      have z8 := hown1.frozenAt (k * 10 + 8)
      obtain ⟨u9, f9⟩ : ∃ u, w1.cell? ⟨w.heap.size, k * 10 + 9, none⟩ = some u := ⟨_, (hown1.cellAt (k * 10 + 9) (by omega)).trans (List.getElem?_eq_getElem (by rw [cellsC_len]; omega))⟩
      have z9 := hown1.frozenAt (k * 10 + 9)
      have hput := own_putC hown1 k ⟨vse, vtb, vi, va, vb, vt, vp, vq, vz, vg⟩ (by omega)
      rw [show (partA zeroC vs n k).set k (⟨vse, vtb, vi, va, vb, vt, vp, vq, vz, vg⟩ : CW) = partA zeroC vs n (k + 1) by rw [HV.out]; exact partA_step zeroC vs n k hl hlt] at hput
      dsimp only at hput
      have HP : Hid (_) := hput
      have BB : Hid (Below w.heap.size w (((((((((((w1).setCell ⟨w.heap.size, k * 10, none⟩ (.int .i64 vse)).setCell ⟨w.heap.size, k * 10 + 1, none⟩ (.int .i64 vtb)).setCell ⟨w.heap.size, k * 10 + 2, none⟩ (.int .i64 vi)).setCell ⟨w.heap.size, k * 10 + 3, none⟩ (.int .i64 va)).setCell ⟨w.heap.size, k * 10 + 4, none⟩ (.int .i64 vb)).setCell ⟨w.heap.size, k * 10 + 5, none⟩ (.string vt)).setCell ⟨w.heap.size, k * 10 + 6, none⟩ (.int .i64 vp)).setCell ⟨w.heap.size, k * 10 + 7, none⟩ (.int .i64 vq)).setCell ⟨w.heap.size, k * 10 + 8, none⟩ (.string vz)).setCell ⟨w.heap.size, k * 10 + 9, none⟩ (.bool vg))) := ((((((((((hbb.setCell (Nat.le_refl _) _).setCell (Nat.le_refl _) _).setCell (Nat.le_refl _) _).setCell (Nat.le_refl _) _).setCell (Nat.le_refl _) _).setCell (Nat.le_refl _) _).setCell (Nat.le_refl _) _).setCell (Nat.le_refl _) _).setCell (Nat.le_refl _) _).setCell (Nat.le_refl _) _)
      clear hput hown1 hb1 HO HB hbb e0 e1 e2 e3 e4 e5 e6 e7 e8 e9
      go_wp2
      go_roundw
      case rel => exact ⟨k + 1, by omega, by go_num, HP.out, BB.out⟩
      case measure => simp [intOf]; omega
    · have e : k = n := by omega
      subst e
      rw [partA_full _ _ k hl] at hown
      go_wp2
      go_ret
      exact ⟨rfl, hown, hb⟩

end Go.Proofs.Ytiobobocjokgiaa
