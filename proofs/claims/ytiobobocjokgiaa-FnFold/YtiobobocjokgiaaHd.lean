/-
  Whether changes are right.
-/
import Derived.Test.YtiobobocjokgiaaHa
import Derived.Deep.RegionHeld3
namespace Go.Proofs.Ytiobobocjokgiaa
open Go Go.RowKit
attribute [local go_sem ↓] Go.wp_at_zero Go.wp_at_succ

set_option linter.unusedVariables false
set_option linter.unusedSimpArgs false
def chK (c : CW) : Bool := inB c.se 0 2 && (inB c.tb 1 3 && rowB c.i (c.a, c.b, c.t) (c.p, c.q, c.z))
def chsB (n : Nat) (vs : List CW) : Bool := decide (n ≤ 1000) && vs.all chK
theorem any_all (vs : List CW) : (!vs.any (fun k => !chK k)) = vs.all chK := by induction vs with
  | nil => rfl
  | cons v vs ih => simp [List.any_cons, List.all_cons, ← ih]
set_option maxRecDepth 100000 in
set_option maxHeartbeats 4000000 in
theorem c_isSes (x : Int) (w : World) : Calls Try.prog 49 #[.int .i64 x] w fun e w' => e = .returned (.bool (inB x 0 2)) ∧ w' = w := by
  by_cases h1 : (0 : Int) ≤ x
  · by_cases h2 : x < 3
    · go_enter Try.func49, Try.ntmps49
      go_wp2
      go_ret
      exact ⟨ret_bool (by unfold inB; exact (decide_eq_true (by omega)).symm), rfl⟩
    · go_enter Try.func49, Try.ntmps49
      go_wp2
      go_ret
      exact ⟨ret_bool (by unfold inB; exact (decide_eq_false (by omega)).symm), rfl⟩
  · go_enter Try.func49, Try.ntmps49
    go_wp2
    go_ret
    exact ⟨ret_bool (by unfold inB; exact (decide_eq_false (by omega)).symm), rfl⟩
set_option maxRecDepth 100000 in
set_option maxHeartbeats 4000000 in
theorem c_isTab (x : Int) (w : World) : Calls Try.prog 23 #[.int .i64 x] w fun e w' => e = .returned (.bool (inB x 1 3)) ∧ w' = w := by
  by_cases h1 : (1 : Int) ≤ x
  · by_cases h2 : x ≤ 3
    · go_enter Try.func23, Try.ntmps23
      go_wp2
      go_ret
      exact ⟨ret_bool (by unfold inB; exact (decide_eq_true (by omega)).symm), rfl⟩
    · go_enter Try.func23, Try.ntmps23
      go_wp2
      go_ret
      exact ⟨ret_bool (by unfold inB; exact (decide_eq_false (by omega)).symm), rfl⟩
  · go_enter Try.func23, Try.ntmps23
    go_wp2
    go_ret
    exact ⟨ret_bool (by unfold inB; exact (decide_eq_false (by omega)).symm), rfl⟩
set_option maxRecDepth 100000 in
set_option maxHeartbeats 8000000 in
theorem c_right (vse vtb vi va vb : Int) (vt : ByteArray) (vp vq : Int) (vz : ByteArray) (vg : Bool) (w : World) (hs : vt.size ≤ maxLen ∧ vz.size ≤ maxLen) : Calls Try.prog 35 #[.agg #[.int .i64 vse, .int .i64 vtb, .int .i64 vi, .int .i64 va, .int .i64 vb, .string vt, .int .i64 vp, .int .i64 vq, .string vz, .bool vg]] w fun e w' => e = .returned (.bool (chK ⟨vse, vtb, vi, va, vb, vt, vp, vq, vz, vg⟩)) ∧ Below w.heap.size w w' := by
  obtain ⟨V, hV⟩ : ∃ V, w.alloc (.cells #[.int .i64 vse, .int .i64 vtb, .int .i64 vi, .int .i64 va, .int .i64 vb, .string vt, .int .i64 vp, .int .i64 vq, .string vz, .bool vg] 42) = V := ⟨_, rfl⟩
  have BV : Hid (Below w.heap.size w V) := by unfold Hid; rw [← hV]; exact (Below.refl _ _).alloc (Nat.le_refl _) _
  have X : Hid (Box V w.heap.size 42 #[.int .i64 vse, .int .i64 vtb, .int .i64 vi, .int .i64 va, .int .i64 vb, .string vt, .int .i64 vp, .int .i64 vq, .string vz, .bool vg]) := by unfold Hid; rw [← hV]; exact Box.new _ _ _
  obtain ⟨x0, x1, x2, x3, x4, x5, x6, x7, x8, x9⟩ := box10 X.out
  obtain ⟨p0, g0⟩ : ∃ p, inB vse 0 2 = p := ⟨_, rfl⟩
  obtain ⟨p1, g1⟩ : ∃ p, inB vtb 1 3 = p := ⟨_, rfl⟩
  obtain ⟨p2, g2⟩ : ∃ p, rowB vi (va, vb, vt) (vp, vq, vz) = p := ⟨_, rfl⟩
  have C0 : Hid (∀ W : World, Calls Try.prog 49 #[.int .i64 vse] W fun e w' => e = .returned (.bool p0) ∧ w' = W) := fun W => by rw [← g0]; exact c_isSes vse W
  have C1 : Hid (∀ W : World, Calls Try.prog 23 #[.int .i64 vtb] W fun e w' => e = .returned (.bool p1) ∧ w' = W) := fun W => by rw [← g1]; exact c_isTab vtb W
  have C2 : Hid (∀ W : World, Calls Try.prog 50 #[.agg #[.int .i64 vi, .int .i64 va, .int .i64 vb, .string vt, .int .i64 vp, .int .i64 vq, .string vz]] W fun e w' => e = .returned (.bool p2) ∧ Below W.heap.size W w') := fun W => by rw [← g2]; exact c_isRow vi (va, vb, vt) (vp, vq, vz) W hs.1 hs.2
  have E : Hid (chK ⟨vse, vtb, vi, va, vb, vt, vp, vq, vz, vg⟩ = (p0 && (p1 && p2))) := by unfold Hid chK; rw [← g0, ← g1, ← g2]
  rw [E.out]
  clear g0 g1 g2 hs E
  go_enter Try.func35, Try.ntmps35
  go_wp2_with fail
  refine (C0.out _).mono ?_
  rintro e w0 ⟨rfl, hw⟩
  rw [hw]
  clear hw C0 hV
  cases p0
  · go_wp2
    go_ret
    exact ⟨rfl, BV.out⟩
  go_wp2_with fail
  refine (C1.out _).mono ?_
  rintro e w0 ⟨rfl, hw⟩
  rw [hw]
  clear hw C1
  cases p1
  · go_wp2
    go_ret
    exact ⟨rfl, BV.out⟩
  go_wp2_with fail
  refine (C2.out _).mono ?_
  rintro e w1 ⟨rfl, hb⟩
  have B1 : Hid (Below w.heap.size w w1) := BV.out.trans (hb.mono BV.out.size)
  clear hb C2
  go_wp2
  go_ret
  exact ⟨by first | rfl | (cases p2 <;> rfl), B1.out⟩
set_option maxRecDepth 100000 in
set_option maxHeartbeats 8000000 in
theorem c_noC (vse vtb vi va vb : Int) (vt : ByteArray) (vp vq : Int) (vz : ByteArray) (vg : Bool) (w : World) (hs : vt.size ≤ maxLen ∧ vz.size ≤ maxLen) : Calls Try.prog 34 #[.agg #[.int .i64 vse, .int .i64 vtb, .int .i64 vi, .int .i64 va, .int .i64 vb, .string vt, .int .i64 vp, .int .i64 vq, .string vz, .bool vg]] w fun e w' => e = .returned (.bool (!chK ⟨vse, vtb, vi, va, vb, vt, vp, vq, vz, vg⟩)) ∧ Below w.heap.size w w' := by
  obtain ⟨V, hV⟩ : ∃ W, w.alloc (.cells #[.int .i64 vse, .int .i64 vtb, .int .i64 vi, .int .i64 va, .int .i64 vb, .string vt, .int .i64 vp, .int .i64 vq, .string vz, .bool vg] 42) = W := ⟨_, rfl⟩
  have BV : Hid (Below w.heap.size w V) := by unfold Hid; rw [← hV]; exact (Below.refl _ _).alloc (Nat.le_refl _) _
  have XV : Hid (Box V w.heap.size 42 #[.int .i64 vse, .int .i64 vtb, .int .i64 vi, .int .i64 va, .int .i64 vb, .string vt, .int .i64 vp, .int .i64 vq, .string vz, .bool vg]) := by unfold Hid; rw [← hV]; exact Box.new _ _ _
  have C := c_right vse vtb vi va vb vt vp vq vz vg V hs
  obtain ⟨rk, hrk⟩ : ∃ b, chK ⟨vse, vtb, vi, va, vb, vt, vp, vq, vz, vg⟩ = b := ⟨_, rfl⟩
  rw [hrk] at C ⊢
  obtain ⟨x0, x1, x2, x3, x4, x5, x6, x7, x8, x9⟩ := box10 XV.out
  clear hrk
  go_enter Try.func34, Try.ntmps34
  go_wp2_with fail
  refine C.mono ?_
  rintro e w1 ⟨rfl, hb1⟩
  have B1 : Hid (Below w.heap.size w w1) := BV.out.trans (hb1.mono BV.out.size)
  clear hb1 C
  go_wp2
  go_ret
  exact ⟨rfl, B1.out⟩
set_option maxRecDepth 100000 in
set_option maxHeartbeats 8000000 in
theorem c_idxC (a : Option Addr) (n cap : Nat) (vs : List CW) (w : World) (hr : RdC w a n vs) (hn : n ≤ 1048576) (hs : ∀ v ∈ vs, v.t.size ≤ maxLen ∧ v.z.size ≤ maxLen) :
    Calls Try.prog 48 #[.slice a n cap, .func (Fn.func 34) #[] #[]] w fun e w' => (∃ i : Int, e = .returned (.int .i64 i) ∧ decide (0 ≤ i) = vs.any (fun k => !chK k)) ∧ Below w.heap.size w w' := by
  obtain ⟨hl, hcs⟩ := hr
  have HSZ : Hid (∀ v ∈ vs, v.t.size ≤ maxLen ∧ v.z.size ≤ maxLen) := hs
  clear hs
  go_enter Try.func48, Try.ntmps48
  go_wp2
  go_loopw [8] (fun i wr => ∃ k : Nat, k ≤ n ∧ i = .int .i64 k ∧ Hid ((vs.take k).any (fun k => !chK k) = false) ∧ Hid (Below w.heap.size w wr)) (fun i _ => n - (intOf i).toNat)
  case atStart => exact ⟨0, by omega, rfl, rfl, Below.refl _ _⟩
  case round =>
    obtain ⟨k, hk, rfl, HA, hb⟩ := hrel
    by_cases hlt : k < n
    · obtain ⟨b, off, rfl, hbl, hc⟩ := hcs (by omega)
      obtain ⟨⟨vse, vtb, vi, va, vb, vt, vp, vq, vz, vg⟩, hv⟩ : ∃ v, v = vs.getD k zeroC := ⟨_, rfl⟩
      obtain ⟨d0, d1, d2, d3, d4, d5, d6, d7, d8, d9⟩ := RdC.at hc hlt hv
      dsimp only at d0 d1 d2 d3 d4 d5 d6 d7 d8 d9
      have e0 : wr.cell? ⟨b, off + k * 10, none⟩ = some (.int .i64 vse) := by rw [hb.out.cell (p := ⟨b, off + k * 10, none⟩) hbl, d0]
      have e1 : wr.cell? ⟨b, off + k * 10 + 1, none⟩ = some (.int .i64 vtb) := by rw [hb.out.cell (p := ⟨b, off + k * 10 + 1, none⟩) hbl, d1]
      have e2 : wr.cell? ⟨b, off + k * 10 + 2, none⟩ = some (.int .i64 vi) := by rw [hb.out.cell (p := ⟨b, off + k * 10 + 2, none⟩) hbl, d2]
      have e3 : wr.cell? ⟨b, off + k * 10 + 3, none⟩ = some (.int .i64 va) := by rw [hb.out.cell (p := ⟨b, off + k * 10 + 3, none⟩) hbl, d3]
      have e4 : wr.cell? ⟨b, off + k * 10 + 4, none⟩ = some (.int .i64 vb) := by rw [hb.out.cell (p := ⟨b, off + k * 10 + 4, none⟩) hbl, d4]
      have e5 : wr.cell? ⟨b, off + k * 10 + 5, none⟩ = some (.string vt) := by rw [hb.out.cell (p := ⟨b, off + k * 10 + 5, none⟩) hbl, d5]
      have e6 : wr.cell? ⟨b, off + k * 10 + 6, none⟩ = some (.int .i64 vp) := by rw [hb.out.cell (p := ⟨b, off + k * 10 + 6, none⟩) hbl, d6]
      have e7 : wr.cell? ⟨b, off + k * 10 + 7, none⟩ = some (.int .i64 vq) := by rw [hb.out.cell (p := ⟨b, off + k * 10 + 7, none⟩) hbl, d7]
      have e8 : wr.cell? ⟨b, off + k * 10 + 8, none⟩ = some (.string vz) := by rw [hb.out.cell (p := ⟨b, off + k * 10 + 8, none⟩) hbl, d8]
      have e9 : wr.cell? ⟨b, off + k * 10 + 9, none⟩ = some (.bool vg) := by rw [hb.out.cell (p := ⟨b, off + k * 10 + 9, none⟩) hbl, d9]
      have hvs : vt.size ≤ maxLen ∧ vz.size ≤ maxLen := by
        have := getD_ofX (d := zeroC) HSZ.out (show k < vs.length by omega)
        rw [← hv] at this
        exact this
      obtain ⟨p, hp⟩ : ∃ p, (!chK (⟨vse, vtb, vi, va, vb, vt, vp, vq, vz, vg⟩ : CW)) = p := ⟨_, rfl⟩
      have HS : Hid ((vs.take (k + 1)).any (fun k => !chK k) = ((vs.take k).any (fun k => !chK k) || p)) := by
        unfold Hid
        have hk' : k < vs.length := by omega
        rw [List.take_add_one, List.any_append, List.getElem?_eq_getElem hk', ← hp, hv, List.getD_eq_getElem?_getD, List.getElem?_eq_getElem hk']
        simp
      have HX : Hid (p = true → vs.any (fun k => !chK k) = true) := fun h => by
        have hk' : k < vs.length := by omega
        rw [List.any_eq_true]
        refine ⟨vs[k], List.getElem_mem hk', ?_⟩
        rw [List.getD_eq_getElem?_getD, List.getElem?_eq_getElem hk'] at hv
        simp only [Option.getD_some] at hv
        rw [← hv]
        exact hp.trans h
      have C : Hid (∀ W : World, Calls Try.prog 34 #[.agg #[.int .i64 vse, .int .i64 vtb, .int .i64 vi, .int .i64 va, .int .i64 vb, .string vt, .int .i64 vp, .int .i64 vq, .string vz, .bool vg]] W fun e w' => e = .returned (.bool p) ∧ Below W.heap.size W w') := fun W => by rw [← hp]; exact c_noC vse vtb vi va vb vt vp vq vz vg W hvs
      clear hc hcs d0 d1 d2 d3 d4 d5 d6 d7 d8 d9 hv hp hvs
      go_wp2_with fail
      refine (C.out wr).mono ?_
      rintro e w1 ⟨rfl, hb1⟩
      have hb' : Hid (Below w.heap.size w w1) := hb.out.trans (hb1.mono hb.out.size)
      clear hb1 e0 e1 e2 e3 e4 e5 e6 e7 e8 e9 C hb
      cases p
      · go_wp2
        go_roundw
        case rel => exact ⟨k + 1, by omega, by go_num, by unfold Hid; rw [HS.out, HA.out]; rfl, hb'⟩
        case measure => simp [intOf]; omega
      · go_wp2
        go_ret
        exact ⟨⟨(k : Int), rfl, by rw [HX.out (by first | rfl | trivial)]; exact decide_eq_true (by omega)⟩, hb'.out⟩
    · have e : k = n := by omega
      subst e
      go_wp2
      go_ret
      refine ⟨⟨-1, rfl, ?_⟩, hb.out⟩
      have := HA.out
      rw [List.take_of_length_le (by omega)] at this
      rw [this]; rfl
set_option maxRecDepth 100000 in
set_option maxHeartbeats 8000000 in
theorem c_contC (a : Option Addr) (n cap : Nat) (vs : List CW) (w : World) (hr : RdC w a n vs) (hn : n ≤ 1048576) (hs : ∀ v ∈ vs, v.t.size ≤ maxLen ∧ v.z.size ≤ maxLen) :
    Calls Try.prog 33 #[.slice a n cap, .func (Fn.func 34) #[] #[]] w fun e w' => e = .returned (.bool (vs.any (fun k => !chK k))) ∧ Below w.heap.size w w' := by
  have C : Hid (Calls Try.prog 48 #[.slice a n cap, .func (Fn.func 34) #[] #[]] w fun e w' => (∃ i : Int, e = .returned (.int .i64 i) ∧ decide (0 ≤ i) = vs.any (fun k => !chK k)) ∧ Below w.heap.size w w') := c_idxC a n cap vs w hr hn hs
  obtain ⟨R, hR⟩ : ∃ b, vs.any (fun k => !chK k) = b := ⟨_, rfl⟩
  rw [hR] at C ⊢
  clear hr hs hR
  go_enter Try.func33, Try.ntmps33
  go_wp2_with fail
  refine C.out.mono ?_
  rintro e w1 ⟨⟨i, rfl, hi⟩, hb⟩
  subst hi
  clear C
  by_cases h : 0 ≤ i
  · go_wp2
    go_ret
    exact ⟨by first | rfl | (rw [decide_eq_true h]; rfl), hb⟩
  · go_wp2
    go_ret
    exact ⟨by first | rfl | (rw [decide_eq_false (by omega)]; rfl), hb⟩
set_option maxRecDepth 100000 in
set_option maxHeartbeats 8000000 in
theorem c_areC (a : Option Addr) (n cap : Nat) (vs : List CW) (w : World) (hr : RdC w a n vs) (hn : n ≤ 1048576) (hs : ∀ v ∈ vs, v.t.size ≤ maxLen ∧ v.z.size ≤ maxLen) :
    Calls Try.prog 22 #[.slice a n cap] w fun e w' => e = .returned (.bool (chsB n vs)) ∧ Below w.heap.size w w' := by
  by_cases h : n ≤ 1000
  · have C : Hid (Calls Try.prog 33 #[.slice a n cap, .func (Fn.func 34) #[] #[]] w fun e w' => e = .returned (.bool (vs.any (fun k => !chK k))) ∧ Below w.heap.size w w') := c_contC a n cap vs w hr hn hs
    have E : chsB n vs = !vs.any (fun k => !chK k) := by unfold chsB; rw [decide_eq_true h, any_all]; rfl
    rw [E]
    obtain ⟨R, hR⟩ : ∃ b, vs.any (fun k => !chK k) = b := ⟨_, rfl⟩
    rw [hR] at C ⊢
    clear hr hs hR E
    go_enter Try.func22, Try.ntmps22
    go_wp2_with fail
    refine C.out.mono ?_
    rintro e w1 ⟨rfl, hb⟩
    clear C
    go_wp2
    go_ret
    exact ⟨by first | rfl | (cases R <;> rfl), hb⟩
  · have E : chsB n vs = false := by unfold chsB; rw [decide_eq_false h]; rfl
    rw [E]
    clear hr hs E
    go_enter Try.func22, Try.ntmps22
    go_wp2
    go_ret
    exact ⟨rfl, Below.refl _ _⟩

end Go.Proofs.Ytiobobocjokgiaa
