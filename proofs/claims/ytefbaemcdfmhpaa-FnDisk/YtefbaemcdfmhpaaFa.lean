/-
  The place that a code names, and the comparison of two disks that are alike.
-/
import Derived.Test.YtefbaemcdfmhpaaAr
namespace Go.Proofs.Ytefbaemcdfmhpaa
open Go Go.RowKit
attribute [local go_sem ↓] Go.wp_at_zero Go.wp_at_succ

theorem getD_mem0 (zs : List Int) (k : Nat) (h : k < zs.length) : zs.getD k 0 ∈ zs := by rw [List.getD_eq_getElem?_getD, List.getElem?_eq_getElem h]; exact List.getElem_mem h
set_option maxHeartbeats 2000000 in
theorem c_at (a : Option Addr) (n c : Nat) (zs : List Int) (m : Nat) (w : World) (hr : RdV w a n (zs.map (Value.int .u8))) (hz : ∀ z ∈ zs, 0 ≤ z ∧ z < 256) (hn : n ≤ 1048576) (hm : 1 ≤ m ∧ m ≤ 100) :
    Calls Try.prog 14 #[.slice a n c, .int .i64 0, .int .i64 (m : Int)] w fun e w' => (∃ k : Nat, e = .returned (.int .i64 (k : Int)) ∧ k < m) ∧ ∃ q, w' = w.drewN q := by
  obtain ⟨hl, hcs⟩ := hr
  simp only [List.length_map] at hl
  have hm0 : ((m : Int) == 0) = false := by simp; omega
  by_cases hm1 : (m : Int) ≤ 1
  · go_enter Try.func14, Try.ntmps14
    go_wp2
    go_ret
    exact ⟨⟨0, rfl, by omega⟩, 0, rfl⟩
  by_cases h0 : n = 0
  · subst h0
    have e0 : (0 : Int).tmod (m : Int) = 0 := by simp
    go_enter Try.func14, Try.ntmps14
    go_wp2
    go_ret
    exact ⟨⟨0, rfl, by omega⟩, 0, rfl⟩
  · obtain ⟨b, off, rfl, _, hc⟩ := hcs (by omega)
    have hn0 : ((n : Int) == 0) = false := by simp; omega
    obtain ⟨j, hj, hjn⟩ : ∃ j : Nat, (1 : Int).tmod (n : Int) = (j : Int) ∧ j < n := by
      refine ⟨1 % n, ?_, Nat.mod_lt _ (by omega)⟩
      rw [Int.tmod_eq_emod_of_nonneg (by omega)]; rfl
    have hz0 : (0 : Int).tmod (n : Int) = 0 := by simp
    have hq0 : (0 : Int).tdiv (n : Int) = 0 := by simp
    obtain ⟨x, hx⟩ : ∃ z, z = zs.getD 0 0 := ⟨_, rfl⟩
    obtain ⟨y, hy⟩ : ∃ z, z = zs.getD j 0 := ⟨_, rfl⟩
    have hcx : w.cell? ⟨b, off, none⟩ = some (.int .u8 x) := by have := hc 0 (by omega); rw [Nat.add_zero] at this; rw [hx, this]; exact map_get _ _ _ _ (by omega)
    have hcy : w.cell? ⟨b, off + j, none⟩ = some (.int .u8 y) := by rw [hy, hc j hjn]; exact map_get _ _ _ _ (by omega)
    have bx : 0 ≤ x ∧ x < 256 := by rw [hx]; exact hz _ (getD_mem0 zs 0 (by omega))
    have bY : 0 ≤ y ∧ y < 256 := by rw [hy]; exact hz _ (getD_mem0 zs j (by omega))
    clear hc hx hy hcs hz
    go_enter Try.func14, Try.ntmps14
    go_wp2_with fail
    go_quiet (fail)
    go_wp2
    have h1 : 0 ≤ (x * 31 + y) % (m : Int) := Int.emod_nonneg _ (by omega)
    have h2 : (x * 31 + y) % (m : Int) < m := Int.emod_lt_of_pos _ (by omega)
    go_ret
    exact ⟨⟨((x * 31 + y) % (m : Int)).toNat, ret_int (Int.toNat_of_nonneg h1).symm, by omega⟩, nq, rfl⟩
set_option maxHeartbeats 2000000 in
theorem c_sameDisk2 (h h' : HD) (D : DD) (w : World) (r : RdD w h D) (r' : RdD w h' D) (hf : Fit D) :
    Calls Try.prog 23 #[.agg #[.slice h.a0 h.n0 h.c0, .slice h.a1 h.n1 h.c1, .bool h.b, .slice h.a2 h.n2 h.c2], .agg #[.slice h'.a0 h'.n0 h'.c0, .slice h'.a1 h'.n1 h'.c1, .bool h'.b, .slice h'.a2 h'.n2 h'.c2]] w fun e w' => e = .returned (.bool true) ∧ Below w.heap.size w w' := by
  have k0 := r.l0
  have k1 := r.l1
  have k2 := r.l2
  have k0' := r'.l0
  have k1' := r'.l1
  have k2' := r'.l2
  obtain ⟨f0, f1, f2, _, _⟩ := hf
  obtain ⟨rb, r0, r1, r2⟩ := r
  obtain ⟨rb', r0', r1', r2'⟩ := r'
  obtain ⟨a0, n0, c0, a1, n1, c1, b, a2, n2, c2⟩ := h
  obtain ⟨a0', n0', c0', a1', n1', c1', b', a2', n2', c2'⟩ := h'
  simp only at *
  subst k0 k1 k2 k0' k1' k2' rb rb'
  have R0 : Hid (RdV w a0 D.S.length (D.S.map Value.string)) := r0
  have R1 : Hid (RdP w a1 D.C.length D.C) := r1
  have R1' : Hid (RdP w a1' D.C.length D.C) := r1'
  have R2 : Hid (RdV w a2 D.K.length (D.K.map (Value.int .i64))) := r2
  have R0' : Hid (RdV w a0' D.S.length (D.S.map Value.string)) := r0'
  have R2' : Hid (RdV w a2' D.K.length (D.K.map (Value.int .i64))) := r2'
  clear r0 r1 r2 r0' r1' r2'
  obtain ⟨V, hV⟩ : ∃ V, (w.alloc (.cells #[.slice a0 D.S.length c0, .slice a1 D.C.length c1, .bool D.A, .slice a2 D.K.length c2] 27)).alloc (.cells #[.slice a0' D.S.length c0', .slice a1' D.C.length c1', .bool D.A, .slice a2' D.K.length c2'] 27) = V := ⟨_, rfl⟩
  have HB : Hid (Below w.heap.size w V) := by unfold Hid; rw [← hV]; exact ((Below.refl _ _).alloc (Nat.le_refl _) _).alloc (by simp) _
  have x1 : Box V w.heap.size 27 #[.slice a0 D.S.length c0, .slice a1 D.C.length c1, .bool D.A, .slice a2 D.K.length c2] := by rw [← hV]; exact (Box.new _ _ _).alloc _
  have x2 : Box V (w.heap.size + 1) 27 #[.slice a0' D.S.length c0', .slice a1' D.C.length c1', .bool D.A, .slice a2' D.K.length c2'] := by rw [← hV]; exact Box.new2 _ _ _ _
  obtain ⟨v0, v1, v2, v3⟩ := box4 x1
  obtain ⟨u0, u1, u2, u3⟩ := box4 x2
  have HX1 : Hid (Box V w.heap.size 27 _) := x1
  have HX2 : Hid (Box V (w.heap.size + 1) 27 _) := x2
  clear x1 x2
  have hbn : (D.A != D.A) = false := by simp
  go_enter Try.func23, Try.ntmps23
  go_wp2_with fail
  refine (c_sameS a0 a0' _ c0 _ c0' D.S D.S _ (R0.out.below HB.out) (R0'.out.below HB.out) f0 f0).mono ?_
  rintro e w1 ⟨rfl, q1, hq⟩
  have hb1 : Below w.heap.size w w1 := by rw [hq]; exact below_drewN HB.out q1
  have y1 := HX1.out.drewN q1
  have y2 := HX2.out.drewN q1
  rw [← hq] at y1 y2
  clear hq v0 v1 v2 v3 u0 u1 u2 u3
  rw [decide_eq_true (rfl : D.S = D.S)]
  obtain ⟨v0, v1, v2, v3⟩ := box4 y1
  obtain ⟨u0, u1, u2, u3⟩ := box4 y2
  go_wp2_with fail
  refine (c_sameI a2 a2' _ c2 _ c2' D.K D.K w1 (R2.out.below hb1) (R2'.out.below hb1) f2 f2).mono ?_
  rintro e w2 ⟨rfl, q2, hq⟩
  have hb2 : Below w.heap.size w w2 := by rw [hq]; exact below_drewN hb1 q2
  have z1 := y1.drewN q2
  have z2 := y2.drewN q2
  rw [← hq] at z1 z2
  clear hq v0 v1 v2 v3 u0 u1 u2 u3 y1 y2
  rw [decide_eq_true (rfl : D.K = D.K)]
  obtain ⟨v0, v1, v2, v3⟩ := box4 z1
  obtain ⟨u0, u1, u2, u3⟩ := box4 z2
  have B2 : Hid (Below w.heap.size w w2) := hb2
  have Q1 : Hid (RdP w2 a1 D.C.length D.C) := R1.out.below hb2
  have Q1' : Hid (RdP w2 a1' D.C.length D.C) := R1'.out.below hb2
  clear hb2 hb1 z1 z2
  go_wp2
  go_loopw [5] (fun i wr => ∃ k : Nat, k ≤ D.C.length ∧ i = .int .i64 k ∧ ∃ q, wr = w2.drewN q) (fun i _ => D.C.length - (intOf i).toNat)
  case atStart => exact ⟨0, by omega, rfl, 0, rfl⟩
  case round =>
    obtain ⟨k, hk, rfl, q, rfl⟩ := hrel
    by_cases hlt : k < D.C.length
    · obtain ⟨b, off, rfl, _, hc⟩ := Q1.out.2 (by omega)
      obtain ⟨b', off', rfl, _, hc'⟩ := Q1'.out.2 (by omega)
      obtain ⟨p, hp⟩ : ∃ p, p = D.C.getD k dP := ⟨_, rfl⟩
      have hk1 := (hc k hlt).1
      have hk2 := (hc k hlt).2
      have hk1' := (hc' k hlt).1
      have hk2' := (hc' k hlt).2
      rw [← hp] at hk1 hk2 hk1' hk2'
      have g1 : (0 : Int) ≤ (k : Int) := by omega
      have g2 : (k : Int) < (D.C.length : Int) := by omega
      have he1 : (p.1 == p.1) = true := by simp
      have he2 : (p.2.toList == p.2.toList) = true := by simp
      clear hc hc' hp
      go_wp2_with fail
      go_quiet (fail)
      go_wp2
      go_roundw
      case rel => exact ⟨k + 1, by omega, by go_num, _, rfl⟩
      case measure => simp [intOf]; omega
    · have e : k = D.C.length := by omega
      subst e
      go_wp2
      go_ret
      exact ⟨rfl, below_drewN B2.out q⟩
end Go.Proofs.Ytefbaemcdfmhpaa
