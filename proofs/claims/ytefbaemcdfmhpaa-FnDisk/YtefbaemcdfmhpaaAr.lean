/-
  Comparisons of texts, numbers and disks, and drawn disks by their codes.
-/
import Derived.Test.YtefbaemcdfmhpaaDb
import Derived.Test.YtefbaemcdfmhpaaWs
import Derived.Test.YtefbaemcdfmhpaaWa
namespace Go.Proofs.Ytefbaemcdfmhpaa
open Go Go.RowKit
attribute [local go_sem ↓] Go.wp_at_zero Go.wp_at_succ

set_option maxHeartbeats 1000000 in
theorem c_sameS (a a' : Option Addr) (n cap n' cap' : Nat) (zs zs' : List (ByteArray)) (w : World) (hr : RdV w a n (zs.map Value.string)) (hr' : RdV w a' n' (zs'.map Value.string)) (hn : n ≤ 1048576) (hn' : n' ≤ 1048576) :
    Calls Try.prog 55 #[.slice a n cap, .slice a' n' cap'] w fun e w' => e = .returned (.bool (decide (zs = zs'))) ∧ ∃ q, w' = w.drewN q := by
  obtain ⟨hl, hcs⟩ := hr
  obtain ⟨hl', hcs'⟩ := hr'
  simp only [List.length_map] at hl hl'
  by_cases hnn : n = n'
  · subst hnn
    have hll : zs.length = zs'.length := by omega
    go_enter Try.func55, Try.ntmps55
    go_wp2
    go_loopw [5] (fun i wr => ∃ k : Nat, k ≤ n ∧ i = .int .i64 k ∧ Hid (sameToS zs zs' k) ∧ ∃ q, wr = w.drewN q) (fun i _ => n - (intOf i).toNat)
    case atStart => exact ⟨0, by omega, rfl, fun j h => absurd h (by omega), 0, rfl⟩
    case round =>
      obtain ⟨k, hk, rfl, HS, q, rfl⟩ := hrel
      by_cases hlt : k < n
      · obtain ⟨b, off, rfl, _, hc⟩ := hcs (by omega)
        obtain ⟨b', off', rfl, _, hc'⟩ := hcs' (by omega)
        obtain ⟨z, hz⟩ : ∃ z, z = zs.getD k (⟨#[]⟩) := ⟨_, rfl⟩
        obtain ⟨z', hz'⟩ : ∃ z, z = zs'.getD k (⟨#[]⟩) := ⟨_, rfl⟩
        have hck : w.cell? ⟨b, off + k, none⟩ = some (Value.string z) := by rw [hz, hc k hlt]; exact map_get _ _ _ _ (by omega)
        have hck' : w.cell? ⟨b', off' + k, none⟩ = some (Value.string z') := by rw [hz', hc' k hlt]; exact map_get _ _ _ _ (by omega)
        have g1 : (0 : Int) ≤ (k : Int) := by omega
        have g2 : (k : Int) < (n : Int) := by omega
        have HZ : Hid (z = zs.getD k (⟨#[]⟩)) := hz
        have HZ' : Hid (z' = zs'.getD k (⟨#[]⟩)) := hz'
        clear hc hc' hcs hcs' hz hz'
        by_cases he : z = z'
        · have HE : Hid (z = z') := he
          have he1 : (z.toList == z'.toList) = true := by simp [he]
          clear he
          go_wp2_with fail
          go_quiet (fail)
          go_wp2
          go_roundw
          case rel => exact ⟨k + 1, by omega, by go_num, fun j hj => if e : j = k then by rw [e, ← HZ.out, ← HZ'.out]; exact HE.out else HS.out j (by omega), _, rfl⟩
          case measure => simp [intOf]; omega
        · have HE : Hid (¬ z = z') := he
          have he1 : (z.toList == z'.toList) = false := by rw [beq_eq_false_iff_ne]; exact fun e => he (toList_inj e)
          clear he
          go_wp2_with fail
          go_quiet (fail)
          go_wp2
          go_ret
          exact ⟨ret_bool (decide_eq_false fun e => HE.out (by rw [HZ.out, HZ'.out, e])).symm, _, World.drewN_drewN _ _ _⟩
      · have e : k = n := by omega
        subst e
        go_wp2
        go_ret
        exact ⟨ret_bool (decide_eq_true (same_allS hll (by rw [hl]; exact HS.out))).symm, q, rfl⟩
  · have hne : ((n : Int) != (n' : Int)) = true := by simp; omega
    go_enter Try.func55, Try.ntmps55
    go_wp2
    go_ret
    exact ⟨ret_bool (decide_eq_false fun e => hnn (by rw [← hl, ← hl', e])).symm, 0, rfl⟩
set_option maxHeartbeats 1000000 in
theorem c_sameI (a a' : Option Addr) (n cap n' cap' : Nat) (zs zs' : List (Int)) (w : World) (hr : RdV w a n (zs.map (Value.int .i64))) (hr' : RdV w a' n' (zs'.map (Value.int .i64))) (hn : n ≤ 1048576) (hn' : n' ≤ 1048576) :
    Calls Try.prog 56 #[.slice a n cap, .slice a' n' cap'] w fun e w' => e = .returned (.bool (decide (zs = zs'))) ∧ ∃ q, w' = w.drewN q := by
  obtain ⟨hl, hcs⟩ := hr
  obtain ⟨hl', hcs'⟩ := hr'
  simp only [List.length_map] at hl hl'
  by_cases hnn : n = n'
  · subst hnn
    have hll : zs.length = zs'.length := by omega
    go_enter Try.func56, Try.ntmps56
    go_wp2
    go_loopw [5] (fun i wr => ∃ k : Nat, k ≤ n ∧ i = .int .i64 k ∧ Hid (sameToI zs zs' k) ∧ ∃ q, wr = w.drewN q) (fun i _ => n - (intOf i).toNat)
    case atStart => exact ⟨0, by omega, rfl, fun j h => absurd h (by omega), 0, rfl⟩
    case round =>
      obtain ⟨k, hk, rfl, HS, q, rfl⟩ := hrel
      by_cases hlt : k < n
      · obtain ⟨b, off, rfl, _, hc⟩ := hcs (by omega)
        obtain ⟨b', off', rfl, _, hc'⟩ := hcs' (by omega)
        obtain ⟨z, hz⟩ : ∃ z, z = zs.getD k (0) := ⟨_, rfl⟩
        obtain ⟨z', hz'⟩ : ∃ z, z = zs'.getD k (0) := ⟨_, rfl⟩
        have hck : w.cell? ⟨b, off + k, none⟩ = some ((Value.int .i64) z) := by rw [hz, hc k hlt]; exact map_get _ _ _ _ (by omega)
        have hck' : w.cell? ⟨b', off' + k, none⟩ = some ((Value.int .i64) z') := by rw [hz', hc' k hlt]; exact map_get _ _ _ _ (by omega)
        have g1 : (0 : Int) ≤ (k : Int) := by omega
        have g2 : (k : Int) < (n : Int) := by omega
        have HZ : Hid (z = zs.getD k (0)) := hz
        have HZ' : Hid (z' = zs'.getD k (0)) := hz'
        clear hc hc' hcs hcs' hz hz'
        by_cases he : z = z'
        · have HE : Hid (z = z') := he
          have he1 : (z != z') = false := by simp [he]
          clear he
          go_wp2_with fail
          go_quiet (fail)
          go_wp2
          go_roundw
          case rel => exact ⟨k + 1, by omega, by go_num, fun j hj => if e : j = k then by rw [e, ← HZ.out, ← HZ'.out]; exact HE.out else HS.out j (by omega), _, rfl⟩
          case measure => simp [intOf]; omega
        · have HE : Hid (¬ z = z') := he
          have he1 : (z != z') = true := by simpa using he
          clear he
          go_wp2_with fail
          go_quiet (fail)
          go_wp2
          go_ret
          exact ⟨ret_bool (decide_eq_false fun e => HE.out (by rw [HZ.out, HZ'.out, e])).symm, _, World.drewN_drewN _ _ _⟩
      · have e : k = n := by omega
        subst e
        go_wp2
        go_ret
        exact ⟨ret_bool (decide_eq_true (same_allI hll (by rw [hl]; exact HS.out))).symm, q, rfl⟩
  · have hne : ((n : Int) != (n' : Int)) = true := by simp; omega
    go_enter Try.func56, Try.ntmps56
    go_wp2
    go_ret
    exact ⟨ret_bool (decide_eq_false fun e => hnn (by rw [← hl, ← hl', e])).symm, 0, rfl⟩

set_option maxHeartbeats 2000000 in
theorem c_sameDisk (h h' : HD) (D : DD) (w : World) (r : RdD w h D) (r' : RdD w h' D) (hf : Fit D) (hC : D.C = []) :
    Calls Try.prog 23 #[.agg #[.slice h.a0 h.n0 h.c0, .slice h.a1 h.n1 h.c1, .bool h.b, .slice h.a2 h.n2 h.c2], .agg #[.slice h'.a0 h'.n0 h'.c0, .slice h'.a1 h'.n1 h'.c1, .bool h'.b, .slice h'.a2 h'.n2 h'.c2]] w fun e w' => e = .returned (.bool true) ∧ Below w.heap.size w w' := by
  have k0 := r.l0
  have k1 := r.l1
  have k2 := r.l2
  have k0' := r'.l0
  have k1' := r'.l1
  have k2' := r'.l2
  rw [hC] at k1 k1'
  obtain ⟨f0, f1, f2, _, _⟩ := hf
  obtain ⟨rb, r0, r1, r2⟩ := r
  obtain ⟨rb', r0', r1', r2'⟩ := r'
  obtain ⟨a0, n0, c0, a1, n1, c1, b, a2, n2, c2⟩ := h
  obtain ⟨a0', n0', c0', a1', n1', c1', b', a2', n2', c2'⟩ := h'
  simp only [List.length_nil] at *
  subst k0 k1 k2 k0' k1' k2' rb rb'
  have R0 : Hid (RdV w a0 D.S.length (D.S.map Value.string)) := r0
  have R2 : Hid (RdV w a2 D.K.length (D.K.map (Value.int .i64))) := r2
  have R0' : Hid (RdV w a0' D.S.length (D.S.map Value.string)) := r0'
  have R2' : Hid (RdV w a2' D.K.length (D.K.map (Value.int .i64))) := r2'
  clear r0 r1 r2 r0' r1' r2'
  obtain ⟨V, hV⟩ : ∃ V, (w.alloc (.cells #[.slice a0 D.S.length c0, .slice a1 0 c1, .bool D.A, .slice a2 D.K.length c2] 27)).alloc (.cells #[.slice a0' D.S.length c0', .slice a1' 0 c1', .bool D.A, .slice a2' D.K.length c2'] 27) = V := ⟨_, rfl⟩
  have HB : Hid (Below w.heap.size w V) := by unfold Hid; rw [← hV]; exact ((Below.refl _ _).alloc (Nat.le_refl _) _).alloc (by simp) _
  have x1 : Box V w.heap.size 27 #[.slice a0 D.S.length c0, .slice a1 0 c1, .bool D.A, .slice a2 D.K.length c2] := by rw [← hV]; exact (Box.new _ _ _).alloc _
  have x2 : Box V (w.heap.size + 1) 27 #[.slice a0' D.S.length c0', .slice a1' 0 c1', .bool D.A, .slice a2' D.K.length c2'] := by rw [← hV]; exact Box.new2 _ _ _ _
  obtain ⟨v0, v1, v2, v3⟩ := box4 x1
  obtain ⟨u0, u1, u2, u3⟩ := box4 x2
  have HX1 : Hid (Box V w.heap.size 27 _) := x1
  have HX2 : Hid (Box V (w.heap.size + 1) 27 _) := x2
  clear x1 x2
  have hbn : (D.A != D.A) = false := by simp
  go_enter Try.func23, Try.ntmps23
  go_wp2_with fail
  refine (c_sameS a0 a0' _ c0 _ c0' D.S D.S _ (R0.out.below HB.out) (R0'.out.below HB.out) f0 f0).mono ?_
  rintro e w1 ⟨rfl, q1, hq⟩
  have hb1 : Below w.heap.size w w1 := by rw [hq]; exact below_drewN HB.out q1
  have y1 := HX1.out.drewN q1
  have y2 := HX2.out.drewN q1
  rw [← hq] at y1 y2
  clear hq v0 v1 v2 v3 u0 u1 u2 u3
  rw [decide_eq_true (rfl : D.S = D.S)]
  obtain ⟨v0, v1, v2, v3⟩ := box4 y1
  obtain ⟨u0, u1, u2, u3⟩ := box4 y2
  go_wp2_with fail
  refine (c_sameI a2 a2' _ c2 _ c2' D.K D.K w1 (R2.out.below hb1) (R2'.out.below hb1) f2 f2).mono ?_
  rintro e w2 ⟨rfl, q2, hq⟩
  have hb2 : Below w.heap.size w w2 := by rw [hq]; exact below_drewN hb1 q2
  have z1 := y1.drewN q2
  have z2 := y2.drewN q2
  rw [← hq] at z1 z2
  clear hq v0 v1 v2 v3 u0 u1 u2 u3 y1 y2
  rw [decide_eq_true (rfl : D.K = D.K)]
  obtain ⟨v0, v1, v2, v3⟩ := box4 z1
  go_wp2
  refine wp_loop_rounds 1 ?_
  rw [rounds_succ]
  go_wp2
  go_ret
  exact ⟨rfl, hb2⟩

theorem c_source (a : Option Addr) (n c : Nat) (zs : List Int) (w : World) (hr : RdV w a n (zs.map (Value.int .u8))) (hz : ∀ z ∈ zs, 0 ≤ z ∧ z < 256) (hn : n ≤ 1048576) :
    Calls Try.prog 42 #[.slice a n c] w fun e w' => e = .returned (.pointer (some ⟨w.heap.size, 0, none⟩)) ∧ Drw w w' w.heap.size a n c 0 zs ∧ Below w.heap.size w w' := by
  have HR : Hid (RdV w a n (zs.map (Value.int .u8))) := hr
  have HZ : Hid (∀ z ∈ zs, 0 ≤ z ∧ z < 256) := hz
  have hm : (n : Int).tmod 1000 = (n : Int) % 1000 := Int.tmod_eq_emod_of_nonneg (by omega)
  have hw : IntKind.i64.wrap ((n : Int) % 1000) = (n : Int) % 1000 := by simp [IntKind.wrap_i64]; omega
  clear hr hz
  go_enter Try.func42, Try.ntmps42
  go_wp2
  go_ret
  have hb : Below w.heap.size w (w.alloc (.cells #[.slice a n c, .int .i64 0, .int .i64 ((n : Int) % 1000)] 83)) := (Below.refl _ _).alloc (Nat.le_refl _) _
  exact ⟨rfl, ⟨HR.out, HZ.out, by unfold maxLen; omega, Nat.le_refl _, hb, ⟨0, (n : Int) % 1000, Box.new _ _ _, by omega, by omega, by omega, by omega⟩⟩, hb⟩

set_option maxHeartbeats 2000000 in
theorem c_diskOf (a : Option Addr) (n c : Nat) (zs : List Int) (w : World) (hr : RdV w a n (zs.map (Value.int .u8))) (hz : ∀ z ∈ zs, 0 ≤ z ∧ z < 256) (hn : n ≤ 1048576) :
    Calls Try.prog 13 #[.slice a n c] w fun e w' => (∃ (h' : HD) (D : DD), e = .returned (.agg #[.slice h'.a0 h'.n0 h'.c0, .slice h'.a1 h'.n1 h'.c1, .bool h'.b, .slice h'.a2 h'.n2 h'.c2]) ∧ OwnD w' w.heap.size w'.heap.size h' D ∧ okD D = true ∧ D.C.length ≤ 7) ∧ Below w.heap.size w w' := by
  have HR : Hid (RdV w a n (zs.map (Value.int .u8))) := hr
  have HZ : Hid (∀ z ∈ zs, 0 ≤ z ∧ z < 256) := hz
  obtain ⟨V, hV⟩ : ∃ V, w.alloc (.cells #[.slice none 0 0, .slice none 0 0, .bool false, .slice none 0 0] 27) = V := ⟨_, rfl⟩
  have HB : Hid (Below w.heap.size w V) := by unfold Hid; rw [← hV]; exact (Below.refl _ _).alloc (Nat.le_refl _) _
  have BR : Hid (Box V w.heap.size 27 #[.slice none 0 0, .slice none 0 0, .bool false, .slice none 0 0]) := by unfold Hid; rw [← hV]; exact Box.new _ _ _
  clear hr hz
  go_enter Try.func13, Try.ntmps13
  go_wp2_with fail
  refine (c_source a n c zs V (HR.out.below HB.out) HZ.out hn).mono ?_
  rintro e w1 ⟨rfl, hd, hb1⟩
  have HD1 : Hid (Drw V w1 V.heap.size a n c 0 zs) := hd
  have B1 : Hid (Below w.heap.size w w1) := HB.out.trans (hb1.mono HB.out.size)
  have BR1 : Hid (Box w1 w.heap.size 27 #[.slice none 0 0, .slice none 0 0, .bool false, .slice none 0 0]) := BR.out.belowS hb1
  have lV := BR.out.lt
  have s1 : V.heap.size ≤ w1.heap.size := hb1.size
  clear hd hb1
  go_wp2_with fail
  refine (c_disk V w1 V.heap.size a n c 0 zs HD1.out (by omega)).mono ?_
  rintro e w2 ⟨⟨h', D, rfl, o, hok, hC7⟩, _, hi⟩
  have B2 : Hid (Below w.heap.size w w2) := B1.out.trans (hi.below (by omega) (by omega))
  have y1 := BR1.out.innO hi (.inl lV)
  have O : Hid (∀ W : World, W.heap.size = w2.heap.size → (∀ g, g ≠ w.heap.size → W.heap[g]? = w2.heap[g]?) → OwnD W w.heap.size W.heap.size h' D) := fun W hs hg => o.put (by omega) hs (by omega) hg
  have HOK1 : Hid (okD D = true) := hok
  have BR2 : Hid (Box w2 w.heap.size 27 #[.slice none 0 0, .slice none 0 0, .bool false, .slice none 0 0]) := y1
  obtain ⟨y0, yy1, y2, y3⟩ := box4 y1
  have z0 := y1.thaw 0
  have z1 := y1.thaw 1
  have z2 := y1.thaw 2
  have z3 := y1.thaw 3
  clear o hi y1 hok
  go_wp2
  refine ret_box1 Try.results13 rfl rfl (put4_box BR2.out _ _ _ _) ⟨⟨h', D, rfl, O.out _ (by simp) (fun g hg => put4_same _ _ _ _ _ _ _ hg), HOK1.out, hC7⟩, put4_below B2.out (Nat.le_refl _) _ _ _ _⟩

set_option maxHeartbeats 2000000 in
theorem c_keepsOf (a : Option Addr) (n c : Nat) (zs : List Int) (w : World) (hr : RdV w a n (zs.map (Value.int .u8))) (hz : ∀ z ∈ zs, 0 ≤ z ∧ z < 256) (hn : n ≤ 1048576) :
    Calls Try.prog 20 #[.slice a n c] w fun e w' => (∃ (K : List Int) (a' : Option Addr) (c' : Nat), e = .returned (.slice a' K.length c') ∧ K.length ≤ 11 ∧ w'.ownsRow w.heap.size 3 1 (.slice a' K.length c') K.length (K.map (Value.int .i64))) ∧ Below w.heap.size w w' := by
  have HR : Hid (RdV w a n (zs.map (Value.int .u8))) := hr
  have HZ : Hid (∀ z ∈ zs, 0 ≤ z ∧ z < 256) := hz
  clear hr hz
  go_enter Try.func20, Try.ntmps20
  go_wp2_with fail
  refine (c_source a n c zs w HR.out HZ.out hn).mono ?_
  rintro e w1 ⟨rfl, hd, hb1⟩
  have HD1 : Hid (Drw w w1 w.heap.size a n c 0 zs) := hd
  have B1 : Hid (Below w.heap.size w w1) := hb1
  have s1 : w.heap.size ≤ w1.heap.size := hb1.size
  clear hd hb1
  go_wp2_with fail
  refine (c_keeps w w1 w.heap.size a n c 0 zs HD1.out (by omega)).mono ?_
  rintro e w2 ⟨⟨K, a', c', rfl, hK, o⟩, _, hi⟩
  have B2 : Hid (Below w.heap.size w w2) := B1.out.trans (hi.below (by omega) (by omega))
  have O : Hid (w2.ownsRow w.heap.size 3 1 (.slice a' K.length c') K.length (K.map (Value.int .i64))) := o.down s1
  clear o hi
  go_wp2
  go_ret
  exact ⟨⟨K, a', c', rfl, hK, O.out⟩, B2.out⟩
end Go.Proofs.Ytefbaemcdfmhpaa
