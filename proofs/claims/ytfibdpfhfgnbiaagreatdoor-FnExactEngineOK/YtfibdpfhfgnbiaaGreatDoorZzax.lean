/-
  Right engines: what it takes to undo all, and the room: the program's undoNeeds and room.
-/
import Derived.Test.YtfibdpfhfgnbiaaGreatDoorZzaw
import Derived.Test.YtfibdpfhfgnbiaaGreatDoorZzam
import Derived.Test.YtfibdpfhfgnbiaaGreatDoorZzal
import Derived.Deep.RegionHeld3
namespace Go.Proofs.YtfibdpfhfgnbiaaGreatDoor
open Go Go.RowKit
attribute [local go_sem ↓] Go.wp_at_zero Go.wp_at_succ

/-- What it takes to undo all. -/
def resT (L : List DR) : List X.WK → Nat
  | [] => 0
  | v :: vs => und L v.f.toNat + 1 + resT L vs
theorem resT_at {L : List DR} {vs : List X.WK} {k : Nat} (h : k < vs.length) : resT L (vs.drop k) = und L (vs.getD k X.dW).f.toNat + 1 + resT L (vs.drop (k + 1)) := by
  rw [List.drop_eq_getElem_cons h, List.getD_eq_getElem?_getD, List.getElem?_eq_getElem h]
  rfl
theorem unF_le (L : List DR) : ∀ f m : Nat, unF L f m ≤ f
  | 0, _ => Nat.le_refl _
  | f + 1, 0 => Nat.zero_le _
  | f + 1, m + 1 => by
    have h1 := unF_le L f (L.getD m zeroR).n.toNat
    have h2 := unF_le L f (L.getD m zeroR).p.toNat
    unfold unF
    split
    · omega
    · split <;> omega
theorem und_le (L : List DR) (m : Nat) : und L m ≤ m := unF_le L m m
set_option maxRecDepth 100000 in
set_option maxHeartbeats 4000000 in
theorem c_l07Res (h : HD) (ep : Int) (la : Option Addr) (ln lc : Nat) (Lg : List DR) (su : Int) (fa : Option Addr) (fn fc : Nat) (ha : Int) (up : Bool) (ta : Option Addr) (tc : Nat) (T : List X.WK) (k : L.HL) (K : List L.LK) (Wt : List L.WK) (nx : Int) (w : World) (rl : RdQ w la ln Lg) (hln : ln ≤ 60) (hp : Pln Lg) (rt : X.RdW w ta T.length T) (htn : T.length ≤ 10) (hT : ∀ v ∈ T, 0 ≤ v.f ∧ v.f ≤ (ln : Int)) :
    Calls Tryz.prog 56 #[.agg #[.slice h.a0 h.n0 h.c0, .slice h.a1 h.n1 h.c1, .bool h.b, .slice h.a2 h.n2 h.c2, .int .i64 ep, .slice la ln lc, .int .i64 su, .slice fa fn fc, .int .i64 ha, .bool up, .slice ta T.length tc, .slice k.a0 K.length k.c0, .slice k.a1 Wt.length k.c1, .int .i64 nx]] w fun e w' => e = .returned (.int .i64 (resT Lg T : Int)) ∧ Below w.heap.size w w' := by
  obtain ⟨V, hV⟩ : ∃ V, w.alloc (.cells #[.slice h.a0 h.n0 h.c0, .slice h.a1 h.n1 h.c1, .bool h.b, .slice h.a2 h.n2 h.c2, .int .i64 ep, .slice la ln lc, .int .i64 su, .slice fa fn fc, .int .i64 ha, .bool up, .slice ta T.length tc, .slice k.a0 K.length k.c0, .slice k.a1 Wt.length k.c1, .int .i64 nx] 53) = V := ⟨_, rfl⟩
  have B0 : Hid (Below w.heap.size w V) := by unfold Hid; rw [← hV]; exact (Below.refl _ _).alloc (Nat.le_refl _) _
  have X0 : Hid (Box V w.heap.size 53 #[.slice h.a0 h.n0 h.c0, .slice h.a1 h.n1 h.c1, .bool h.b, .slice h.a2 h.n2 h.c2, .int .i64 ep, .slice la ln lc, .int .i64 su, .slice fa fn fc, .int .i64 ha, .bool up, .slice ta T.length tc, .slice k.a0 K.length k.c0, .slice k.a1 Wt.length k.c1, .int .i64 nx]) := by unfold Hid; rw [← hV]; exact Box.new _ _ _
  have CU : Hid (∀ (m : Nat) (W : World), m ≤ ln → Below w.heap.size w W → Calls Tryz.prog 122 #[.agg #[.slice h.a0 h.n0 h.c0, .slice h.a1 h.n1 h.c1, .bool h.b, .slice h.a2 h.n2 h.c2, .int .i64 ep, .slice la ln lc, .int .i64 su, .slice fa fn fc, .int .i64 ha], .int .i64 (m : Int)] W fun e w' => e = .returned (.int .i64 ((und Lg m + 1 : Nat) : Int)) ∧ Below W.heap.size W w') := fun m W hm hW => c_l07Undo h ep la ln lc Lg su fa fn fc ha m W (rl.below hW) (by omega) hp hm
  have HT : Hid (∀ v ∈ T, 0 ≤ v.f ∧ v.f ≤ (ln : Int)) := hT
  obtain ⟨hl, hcs⟩ := rt
  clear rl hp hT
  go_enter Tryz.func56, Tryz.ntmps56
  go_wp2
  go_loopw [3, 4] (fun n i wr => ∃ (m c : Nat), m ≤ T.length ∧ c ≤ m * 61 ∧ i = .int .i64 m ∧ n = .int .i64 c ∧ Hid (c + resT Lg (T.drop m) = resT Lg T) ∧ Hid (Box wr w.heap.size 53 #[.slice h.a0 h.n0 h.c0, .slice h.a1 h.n1 h.c1, .bool h.b, .slice h.a2 h.n2 h.c2, .int .i64 ep, .slice la ln lc, .int .i64 su, .slice fa fn fc, .int .i64 ha, .bool up, .slice ta T.length tc, .slice k.a0 K.length k.c0, .slice k.a1 Wt.length k.c1, .int .i64 nx]) ∧ Hid (Below w.heap.size w wr)) (fun _ i _ => T.length - (intOf i).toNat)
  case atStart => exact ⟨0, 0, by omega, by omega, rfl, rfl, by unfold Hid; simp, X0, B0⟩
  case round =>
    clear X0 B0 hV
    obtain ⟨m, c, hm, hcm, rfl, rfl, HI, X1, B1⟩ := hrel
    obtain ⟨x0, x1, x2, x3, x4, x5, x6, x7, x8, x9, x10, x11, x12, x13⟩ := box14 X1.out
    by_cases hlt : m < T.length
    · obtain ⟨b, off, hta, hbl, hc⟩ := hcs (by omega)
      rw [hta] at x10
      have d1 := (hc m hlt).2
      have HA := resT_at (L := Lg) (vs := T) (k := m) hlt
      have hr := getD_of (d := X.dW) HT.out hlt
      obtain ⟨vf, hq⟩ : ∃ q, q = (T.getD m X.dW).f := ⟨_, rfl⟩
      rw [← hq] at d1 HA hr
      obtain ⟨r0, r1⟩ := hr
      obtain ⟨j, rfl⟩ := Int.eq_ofNat_of_zero_le r0
      have e1 := (B1.out.cell (p := ⟨b, off + m * 2 + 1, none⟩) hbl).trans d1
      have C : Hid (∀ W, Below w.heap.size w W → Calls Tryz.prog 122 #[.agg #[.slice h.a0 h.n0 h.c0, .slice h.a1 h.n1 h.c1, .bool h.b, .slice h.a2 h.n2 h.c2, .int .i64 ep, .slice la ln lc, .int .i64 su, .slice fa fn fc, .int .i64 ha], .int .i64 (j : Int)] W fun e w' => e = .returned (.int .i64 ((und Lg j + 1 : Nat) : Int)) ∧ Below W.heap.size W w') := fun W hW => CU.out j W (by omega) hW
      have hul : und Lg j ≤ j := und_le Lg j
      obtain ⟨u, hu⟩ : ∃ u, u = und Lg j := ⟨_, rfl⟩
      rw [← hu] at C hul
      have HI2 : Hid (c + (u + 1) + resT Lg (T.drop (m + 1)) = resT Lg T) := by unfold Hid; rw [← HI.out, HA, hu]; simp; omega
      have g1 : (0 : Int) ≤ (m : Int) := by omega
      have g2 : (m : Int) < (T.length : Int) := by omega
      clear hc hcs HA d1 hq hu hta HI CU
      go_wp2_with fail
      have qe := fun r : Out wr => q_cell e1 r
      have qx0 := fun r : Out wr => q_cell x0 r
      have qx1 := fun r : Out wr => q_cell x1 r
      have qx2 := fun r : Out wr => q_cell x2 r
      have qx3 := fun r : Out wr => q_cell x3 r
      have qx4 := fun r : Out wr => q_cell x4 r
      have qx5 := fun r : Out wr => q_cell x5 r
      have qx6 := fun r : Out wr => q_cell x6 r
      have qx7 := fun r : Out wr => q_cell x7 r
      have qx8 := fun r : Out wr => q_cell x8 r
      have qx9 := fun r : Out wr => q_cell x9 r
      have qx10 := fun r : Out wr => q_cell x10 r
      have qx11 := fun r : Out wr => q_cell x11 r
      have qx12 := fun r : Out wr => q_cell x12 r
      have qx13 := fun r : Out wr => q_cell x13 r
      clear x0 x1 x2 x3 x4 x5 x6 x7 x8 x9 x10 x11 x12 x13 e1
      haveI nonE := Out.some wr
      refine q_begin (by kernel_rfl) (by kernel_rfl) ?_
      repeat (go_big_quiet_step (exact q_call (C.out _ (B1.out.trans ((Out.p _).mono B1.out.size)))))
      refine wpQuiet_nil ?_
      rintro w3 ⟨⟨y', hb3⟩, hy⟩
      have hy' : w3 = y' := hy
      clear hy
      subst hy'
      have B3 : Hid (Below w.heap.size w w3) := B1.out.trans (hb3.mono B1.out.size)
      have X3 : Hid (Box w3 w.heap.size 53 #[.slice h.a0 h.n0 h.c0, .slice h.a1 h.n1 h.c1, .bool h.b, .slice h.a2 h.n2 h.c2, .int .i64 ep, .slice la ln lc, .int .i64 su, .slice fa fn fc, .int .i64 ha, .bool up, .slice ta T.length tc, .slice k.a0 K.length k.c0, .slice k.a1 Wt.length k.c1, .int .i64 nx]) := X1.out.belowS hb3
      clear hb3 qe qx0 qx1 qx2 qx3 qx4 qx5 qx6 qx7 qx8 qx9 qx10 qx11 qx12 qx13 C B1 X1
      go_wp2
      go_roundw
      case rel => exact ⟨m + 1, c + (u + 1), by omega, by omega, by go_num, by go_num, HI2, X3, B3⟩
      case measure => simp [intOf]; omega
    · have E : Hid (((c : Nat) : Int) = (resT Lg T : Int)) := by unfold Hid; have := HI.out; rw [List.drop_eq_nil_of_le (by omega)] at this; have e : resT Lg [] = 0 := rfl; rw [e] at this; omega
      have hge : ¬ (m : Int) < (T.length : Int) := by omega
      go_wp2
      go_ret
      exact ⟨ret_int E.out, B1.out⟩

end Go.Proofs.YtfibdpfhfgnbiaaGreatDoor
namespace Go.Proofs.YtfibdpfhfgnbiaaGreatDoor
open Go Go.RowKit
attribute [local go_sem ↓] Go.wp_at_zero Go.wp_at_succ

set_option maxRecDepth 100000 in
set_option maxHeartbeats 4000000 in
theorem c_toUndo (la : Option Addr) (ln lc : Nat) (Lg : List DR) (m0 : Nat) (w : World) (rl : RdQ w la ln Lg) (hln : ln ≤ 60) (hp : Pln Lg) (hm0 : m0 ≤ ln) :
    Calls Tryz.prog 168 #[.slice la ln lc, .int .i64 (m0 : Int), .int .i64 0] w fun e w' => (∃ a c, e = .returned (.slice a (und Lg m0) c)) ∧ Below w.heap.size w w' := by
  have HP : Hid (Pln Lg) := hp
  obtain ⟨hl, hcs⟩ := rl
  obtain ⟨i0, hi, hz0, hz1, hz2⟩ := info_parts infoQ
  clear hp
  go_enter Tryz.func168, Tryz.ntmps168
  go_wp2
  go_loopw [7, 8] (fun u l wr => ∃ (m c : Nat) (acc : List DR) (av : Option Addr) (cv : Nat), m ≤ ln ∧ c + m ≤ m0 ∧ l = .int .i64 m ∧ u = .slice av c cv ∧ Hid (c + und Lg m = und Lg m0) ∧ Hid (wr.ownsRow w.heap.size 78 10 (.slice av c cv) c (cellsQ acc)) ∧ Hid (Below w.heap.size w wr)) (fun _ l _ => (intOf l).toNat)
  case atStart => exact ⟨m0, 0, [], none, 0, hm0, by omega, rfl, rfl, by unfold Hid; omega, World.ownsRow_nil w w.heap.size 78 10, Below.refl _ _⟩
  case round =>
    obtain ⟨m, c, acc, av, cv, hm, hcm, rfl, rfl, HI, HO, B1⟩ := hrel
    cases m with
    | zero =>
      have E : c = und Lg m0 := by have := HI.out; have e : und Lg 0 = 0 := rfl; rw [e] at this; omega
      have HE : Hid (c = und Lg m0) := E
      clear E
      go_wp2
      go_ret
      exact ⟨⟨av, cv, by rw [← HE.out]; first | done | rfl⟩, B1.out⟩
    | succ m =>
      obtain ⟨b, off, rfl, hbl, hc⟩ := hcs (by omega)
      obtain ⟨⟨ve, vl, vt, vk, vp, vn, vg, vz, vb, va⟩, hv⟩ : ∃ v, v = Lg.getD m zeroR := ⟨_, rfl⟩
      obtain ⟨d0, d1, d2, d3, d4, d5, d6, d7, d8, d9⟩ := RdQ.at hc (show m < ln by omega) hv
      dsimp only at d0 d1 d2 d3 d4 d5 d6 d7 d8 d9
      have HA := und_at HP.out (show m < Lg.length by omega)
      have H1 := HP.out.1 m (by omega)
      have H2 := HP.out.2 m (by omega)
      rw [← hv] at HA H1 H2
      dsimp only at HA H1 H2
      obtain ⟨hl1, p0, p1⟩ := H1
      clear hl1
      obtain ⟨n0, n1⟩ := H2
      obtain ⟨vp, rfl⟩ := Int.eq_ofNat_of_zero_le p0
      obtain ⟨vn, rfl⟩ := Int.eq_ofNat_of_zero_le n0
      have HA' : Hid (_ = _) := HA
      have g1 : (0 : Int) ≤ (m : Int) := by omega
      have g2 : (m : Int) < (ln : Int) := by omega
      have e0 := (B1.out.cell (p := ⟨b, off + m * 10, none⟩) hbl).trans d0
      have e1 := (B1.out.cell (p := ⟨b, off + m * 10 + 1, none⟩) hbl).trans d1
      have e2 := (B1.out.cell (p := ⟨b, off + m * 10 + 2, none⟩) hbl).trans d2
      have e3 := (B1.out.cell (p := ⟨b, off + m * 10 + 3, none⟩) hbl).trans d3
      have e4 := (B1.out.cell (p := ⟨b, off + m * 10 + 4, none⟩) hbl).trans d4
      have e5 := (B1.out.cell (p := ⟨b, off + m * 10 + 5, none⟩) hbl).trans d5
      have e6 := (B1.out.cell (p := ⟨b, off + m * 10 + 6, none⟩) hbl).trans d6
      have e7 := (B1.out.cell (p := ⟨b, off + m * 10 + 7, none⟩) hbl).trans d7
      have e8 := (B1.out.cell (p := ⟨b, off + m * 10 + 8, none⟩) hbl).trans d8
      have e9 := (B1.out.cell (p := ⟨b, off + m * 10 + 9, none⟩) hbl).trans d9
      obtain ⟨W, hW⟩ : ∃ W, wr.alloc (.cells #[.int .i64 ve, .int .i64 vl, .int .i64 vt, .int .i64 vk, .int .i64 (vp : Int), .int .i64 (vn : Int), .int .i64 vg, .int .i64 vz, .string vb, .string va] 78) = W := ⟨_, rfl⟩
      have hbA : Below wr.heap.size wr W := by rw [← hW]; exact (Below.refl _ _).alloc (Nat.le_refl _) _
      have HN : Hid (Box W wr.heap.size 78 #[.int .i64 ve, .int .i64 vl, .int .i64 vt, .int .i64 vk, .int .i64 (vp : Int), .int .i64 (vn : Int), .int .i64 vg, .int .i64 vz, .string vb, .string va]) := by unfold Hid; rw [← hW]; exact Box.new _ _ _
      have HOO : Hid (W.ownsRow w.heap.size 78 10 (.slice av c cv) c (cellsQ acc)) := own_below HO.out hbA
      have B2 : Hid (Below w.heap.size w W) := B1.out.trans (hbA.mono B1.out.size)
      clear hc hcs hv HA d0 d1 d2 d3 d4 d5 d6 d7 d8 d9 hbA HO B1
      obtain ⟨y0, y1, y2, y3, y4, y5, y6, y7, y8, y9⟩ := box10 HN.out
      by_cases hk : vk = 3
      · have HI2 : Hid (c + und Lg vn = und Lg m0) := by unfold Hid; rw [← HI.out, HA'.out, if_pos hk]; simp
        have hkk : (vk == 3) = true := by simpa using hk
        have hk3 : (vk = 3) = True := eq_true hk
        clear HI HA' hk
        go_wp2
        go_roundw
        case rel => exact ⟨vn, c, acc, av, cv, by omega, by omega, rfl, rfl, HI2, HOO, B2⟩
        case measure => simp [intOf]; omega
      · by_cases h2 : vk = 2
        · have HI2 : Hid (c + 1 + und Lg vp = und Lg m0) := by unfold Hid; rw [← HI.out, HA'.out, if_neg hk, if_pos h2]; simp; omega
          have hkk : (vk == 2) = true := by simpa using h2
          have hk2 : (vk = 2) = True := eq_true h2
          have hk3 : (vk == 3) = false := by simpa using hk
          have hk4 : (vk = 3) = False := eq_false hk
          have BS := B2.out.size
          clear HI HA' h2 hk
          go_wp2_with (at_builtin; refine app_any _ rfl (.tmp 29) (.tmp 31) 43 rfl w.heap.size 78 i0 (.agg #[.int .i64 0, .int .i64 0, .int .i64 0, .int .i64 0, .int .i64 0, .int .i64 0, .int .i64 0, .int .i64 0, .string ⟨#[]⟩, .string ⟨#[]⟩]) 10 96 Tryz.underlying43 hi hz0 hz1 hz2 rfl (by omega) (.slice av c cv) c (cellsQ acc) rfl (by exact HOO.out.alloc _) (some ⟨W.heap.size, 0, none⟩) 1 1 (cQ ⟨ve, vl, vt, vk, (vp : Int), (vn : Int), vg, vz, vb, va⟩) rfl (fun h => by cases h) rfl (fun ad e => by cases e; exact box_newQ (v := ⟨ve, vl, vt, vk, (vp : Int), (vn : Int), vg, vz, vb, va⟩) (Box.new _ _ _)) (cQ_one _) (by unfold maxLen; omega) (by omega) (by simp; omega) ?_; intro a6 c6 w6 ho hg hkk6)
          have HO6 : Hid (w6.ownsRow w.heap.size 78 10 (.slice a6 (c + 1) c6) (c + 1) (cellsQ (acc ++ [⟨ve, vl, vt, vk, (vp : Int), (vn : Int), vg, vz, vb, va⟩]))) := by unfold Hid; rw [cellsQ_append]; simpa [cellsQ] using ho
          have B6 : Hid (Below w.heap.size w w6) := (B2.out.alloc B2.out.size _).grown hg (by simp; omega) (fun g e => by rw [ob_slice] at e; exact (HOO.out.lt g (by rw [ob_slice]; exact e)).1)
          clear ho hg hkk6
          go_wp2
          go_roundw
          case rel => exact ⟨vp, c + 1, _, a6, c6, by omega, by omega, rfl, rfl, HI2, HO6, B6⟩
          case measure => simp [intOf]; omega
        · have HI2 : Hid (c + und Lg vp = und Lg m0) := by unfold Hid; rw [← HI.out, HA'.out, if_neg hk, if_neg h2]; simp
          have hkk : (vk == 2) = false := by simpa using h2
          have hk3 : (vk == 3) = false := by simpa using hk
          clear HI HA'
          go_wp2
          go_roundw
          case rel => exact ⟨vp, c, acc, av, cv, by omega, by omega, rfl, rfl, HI2, HOO, B2⟩
          case measure => simp [intOf]; omega

end Go.Proofs.YtfibdpfhfgnbiaaGreatDoor
namespace Go.Proofs.YtfibdpfhfgnbiaaGreatDoor
open Go Go.RowKit
attribute [local go_sem ↓] Go.wp_at_zero Go.wp_at_succ

set_option maxRecDepth 100000 in
set_option maxHeartbeats 4000000 in
theorem c_undoNeeds (h : HD) (ep : Int) (la : Option Addr) (ln lc : Nat) (Lg : List DR) (su : Int) (fa : Option Addr) (fn fc : Nat) (ha : Int) (up : Bool) (ta : Option Addr) (tc : Nat) (T : List X.WK) (k : L.HL) (K : List L.LK) (Wt : List L.WK) (nx : Int) (g : Nat) (w : World) (hx : Box w g 53 #[.slice h.a0 h.n0 h.c0, .slice h.a1 h.n1 h.c1, .bool h.b, .slice h.a2 h.n2 h.c2, .int .i64 ep, .slice la ln lc, .int .i64 su, .slice fa fn fc, .int .i64 ha, .bool up, .slice ta T.length tc, .slice k.a0 K.length k.c0, .slice k.a1 Wt.length k.c1, .int .i64 nx]) (rl : RdQ w la ln Lg) (hln : ln ≤ 60) (hp : Pln Lg) (rt : X.RdW w ta T.length T) (htn : T.length ≤ 10) (hT : ∀ v ∈ T, 0 ≤ v.f ∧ v.f ≤ (ln : Int)) :
    Calls Tryz.prog 85 #[.pointer (some ⟨g, 0, none⟩)] w fun e w' => e = .returned (.int .i64 (resT Lg T : Int)) ∧ Below w.heap.size w w' := by
  have CU : Hid (∀ (m : Nat) (W : World), m ≤ ln → Below w.heap.size w W → Calls Tryz.prog 168 #[.slice la ln lc, .int .i64 (m : Int), .int .i64 0] W fun e w' => (∃ a c, e = .returned (.slice a (und Lg m) c)) ∧ Below W.heap.size W w') := fun m W hm hW => c_toUndo la ln lc Lg m W (rl.below hW) hln hp hm
  have HT : Hid (∀ v ∈ T, 0 ≤ v.f ∧ v.f ≤ (ln : Int)) := hT
  have HX : Hid (Box w g 53 #[.slice h.a0 h.n0 h.c0, .slice h.a1 h.n1 h.c1, .bool h.b, .slice h.a2 h.n2 h.c2, .int .i64 ep, .slice la ln lc, .int .i64 su, .slice fa fn fc, .int .i64 ha, .bool up, .slice ta T.length tc, .slice k.a0 K.length k.c0, .slice k.a1 Wt.length k.c1, .int .i64 nx]) := hx
  obtain ⟨hl, hcs⟩ := rt
  clear rl hp hT hx
  obtain ⟨x0, x1, x2, x3, x4, x5, x6, x7, x8, x9, x10, x11, x12, x13⟩ := box14 HX.out
  go_enter Tryz.func85, Tryz.ntmps85
  go_wp2
  clear x0 x1 x2 x3 x4 x5 x6 x7 x8 x9 x10 x11 x12 x13
  go_loopw [3, 11] (fun n i wr => ∃ (m c : Nat), m ≤ T.length ∧ c ≤ m * 61 ∧ i = .int .i64 m ∧ n = .int .i64 c ∧ Hid (c + resT Lg (T.drop m) = resT Lg T) ∧ Hid (Box wr g 53 #[.slice h.a0 h.n0 h.c0, .slice h.a1 h.n1 h.c1, .bool h.b, .slice h.a2 h.n2 h.c2, .int .i64 ep, .slice la ln lc, .int .i64 su, .slice fa fn fc, .int .i64 ha, .bool up, .slice ta T.length tc, .slice k.a0 K.length k.c0, .slice k.a1 Wt.length k.c1, .int .i64 nx]) ∧ Hid (Below w.heap.size w wr)) (fun _ i _ => T.length - (intOf i).toNat)
  case atStart => exact ⟨0, 0, by omega, by omega, rfl, rfl, by unfold Hid; simp, HX, Below.refl _ _⟩
  case round =>
    obtain ⟨m, c, hm, hcm, rfl, rfl, HI, X1, B1⟩ := hrel
    by_cases hlt : m < T.length
    · obtain ⟨b, off, rfl, hbl, hc⟩ := hcs (by omega)
      obtain ⟨d0, d1⟩ := hc m hlt
      have HA := resT_at (L := Lg) (vs := T) (k := m) hlt
      have hr := getD_of (d := X.dW) HT.out hlt
      obtain ⟨⟨vx, vf⟩, hv⟩ : ∃ q, q = T.getD m X.dW := ⟨_, rfl⟩
      rw [← hv] at d0 d1 HA hr
      dsimp only at d0 d1 HA hr
      obtain ⟨r0, r1⟩ := hr
      obtain ⟨j, rfl⟩ := Int.eq_ofNat_of_zero_le r0
      have e0 := (B1.out.cell (p := ⟨b, off + m * 2, none⟩) hbl).trans d0
      have e1 := (B1.out.cell (p := ⟨b, off + m * 2 + 1, none⟩) hbl).trans d1
      have hul : und Lg j ≤ j := und_le Lg j
      obtain ⟨u, hu⟩ : ∃ u, u = und Lg j := ⟨_, rfl⟩
      have C : Hid (∀ W, Below w.heap.size w W → Calls Tryz.prog 168 #[.slice la ln lc, .int .i64 (j : Int), .int .i64 0] W fun e w' => (∃ a c, e = .returned (.slice a u c)) ∧ Below W.heap.size W w') := fun W hW => by rw [hu]; exact CU.out j W (by omega) hW
      rw [← hu] at hul
      have HI2 : Hid (c + (u + 1) + resT Lg (T.drop (m + 1)) = resT Lg T) := by unfold Hid; rw [← HI.out, HA, hu]; simp; omega
      have g1 : (0 : Int) ≤ (m : Int) := by omega
      have g2 : (m : Int) < (T.length : Int) := by omega
      obtain ⟨W, hW⟩ : ∃ W, wr.alloc (.cells #[.int .i64 vx, .int .i64 (j : Int)] 95) = W := ⟨_, rfl⟩
      have hbA : Below wr.heap.size wr W := by rw [← hW]; exact (Below.refl _ _).alloc (Nat.le_refl _) _
      have HN : Hid (Box W wr.heap.size 95 #[.int .i64 vx, .int .i64 (j : Int)]) := by unfold Hid; rw [← hW]; exact Box.new _ _ _
      have X2 : Hid (Box W g 53 #[.slice h.a0 h.n0 h.c0, .slice h.a1 h.n1 h.c1, .bool h.b, .slice h.a2 h.n2 h.c2, .int .i64 ep, .slice la ln lc, .int .i64 su, .slice fa fn fc, .int .i64 ha, .bool up, .slice (some ⟨b, off, none⟩) T.length tc, .slice k.a0 K.length k.c0, .slice k.a1 Wt.length k.c1, .int .i64 nx]) := X1.out.belowS hbA
      have B2 : Hid (Below w.heap.size w W) := B1.out.trans (hbA.mono B1.out.size)
      clear hc hcs HA d0 d1 hv hu HI CU hbA X1 B1
      go_wp2_with fail
      clear hW e0 e1
      obtain ⟨z0, z1⟩ := G.box2 HN.out
      obtain ⟨x0, x1, x2, x3, x4, x5, x6, x7, x8, x9, x10, x11, x12, x13⟩ := box14 X2.out
      go_region_held3 (fun x => x.cell? ⟨g, 0, none⟩ = some (.slice h.a0 h.n0 h.c0) ∧ x.cell? ⟨g, 1, none⟩ = some (.slice h.a1 h.n1 h.c1) ∧ x.cell? ⟨g, 2, none⟩ = some (.bool h.b) ∧ x.cell? ⟨g, 3, none⟩ = some (.slice h.a2 h.n2 h.c2) ∧ x.cell? ⟨g, 4, none⟩ = some (.int .i64 ep) ∧ x.cell? ⟨g, 5, none⟩ = some (.slice la ln lc) ∧ x.cell? ⟨g, 6, none⟩ = some (.int .i64 su) ∧ x.cell? ⟨g, 7, none⟩ = some (.slice fa fn fc) ∧ x.cell? ⟨g, 8, none⟩ = some (.int .i64 ha) ∧ x.cell? ⟨g, 9, none⟩ = some (.bool up) ∧ x.cell? ⟨g, 10, none⟩ = some (.slice (some ⟨b, off, none⟩) T.length tc) ∧ x.cell? ⟨g, 11, none⟩ = some (.slice k.a0 K.length k.c0) ∧ x.cell? ⟨g, 12, none⟩ = some (.slice k.a1 Wt.length k.c1) ∧ x.cell? ⟨g, 13, none⟩ = some (.int .i64 nx) ∧ x.cell? ⟨wr.heap.size, 1, none⟩ = some (.int .i64 (j : Int)))
        (first | go_keep | (exact ⟨far6 hb3 x0, far6 hb3 x1, far6 hb3 x2, far6 hb3 x3, far6 hb3 x4, far6 hb3 x5, far6 hb3 x6, far6 hb3 x7, far6 hb3 x8, far6 hb3 x9, far6 hb3 x10, far6 hb3 x11, far6 hb3 x12, far6 hb3 x13, far6 hb3 z1⟩))
        (first | (go_at_call 168; refine (C.out _ (below_drewN B2.out _)).mono ?_; rintro e w3 ⟨⟨a3, c3, rfl⟩, hb3⟩))
      have hb4 : Below W.heap.size W w3 := (Below.refl W.heap.size W).drew.trans hb3
      have B3 : Hid (Below w.heap.size w w3) := B2.out.trans (hb4.mono B2.out.size)
      have X3 : Hid (Box w3 g 53 #[.slice h.a0 h.n0 h.c0, .slice h.a1 h.n1 h.c1, .bool h.b, .slice h.a2 h.n2 h.c2, .int .i64 ep, .slice la ln lc, .int .i64 su, .slice fa fn fc, .int .i64 ha, .bool up, .slice (some ⟨b, off, none⟩) T.length tc, .slice k.a0 K.length k.c0, .slice k.a1 Wt.length k.c1, .int .i64 nx]) := X2.out.belowS hb4
      have hw1 : IntKind.i64.wrap ((u : Int) + 1) = (u : Int) + 1 := by rw [IntKind.wrap_i64]; omega
      have hw2 : IntKind.i64.wrap ((c : Int) + ((u : Int) + 1)) = (c : Int) + ((u : Int) + 1) := by rw [IntKind.wrap_i64]; omega
      clear hb3 hb4 z0 z1 x0 x1 x2 x3 x4 x5 x6 x7 x8 x9 x10 x11 x12 x13 C B2 X2
      go_wp2
      go_roundw
      case rel => exact ⟨m + 1, c + (u + 1), by omega, by omega, by go_num, by (try rw [hw1, hw2]); go_num, HI2, X3, B3⟩
      case measure => simp [intOf]; omega
    · have E : Hid (((c : Nat) : Int) = (resT Lg T : Int)) := by unfold Hid; have := HI.out; rw [List.drop_eq_nil_of_le (by omega)] at this; have e : resT Lg [] = 0 := rfl; rw [e] at this; omega
      have hge : ¬ (m : Int) < (T.length : Int) := by omega
      go_wp2
      go_ret
      exact ⟨ret_int E.out, B1.out⟩
set_option maxRecDepth 100000 in
set_option maxHeartbeats 4000000 in
theorem c_room (h : HD) (ep : Int) (la : Option Addr) (ln lc : Nat) (Lg : List DR) (su : Int) (fa : Option Addr) (fn fc : Nat) (ha : Int) (up : Bool) (ta : Option Addr) (tc : Nat) (T : List X.WK) (k : L.HL) (K : List L.LK) (Wt : List L.WK) (nx : Int) (g : Nat) (w : World) (hx : Box w g 53 #[.slice h.a0 h.n0 h.c0, .slice h.a1 h.n1 h.c1, .bool h.b, .slice h.a2 h.n2 h.c2, .int .i64 ep, .slice la ln lc, .int .i64 su, .slice fa fn fc, .int .i64 ha, .bool up, .slice ta T.length tc, .slice k.a0 K.length k.c0, .slice k.a1 Wt.length k.c1, .int .i64 nx]) (rl : RdQ w la ln Lg) (hln : ln ≤ 60) (hp : Pln Lg) (rt : X.RdW w ta T.length T) (htn : T.length ≤ 10) (hT : ∀ v ∈ T, 0 ≤ v.f ∧ v.f ≤ (ln : Int)) (hres : resT Lg T ≤ 1000) :
    Calls Tryz.prog 64 #[.pointer (some ⟨g, 0, none⟩)] w fun e w' => e = .returned (.int .i64 (60 - (ln : Int) - (resT Lg T : Int))) ∧ Below w.heap.size w w' := by
  have C : Hid (∀ W, Below w.heap.size w W → Calls Tryz.prog 85 #[.pointer (some ⟨g, 0, none⟩)] W fun e w' => e = .returned (.int .i64 (resT Lg T : Int)) ∧ Below W.heap.size W w') := fun W hW => c_undoNeeds h ep la ln lc Lg su fa fn fc ha up ta tc T k K Wt nx g W (hx.belowS hW) (rl.below hW) hln hp (rt.below hW) htn hT
  obtain ⟨x0, x1, x2, x3, x4, x5, x6, x7, x8, x9, x10, x11, x12, x13⟩ := box14 hx
  obtain ⟨q, hq⟩ : ∃ q, q = resT Lg T := ⟨_, rfl⟩
  rw [← hq] at C hres ⊢
  clear rl hp rt hT hq
  go_enter Tryz.func64, Tryz.ntmps64
  go_wp2_with fail
  have qx0 := fun r : Out w => q_cell x0 r
  have qx1 := fun r : Out w => q_cell x1 r
  have qx2 := fun r : Out w => q_cell x2 r
  have qx3 := fun r : Out w => q_cell x3 r
  have qx4 := fun r : Out w => q_cell x4 r
  have qx5 := fun r : Out w => q_cell x5 r
  have qx6 := fun r : Out w => q_cell x6 r
  have qx7 := fun r : Out w => q_cell x7 r
  have qx8 := fun r : Out w => q_cell x8 r
  have qx9 := fun r : Out w => q_cell x9 r
  have qx10 := fun r : Out w => q_cell x10 r
  have qx11 := fun r : Out w => q_cell x11 r
  have qx12 := fun r : Out w => q_cell x12 r
  have qx13 := fun r : Out w => q_cell x13 r
  clear x0 x1 x2 x3 x4 x5 x6 x7 x8 x9 x10 x11 x12 x13
  haveI nonE := Out.some w
  refine q_begin (by kernel_rfl) (by kernel_rfl) ?_
  repeat (go_big_quiet_step (exact q_call (C.out _ (Out.p _))))
  refine wpQuiet_nil ?_
  rintro w3 ⟨⟨y', hb3⟩, hy⟩
  have hy' : w3 = y' := hy
  clear hy
  subst hy'
  go_wp2
  go_ret
  exact ⟨rfl, hb3⟩

end Go.Proofs.YtfibdpfhfgnbiaaGreatDoor
