/-
  Right engines: what it takes to undo a transaction: the specification's l07Undo.
-/
import Derived.Test.YtfibdpfhfgnbiaaGreatDoorZzat
import Derived.Test.YtfibdpfhfgnbiaaGreatDoorZzam
import Derived.Test.YtfibdpfhfgnbiaaGreatDoorZzav
namespace Go.Proofs.YtfibdpfhfgnbiaaGreatDoor
open Go Go.RowKit
attribute [local go_sem ↓] Go.wp_at_zero Go.wp_at_succ

set_option maxRecDepth 100000 in
set_option maxHeartbeats 4000000 in
theorem c_l07Back (h : HD) (ep : Int) (la : Option Addr) (ln lc : Nat) (Lg : List DR) (su : Int) (fa : Option Addr) (fn fc : Nat) (ha : Int) (ve vl vt vk vp vn vg vz : Int) (vb va : ByteArray) (w : World) (rl : RdQ w la ln Lg) (hln : ln ≤ 1048576) (hn0 : 0 ≤ vn) (hn1 : vn ≤ (ln : Int)) :
    Calls Tryz.prog 54 #[.agg #[.slice h.a0 h.n0 h.c0, .slice h.a1 h.n1 h.c1, .bool h.b, .slice h.a2 h.n2 h.c2, .int .i64 ep, .slice la ln lc, .int .i64 su, .slice fa fn fc, .int .i64 ha], .agg #[.int .i64 ve, .int .i64 vl, .int .i64 vt, .int .i64 vk, .int .i64 vp, .int .i64 vn, .int .i64 vg, .int .i64 vz, .string vb, .string va]] w fun e w' => e = .returned (.bool (ownR Lg vn vt)) ∧ Below w.heap.size w w' := by
  obtain ⟨V, hV⟩ : ∃ V, w.alloc (.cells #[.slice h.a0 h.n0 h.c0, .slice h.a1 h.n1 h.c1, .bool h.b, .slice h.a2 h.n2 h.c2, .int .i64 ep, .slice la ln lc, .int .i64 su, .slice fa fn fc, .int .i64 ha] 46) = V := ⟨_, rfl⟩
  have B0 : Hid (Below w.heap.size w V) := by unfold Hid; rw [← hV]; exact (Below.refl _ _).alloc (Nat.le_refl _) _
  have X0 : Hid (Box V w.heap.size 46 #[.slice h.a0 h.n0 h.c0, .slice h.a1 h.n1 h.c1, .bool h.b, .slice h.a2 h.n2 h.c2, .int .i64 ep, .slice la ln lc, .int .i64 su, .slice fa fn fc, .int .i64 ha]) := by unfold Hid; rw [← hV]; exact Box.new _ _ _
  obtain ⟨W, hW⟩ : ∃ W, V.alloc (.cells #[.int .i64 ve, .int .i64 vl, .int .i64 vt, .int .i64 vk, .int .i64 vp, .int .i64 vn, .int .i64 vg, .int .i64 vz, .string vb, .string va] 78) = W := ⟨_, rfl⟩
  have hbA : Below V.heap.size V W := by rw [← hW]; exact (Below.refl _ _).alloc (Nat.le_refl _) _
  have B1 : Hid (Below w.heap.size w W) := B0.out.trans (hbA.mono B0.out.size)
  have X1 : Hid (Box W w.heap.size 46 #[.slice h.a0 h.n0 h.c0, .slice h.a1 h.n1 h.c1, .bool h.b, .slice h.a2 h.n2 h.c2, .int .i64 ep, .slice la ln lc, .int .i64 su, .slice fa fn fc, .int .i64 ha]) := X0.out.belowS hbA
  have HN : Hid (Box W V.heap.size 78 #[.int .i64 ve, .int .i64 vl, .int .i64 vt, .int .i64 vk, .int .i64 vp, .int .i64 vn, .int .i64 vg, .int .i64 vz, .string vb, .string va]) := by unfold Hid; rw [← hW]; exact Box.new _ _ _
  have x2 : W.cell? ⟨w.heap.size, 5, none⟩ = some (.slice la ln lc) := X1.out.cell 5
  obtain ⟨y0, y1, y2, y3, y4, y5, y6, y7, y8, y9⟩ := box10 HN.out
  obtain ⟨hl, hcs⟩ := rl
  obtain ⟨vn, rfl⟩ := Int.eq_ofNat_of_zero_le hn0
  clear X0 B0 hbA HN
  go_enter Tryz.func54, Tryz.ntmps54
  go_wp2_with fail
  clear hV hW
  cases vn with
  | zero =>
    have E : Hid (ownR Lg ((0 : Nat) : Int) vt = false) := rfl
    have c0 : decide (0 < ((0 : Nat) : Int)) = false := by decide
    have qx := fun r : Out W => q_cell x2 r
    have qy0 := fun r : Out W => q_cell y0 r
    have qy1 := fun r : Out W => q_cell y1 r
    have qy2 := fun r : Out W => q_cell y2 r
    have qy3 := fun r : Out W => q_cell y3 r
    have qy4 := fun r : Out W => q_cell y4 r
    have qy5 := fun r : Out W => q_cell y5 r
    have qy6 := fun r : Out W => q_cell y6 r
    have qy7 := fun r : Out W => q_cell y7 r
    have qy8 := fun r : Out W => q_cell y8 r
    have qy9 := fun r : Out W => q_cell y9 r
    clear x2 y0 y1 y2 y3 y4 y5 y6 y7 y8 y9
    haveI nonE := Out.some W
    refine q_begin (by kernel_rfl) (by kernel_rfl) ?_
    repeat (go_big_quiet_step (fail))
    refine wpQuiet_nil ?_
    rintro w3 ⟨⟨y', hb3⟩, hy⟩
    have hy' : w3 = y' := hy
    clear hy
    subst hy'
    have B3 : Hid (Below w.heap.size w w3) := B1.out.trans (hb3.mono B1.out.size)
    clear hb3 qx qy0 qy1 qy2 qy3 qy4 qy5 qy6 qy7 qy8 qy9
    go_wp2
    go_ret
    exact ⟨ret_bool E.out.symm, B3.out⟩
  | succ m =>
    obtain ⟨b, off, hla, hbl, hc⟩ := hcs (by omega)
    have XL : Hid (la = some ⟨b, off, none⟩) := hla
    rw [hla] at x2
    obtain ⟨⟨se, sl, st, sk, sp, sn, sg, sz, sb, sa⟩, hv⟩ : ∃ v, v = Lg.getD m zeroR := ⟨_, rfl⟩
    obtain ⟨d0, d1, d2, d3, d4, d5, d6, d7, d8, d9⟩ := RdQ.at hc (show m < ln by omega) hv
    dsimp only at d0 d1 d2 d3 d4 d5 d6 d7 d8 d9
    have e2 := (B1.out.cell (p := ⟨b, off + m * 10 + 2, none⟩) hbl).trans d2
    have e3 := (B1.out.cell (p := ⟨b, off + m * 10 + 3, none⟩) hbl).trans d3
    have g1 : (0 : Int) ≤ (m : Int) := by omega
    have g2 : (m : Int) < (ln : Int) := by omega
    have HO : Hid (ownR Lg ((m + 1 : Nat) : Int) vt = (decide (st = vt) && decide (sk ≤ 3))) := by
      unfold Hid ownR
      rw [show ((((m + 1 : Nat) : Int) - 1).toNat) = m by omega, ← hv, decide_eq_true (show (1 : Int) ≤ ((m + 1 : Nat) : Int) by omega), decide_eq_true (show ((m + 1 : Nat) : Int) ≤ (Lg.length : Int) by omega)]
      rfl
    clear hc hcs hv d0 d1 d2 d3 d4 d5 d6 d7 d8 d9 hla
    have c0 : decide (0 < (m : Int) + 1) = true := decide_eq_true (by omega)
    have qx := fun r : Out W => q_cell x2 r
    have qe2 := fun r : Out W => q_cell e2 r
    have qe3 := fun r : Out W => q_cell e3 r
    have qy0 := fun r : Out W => q_cell y0 r
    have qy1 := fun r : Out W => q_cell y1 r
    have qy2 := fun r : Out W => q_cell y2 r
    have qy3 := fun r : Out W => q_cell y3 r
    have qy4 := fun r : Out W => q_cell y4 r
    have qy5 := fun r : Out W => q_cell y5 r
    have qy6 := fun r : Out W => q_cell y6 r
    have qy7 := fun r : Out W => q_cell y7 r
    have qy8 := fun r : Out W => q_cell y8 r
    have qy9 := fun r : Out W => q_cell y9 r
    clear x2 e2 e3 y0 y1 y2 y3 y4 y5 y6 y7 y8 y9
    by_cases h1 : st = vt
    case neg =>
      have c1 : (st == vt) = false := by simpa using h1
      have c1' : decide (st = vt) = false := decide_eq_false h1
      have E : Hid (ownR Lg ((m + 1 : Nat) : Int) vt = false) := by unfold Hid; rw [HO.out, c1']; rfl
      haveI nonE := Out.some W
      refine q_begin (by kernel_rfl) (by kernel_rfl) ?_
      repeat (go_big_quiet_step (fail))
      refine wpQuiet_nil ?_
      rintro w3 ⟨⟨y', hb3⟩, hy⟩
      have hy' : w3 = y' := hy
      clear hy
      subst hy'
      have B3 : Hid (Below w.heap.size w w3) := B1.out.trans (hb3.mono B1.out.size)
      clear hb3 qx qe2 qe3 qy0 qy1 qy2 qy3 qy4 qy5 qy6 qy7 qy8 qy9
      go_wp2
      go_ret
      exact ⟨ret_bool E.out.symm, B3.out⟩
    have HE : Hid (st = vt) := h1
    have c1 : (st == vt) = true := by simpa using h1
    have c1' : decide (st = vt) = true := decide_eq_true h1
    clear h1
    by_cases h2 : sk ≤ 3
    case neg =>
      have c2 : decide (sk ≤ 3) = false := decide_eq_false h2
      have E : Hid (ownR Lg ((m + 1 : Nat) : Int) vt = false) := by unfold Hid; rw [HO.out, c1', c2]; rfl
      haveI nonE := Out.some W
      refine q_begin (by kernel_rfl) (by kernel_rfl) ?_
      repeat (go_big_quiet_step (fail))
      refine wpQuiet_nil ?_
      rintro w3 ⟨⟨y', hb3⟩, hy⟩
      have hy' : w3 = y' := hy
      clear hy
      subst hy'
      have B3 : Hid (Below w.heap.size w w3) := B1.out.trans (hb3.mono B1.out.size)
      clear hb3 qx qe2 qe3 qy0 qy1 qy2 qy3 qy4 qy5 qy6 qy7 qy8 qy9
      go_wp2
      go_ret
      exact ⟨ret_bool E.out.symm, B3.out⟩
    have c2 : decide (sk ≤ 3) = true := decide_eq_true h2
    have E : Hid (ownR Lg ((m + 1 : Nat) : Int) vt = true) := by unfold Hid; rw [HO.out, c1', c2]; rfl
    haveI nonE := Out.some W
    refine q_begin (by kernel_rfl) (by kernel_rfl) ?_
    repeat (go_big_quiet_step (fail))
    refine wpQuiet_nil ?_
    rintro w3 ⟨⟨y', hb3⟩, hy⟩
    have hy' : w3 = y' := hy
    clear hy
    subst hy'
    have B3 : Hid (Below w.heap.size w w3) := B1.out.trans (hb3.mono B1.out.size)
    clear hb3 qx qe2 qe3 qy0 qy1 qy2 qy3 qy4 qy5 qy6 qy7 qy8 qy9
    go_wp2
    go_ret
    exact ⟨ret_bool E.out.symm, B3.out⟩

end Go.Proofs.YtfibdpfhfgnbiaaGreatDoor
namespace Go.Proofs.YtfibdpfhfgnbiaaGreatDoor
open Go Go.RowKit
attribute [local go_sem ↓] Go.wp_at_zero Go.wp_at_succ

/-- Where a transaction of this number stands first. -/
def ixT (tx : Int) : Nat → List X.WK → Int
  | _, [] => -1
  | i, v :: vs => if v.x = tx then (i : Int) else ixT tx (i + 1) vs
theorem ixT_at {tx : Int} {vs : List X.WK} {k : Nat} (h : k < vs.length) : ixT tx k (vs.drop k) = if (vs.getD k X.dW).x = tx then (k : Int) else ixT tx (k + 1) (vs.drop (k + 1)) := by
  rw [List.drop_eq_getElem_cons h, List.getD_eq_getElem?_getD, List.getElem?_eq_getElem h]
  rfl
theorem ixT_is (tx : Int) : ∀ (vs : List X.WK) (i : Nat), decide (0 ≤ ixT tx i vs) = isT vs tx
  | [], _ => rfl
  | v :: vs, i => by
    unfold isT
    rw [List.any_cons]
    show decide (0 ≤ if v.x = tx then (i : Int) else ixT tx (i + 1) vs) = _
    by_cases h : v.x = tx
    · rw [if_pos h, decide_eq_true h, decide_eq_true (by omega)]; rfl
    · rw [if_neg h, decide_eq_false h, ixT_is tx vs (i + 1)]; rfl
set_option maxRecDepth 100000 in
set_option maxHeartbeats 4000000 in
theorem c_l07Tx (h : HD) (ep : Int) (la : Option Addr) (ln lc : Nat) (su : Int) (fa : Option Addr) (fn fc : Nat) (ha : Int) (up : Bool) (ta : Option Addr) (tc : Nat) (T : List X.WK) (k : L.HL) (K : List L.LK) (Wt : List L.WK) (nx tx : Int) (w : World) (rt : X.RdW w ta T.length T) (htn : T.length ≤ 1048576) :
    Calls Tryz.prog 55 #[.agg #[.slice h.a0 h.n0 h.c0, .slice h.a1 h.n1 h.c1, .bool h.b, .slice h.a2 h.n2 h.c2, .int .i64 ep, .slice la ln lc, .int .i64 su, .slice fa fn fc, .int .i64 ha, .bool up, .slice ta T.length tc, .slice k.a0 K.length k.c0, .slice k.a1 Wt.length k.c1, .int .i64 nx], .int .i64 tx] w fun e w' => e = .returned (.int .i64 (ixT tx 0 T)) ∧ Below w.heap.size w w' := by
  obtain ⟨hl, hcs⟩ := rt
  obtain ⟨V, hV⟩ : ∃ V, w.alloc (.cells #[.slice h.a0 h.n0 h.c0, .slice h.a1 h.n1 h.c1, .bool h.b, .slice h.a2 h.n2 h.c2, .int .i64 ep, .slice la ln lc, .int .i64 su, .slice fa fn fc, .int .i64 ha, .bool up, .slice ta T.length tc, .slice k.a0 K.length k.c0, .slice k.a1 Wt.length k.c1, .int .i64 nx] 53) = V := ⟨_, rfl⟩
  have B0 : Hid (Below w.heap.size w V) := by unfold Hid; rw [← hV]; exact (Below.refl _ _).alloc (Nat.le_refl _) _
  have X0 : Hid (Box V w.heap.size 53 #[.slice h.a0 h.n0 h.c0, .slice h.a1 h.n1 h.c1, .bool h.b, .slice h.a2 h.n2 h.c2, .int .i64 ep, .slice la ln lc, .int .i64 su, .slice fa fn fc, .int .i64 ha, .bool up, .slice ta T.length tc, .slice k.a0 K.length k.c0, .slice k.a1 Wt.length k.c1, .int .i64 nx]) := by unfold Hid; rw [← hV]; exact Box.new _ _ _
  go_enter Tryz.func55, Tryz.ntmps55
  go_wp2
  go_loopw [5] (fun i wr => ∃ m : Nat, m ≤ T.length ∧ i = .int .i64 m ∧ Hid (ixT tx m (T.drop m) = ixT tx 0 T) ∧ wr = V) (fun i _ => T.length - (intOf i).toNat)
  case atStart => exact ⟨0, by omega, rfl, rfl, by first | rfl | trivial | exact hV⟩
  case round =>
    obtain ⟨m, hm, rfl, HI, rfl⟩ := hrel
    have x10 : wr.cell? ⟨w.heap.size, 10, none⟩ = some (.slice ta T.length tc) := X0.out.cell 10
    by_cases hlt : m < T.length
    · obtain ⟨b, off, rfl, hbl, hc⟩ := hcs (by omega)
      have d0 := (hc m hlt).1
      have HA := ixT_at (tx := tx) (vs := T) (k := m) hlt
      obtain ⟨q, hq⟩ : ∃ q, q = (T.getD m X.dW).x := ⟨_, rfl⟩
      rw [← hq] at d0 HA
      have e0 := (B0.out.cell (p := ⟨b, off + m * 2, none⟩) hbl).trans d0
      have HA' : Hid (_ = _) := HA
      clear hc hcs HA d0 hq hV
      by_cases hn : q = tx
      · have E : Hid (ixT tx 0 T = (m : Int)) := by unfold Hid; rw [← HI.out, HA'.out, if_pos hn]
        subst hn
        go_wp2
        go_ret
        exact ⟨ret_int E.out.symm, B0.out⟩
      · have E : Hid (ixT tx (m + 1) (T.drop (m + 1)) = ixT tx 0 T) := by unfold Hid; rw [← HI.out, HA'.out, if_neg hn]
        go_wp2
        go_roundw
        case rel => exact ⟨m + 1, by omega, by go_num, E, by first | rfl | trivial⟩
        case measure => simp [intOf]; omega
    · have E : Hid (ixT tx 0 T = -1) := by unfold Hid; rw [← HI.out, List.drop_eq_nil_of_le (by omega)]; rfl
      have hge : ¬ (m : Int) < (T.length : Int) := by omega
      go_wp2
      go_ret
      exact ⟨ret_int E.out.symm, B0.out⟩

end Go.Proofs.YtfibdpfhfgnbiaaGreatDoor
namespace Go.Proofs.YtfibdpfhfgnbiaaGreatDoor
open Go Go.RowKit
attribute [local go_sem ↓] Go.wp_at_zero Go.wp_at_succ

/-- How many updates undoing meets from a record on, f steps at most. -/
def unF (L : List DR) : Nat → Nat → Nat
  | 0, _ => 0
  | _ + 1, 0 => 0
  | f + 1, m + 1 => if (L.getD m zeroR).k = 3 then unF L f (L.getD m zeroR).n.toNat else (if (L.getD m zeroR).k = 2 then 1 else 0) + unF L f (L.getD m zeroR).p.toNat
/-- .. and each CLR's Next below it, too. -/
def Pln (L : List DR) : Prop := Plc L ∧ ∀ i, i < L.length → 0 ≤ (L.getD i zeroR).n ∧ (L.getD i zeroR).n ≤ (i : Int)
theorem un_fuel {L : List DR} (hp : Pln L) : ∀ (f m : Nat), m ≤ f → m ≤ L.length → unF L f m = unF L m m
  | 0, m, h, _ => by rw [show m = 0 by omega]
  | f + 1, 0, _, _ => rfl
  | f + 1, m + 1, h, hm => by
    have h1 := hp.1 m (by omega)
    have h2 := hp.2 m (by omega)
    show (if (L.getD m zeroR).k = 3 then unF L f (L.getD m zeroR).n.toNat else (if (L.getD m zeroR).k = 2 then 1 else 0) + unF L f (L.getD m zeroR).p.toNat) = (if (L.getD m zeroR).k = 3 then unF L m (L.getD m zeroR).n.toNat else (if (L.getD m zeroR).k = 2 then 1 else 0) + unF L m (L.getD m zeroR).p.toNat)
    rw [un_fuel hp f (L.getD m zeroR).n.toNat (by omega) (by omega), un_fuel hp f (L.getD m zeroR).p.toNat (by omega) (by omega)]
    rcases Nat.lt_or_ge m (f + 1) with hf | hf
    · rw [un_fuel hp m (L.getD m zeroR).n.toNat (by omega) (by omega), un_fuel hp m (L.getD m zeroR).p.toNat (by omega) (by omega)]
    · omega
def und (L : List DR) (m : Nat) : Nat := unF L m m
theorem und_at {L : List DR} (hp : Pln L) {m : Nat} (hm : m < L.length) : und L (m + 1) = if (L.getD m zeroR).k = 3 then und L (L.getD m zeroR).n.toNat else (if (L.getD m zeroR).k = 2 then 1 else 0) + und L (L.getD m zeroR).p.toNat := by
  have h1 := hp.1 m hm
  have h2 := hp.2 m hm
  show (if (L.getD m zeroR).k = 3 then unF L m (L.getD m zeroR).n.toNat else (if (L.getD m zeroR).k = 2 then 1 else 0) + unF L m (L.getD m zeroR).p.toNat) = _
  rw [un_fuel hp m (L.getD m zeroR).n.toNat (by omega) (by omega), un_fuel hp m (L.getD m zeroR).p.toNat (by omega) (by omega)]
  rfl
theorem c_bit (b : Bool) (w : World) : Calls Tryz.prog 204 #[.bool b] w fun e w' => e = .returned (.int .i64 (if b then 1 else 0)) ∧ w' = w := by
  cases b
  all_goals
    go_enter Tryz.func204, Tryz.ntmps204
    go_wp2
    go_ret
    exact ⟨rfl, rfl⟩
set_option maxRecDepth 100000 in
set_option maxHeartbeats 4000000 in
theorem c_l07Undo (h : HD) (ep : Int) (la : Option Addr) (ln lc : Nat) (Lg : List DR) (su : Int) (fa : Option Addr) (fn fc : Nat) (ha : Int) (m0 : Nat) (w : World) (rl : RdQ w la ln Lg) (hln : ln ≤ 1048576) (hp : Pln Lg) (hm0 : m0 ≤ ln) :
    Calls Tryz.prog 122 #[.agg #[.slice h.a0 h.n0 h.c0, .slice h.a1 h.n1 h.c1, .bool h.b, .slice h.a2 h.n2 h.c2, .int .i64 ep, .slice la ln lc, .int .i64 su, .slice fa fn fc, .int .i64 ha], .int .i64 (m0 : Int)] w fun e w' => e = .returned (.int .i64 ((und Lg m0 + 1 : Nat) : Int)) ∧ Below w.heap.size w w' := by
  obtain ⟨V, hV⟩ : ∃ V, w.alloc (.cells #[.slice h.a0 h.n0 h.c0, .slice h.a1 h.n1 h.c1, .bool h.b, .slice h.a2 h.n2 h.c2, .int .i64 ep, .slice la ln lc, .int .i64 su, .slice fa fn fc, .int .i64 ha] 46) = V := ⟨_, rfl⟩
  have B0 : Hid (Below w.heap.size w V) := by unfold Hid; rw [← hV]; exact (Below.refl _ _).alloc (Nat.le_refl _) _
  have X0 : Hid (Box V w.heap.size 46 #[.slice h.a0 h.n0 h.c0, .slice h.a1 h.n1 h.c1, .bool h.b, .slice h.a2 h.n2 h.c2, .int .i64 ep, .slice la ln lc, .int .i64 su, .slice fa fn fc, .int .i64 ha]) := by unfold Hid; rw [← hV]; exact Box.new _ _ _
  have HP : Hid (Pln Lg) := hp
  obtain ⟨hl, hcs⟩ := rl
  clear hp
  go_enter Tryz.func122, Tryz.ntmps122
  go_wp2
  go_loopw [1, 5] (fun l n wr => ∃ (m c : Nat), m ≤ ln ∧ c + m ≤ m0 + 1 ∧ l = .int .i64 m ∧ n = .int .i64 c ∧ Hid (c + und Lg m = und Lg m0 + 1) ∧ Hid (Box wr w.heap.size 46 #[.slice h.a0 h.n0 h.c0, .slice h.a1 h.n1 h.c1, .bool h.b, .slice h.a2 h.n2 h.c2, .int .i64 ep, .slice la ln lc, .int .i64 su, .slice fa fn fc, .int .i64 ha]) ∧ Hid (Below w.heap.size w wr)) (fun l _ _ => (intOf l).toNat)
  case atStart => exact ⟨m0, 1, hm0, by omega, rfl, rfl, by unfold Hid; omega, X0, B0⟩
  case round =>
    clear X0 B0 hV
    obtain ⟨m, c, hm, hcm, rfl, rfl, HI, X1, B1⟩ := hrel
    have x5 : wr.cell? ⟨w.heap.size, 5, none⟩ = some (.slice la ln lc) := X1.out.cell 5
    cases m with
    | zero =>
      have E : Hid (((c : Nat) : Int) = ((und Lg m0 + 1 : Nat) : Int)) := by unfold Hid; have := HI.out; have e : und Lg 0 = 0 := rfl; rw [e] at this; omega
      go_wp2
      go_ret
      exact ⟨ret_int E.out, B1.out⟩
    | succ m =>
      obtain ⟨b, off, hla, hbl, hc⟩ := hcs (by omega)
      have XL : Hid (la = some ⟨b, off, none⟩) := hla
      rw [hla] at x5
      obtain ⟨⟨ve, vl, vt, vk, vp, vn, vg, vz, vb, va⟩, hv⟩ : ∃ v, v = Lg.getD m zeroR := ⟨_, rfl⟩
      obtain ⟨d0, d1, d2, d3, d4, d5, d6, d7, d8, d9⟩ := RdQ.at hc (show m < ln by omega) hv
      dsimp only at d0 d1 d2 d3 d4 d5 d6 d7 d8 d9
      have HA := und_at HP.out (show m < Lg.length by omega)
      have H1 := HP.out.1 m (by omega)
      have H2 := HP.out.2 m (by omega)
      rw [← hv] at HA H1 H2
      dsimp only at HA H1 H2
      obtain ⟨hl1, p0, p1⟩ := H1
      clear hl1
      obtain ⟨n0, n1⟩ := H2
      obtain ⟨vp, rfl⟩ := Int.eq_ofNat_of_zero_le p0
      obtain ⟨vn, rfl⟩ := Int.eq_ofNat_of_zero_le n0
      have HA' : Hid (_ = _) := HA
      have g1 : (0 : Int) ≤ (m : Int) := by omega
      have g2 : (m : Int) < (ln : Int) := by omega
      have e0 := (B1.out.cell (p := ⟨b, off + m * 10, none⟩) hbl).trans d0
      have e1 := (B1.out.cell (p := ⟨b, off + m * 10 + 1, none⟩) hbl).trans d1
      have e2 := (B1.out.cell (p := ⟨b, off + m * 10 + 2, none⟩) hbl).trans d2
      have e3 := (B1.out.cell (p := ⟨b, off + m * 10 + 3, none⟩) hbl).trans d3
      have e4 := (B1.out.cell (p := ⟨b, off + m * 10 + 4, none⟩) hbl).trans d4
      have e5 := (B1.out.cell (p := ⟨b, off + m * 10 + 5, none⟩) hbl).trans d5
      have e6 := (B1.out.cell (p := ⟨b, off + m * 10 + 6, none⟩) hbl).trans d6
      have e7 := (B1.out.cell (p := ⟨b, off + m * 10 + 7, none⟩) hbl).trans d7
      have e8 := (B1.out.cell (p := ⟨b, off + m * 10 + 8, none⟩) hbl).trans d8
      have e9 := (B1.out.cell (p := ⟨b, off + m * 10 + 9, none⟩) hbl).trans d9
      obtain ⟨W, hW⟩ : ∃ W, wr.alloc (.cells #[.int .i64 ve, .int .i64 vl, .int .i64 vt, .int .i64 vk, .int .i64 (vp : Int), .int .i64 (vn : Int), .int .i64 vg, .int .i64 vz, .string vb, .string va] 78) = W := ⟨_, rfl⟩
      have hbA : Below wr.heap.size wr W := by rw [← hW]; exact (Below.refl _ _).alloc (Nat.le_refl _) _
      have HN : Hid (Box W wr.heap.size 78 #[.int .i64 ve, .int .i64 vl, .int .i64 vt, .int .i64 vk, .int .i64 (vp : Int), .int .i64 (vn : Int), .int .i64 vg, .int .i64 vz, .string vb, .string va]) := by unfold Hid; rw [← hW]; exact Box.new _ _ _
      have X2 : Hid (Box W w.heap.size 46 #[.slice h.a0 h.n0 h.c0, .slice h.a1 h.n1 h.c1, .bool h.b, .slice h.a2 h.n2 h.c2, .int .i64 ep, .slice la ln lc, .int .i64 su, .slice fa fn fc, .int .i64 ha]) := X1.out.belowS hbA
      have B2 : Hid (Below w.heap.size w W) := B1.out.trans (hbA.mono B1.out.size)
      clear hc hcs hv HA d0 d1 d2 d3 d4 d5 d6 d7 d8 d9 hbA X1 B1 hla XL
      obtain ⟨y0, y1, y2, y3, y4, y5, y6, y7, y8, y9⟩ := box10 HN.out
      by_cases hk : vk = 3
      · have HI2 : Hid (c + und Lg vn = und Lg m0 + 1) := by unfold Hid; rw [← HI.out, HA'.out, if_pos hk]; simp
        have hkk : (vk == 3) = true := by simpa using hk
        have hk3 : (vk = 3) = True := eq_true hk
        clear HI HA' hk
        go_wp2
        go_roundw
        case rel => exact ⟨vn, c, by omega, by omega, rfl, rfl, HI2, X2, B2⟩
        case measure => simp [intOf]; omega
      · by_cases h2 : vk = 2
        · have HI2 : Hid (c + 1 + und Lg vp = und Lg m0 + 1) := by unfold Hid; rw [← HI.out, HA'.out, if_neg hk, if_pos h2]; simp; omega
          have hkk : (vk == 2) = true := by simpa using h2
          have hk2 : (vk = 2) = True := eq_true h2
          clear HI HA' h2
          go_wp2_with fail
          refine (c_bit _ _).mono ?_
          rintro e w' ⟨rfl, rfl⟩
          go_wp2
          go_roundw
          case rel => exact ⟨vp, c + 1, by omega, by omega, rfl, by go_num, HI2, X2, B2⟩
          case measure => simp [intOf]; omega
        · have HI2 : Hid (c + und Lg vp = und Lg m0 + 1) := by unfold Hid; rw [← HI.out, HA'.out, if_neg hk, if_neg h2]; simp
          have hkk : (vk == 2) = false := by simpa using h2
          clear HI HA'
          go_wp2_with fail
          refine (c_bit _ _).mono ?_
          rintro e w' ⟨rfl, rfl⟩
          go_wp2
          go_roundw
          case rel => exact ⟨vp, c, by omega, by omega, rfl, by go_num, HI2, X2, B2⟩
          case measure => simp [intOf]; omega

end Go.Proofs.YtfibdpfhfgnbiaaGreatDoor
