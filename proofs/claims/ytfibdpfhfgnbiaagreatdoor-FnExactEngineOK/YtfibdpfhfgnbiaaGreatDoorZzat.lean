/-
  Right engines: records that lead back to their beginning: the program's isLinked.
-/
import Derived.Test.YtfibdpfhfgnbiaaGreatDoorYwaq
import Derived.Test.YtfibdpfhfgnbiaaGreatDoorZzam
import Derived.Test.YtfibdpfhfgnbiaaGreatDoorZzaj
namespace Go.Proofs.YtfibdpfhfgnbiaaGreatDoor
open Go Go.RowKit
attribute [local go_sem ↓] Go.wp_at_zero Go.wp_at_succ

/-- Transactions that rise, below the next one. -/
def asT (nx : Int) : Int → List X.WK → Bool
  | _, [] => true
  | l, v :: vs => decide (l ≤ v.x) && (decide (v.x < nx) && asT nx (v.x + 1) vs)
theorem asT_at {nx l : Int} {vs : List X.WK} {k : Nat} (h : k < vs.length) : asT nx l (vs.drop k) = (decide (l ≤ (vs.getD k X.dW).x) && (decide ((vs.getD k X.dW).x < nx) && asT nx ((vs.getD k X.dW).x + 1) (vs.drop (k + 1)))) := by
  rw [List.drop_eq_getElem_cons h, List.getD_eq_getElem?_getD, List.getElem?_eq_getElem h]
  rfl
set_option maxRecDepth 100000 in
set_option maxHeartbeats 2000000 in
theorem c_areTxs (a : Option Addr) (n cap : Nat) (vs : List X.WK) (nx : Int) (w : World) (hr : X.RdW w a n vs) (hn : n ≤ 1048576) (hb0 : -1000 ≤ nx ∧ nx ≤ 1000) :
    Calls Tryz.prog 61 #[.slice a n cap, .int .i64 nx] w fun e w' => e = .returned (.bool (decide (n ≤ 10) && asT nx 1 vs)) ∧ Below w.heap.size w w' := by
  obtain ⟨hl, hcs⟩ := hr
  by_cases h10 : n ≤ 10
  case neg =>
    have E : Hid ((decide (n ≤ 10) && asT nx 1 vs) = false) := by unfold Hid; rw [decide_eq_false h10]; rfl
    go_enter Tryz.func61, Tryz.ntmps61
    go_wp2
    go_ret
    exact ⟨ret_bool E.out.symm, Below.refl _ _⟩
  rw [show (decide (n ≤ 10) && asT nx 1 vs) = asT nx 1 vs by rw [decide_eq_true h10]; rfl]
  go_enter Tryz.func61, Tryz.ntmps61
  go_wp2
  go_loopw [5, 13] (fun l i wr => ∃ (k : Nat) (q : Int), k ≤ n ∧ i = .int .i64 k ∧ l = .int .i64 q ∧ (-1000 ≤ q ∧ q ≤ 1001) ∧ Hid (asT nx q (vs.drop k) = asT nx 1 vs) ∧ Below w.heap.size w wr) (fun _ i _ => n - (intOf i).toNat)
  case atStart => exact ⟨0, 1, by omega, rfl, rfl, by omega, rfl, Below.refl _ _⟩
  case round =>
    obtain ⟨k, q, hk, rfl, rfl, hq, HI, hb⟩ := hrel
    by_cases hlt : k < n
    · obtain ⟨b, off, rfl, hbl, hc⟩ := hcs (by omega)
      obtain ⟨d0, d1⟩ := hc k hlt
      have HA := asT_at (nx := nx) (l := q) (vs := vs) (k := k) (by omega)
      obtain ⟨⟨vx, vf⟩, hv⟩ : ∃ v, v = vs.getD k X.dW := ⟨_, rfl⟩
      rw [← hv] at d0 d1 HA
      dsimp only at d0 d1 HA
      have e0 := (hb.cell (p := ⟨b, off + k * 2, none⟩) hbl).trans d0
      have e1 := (hb.cell (p := ⟨b, off + k * 2 + 1, none⟩) hbl).trans d1
      have HA' : Hid (_ = _) := HA
      have g1 : (0 : Int) ≤ (k : Int) := by omega
      have g2 : (k : Int) < (n : Int) := by omega
      clear hc hcs hv HA d0 d1
      obtain ⟨W, hW⟩ : ∃ W, wr.alloc (.cells #[.int .i64 vx, .int .i64 vf] 95) = W := ⟨_, rfl⟩
      have HN : Hid (Box W wr.heap.size 95 #[.int .i64 vx, .int .i64 vf]) := by unfold Hid; rw [← hW]; exact Box.new _ _ _
      have HB : Hid (Below w.heap.size w W) := by unfold Hid; rw [← hW]; exact hb.alloc hb.size _
      obtain ⟨y0, y1⟩ := G.box2 HN.out
      clear hb
      by_cases h1 : vx < q
      · have E : Hid (asT nx 1 vs = false) := by unfold Hid; rw [← HI.out, HA'.out, decide_eq_false (show ¬ q ≤ vx by omega)]; rfl
        go_wp2
        go_ret
        exact ⟨ret_bool E.out.symm, HB.out⟩
      by_cases h2 : nx ≤ vx
      · have E : Hid (asT nx 1 vs = false) := by unfold Hid; rw [← HI.out, HA'.out, decide_eq_true (show q ≤ vx by omega), decide_eq_false (show ¬ vx < nx by omega)]; rfl
        go_wp2
        go_ret
        exact ⟨ret_bool E.out.symm, HB.out⟩
      have E : Hid (asT nx (vx + 1) (vs.drop (k + 1)) = asT nx 1 vs) := by unfold Hid; rw [← HI.out, HA'.out, decide_eq_true (show q ≤ vx by omega), decide_eq_true (show vx < nx by omega)]; rfl
      go_wp2
      go_roundw
      case rel => exact ⟨k + 1, vx + 1, by omega, by go_num, rfl, by omega, E, HB.out⟩
      case measure => simp [intOf]; omega
    · have e : k = n := by omega
      subst e
      have E : Hid (asT nx 1 vs = true) := by unfold Hid; rw [← HI.out, List.drop_eq_nil_of_le (by omega)]; rfl
      go_wp2
      go_ret
      exact ⟨ret_bool E.out.symm, hb⟩
/-- There is the record, it is the transaction's, and of a kind that an open one has. -/
def ownR (L : List DR) (lsn tx : Int) : Bool := decide (1 ≤ lsn) && (decide (lsn ≤ (L.length : Int)) && (decide ((L.getD (lsn - 1).toNat zeroR).t = tx) && decide ((L.getD (lsn - 1).toNat zeroR).k ≤ 3)))
set_option maxRecDepth 100000 in
set_option maxHeartbeats 2000000 in
theorem c_isOwn (a : Option Addr) (n cap : Nat) (L : List DR) (lsn tx : Int) (w : World) (hr : RdQ w a n L) (hn : n ≤ 1048576) :
    Calls Tryz.prog 219 #[.slice a n cap, .int .i64 lsn, .int .i64 tx] w fun e w' => e = .returned (.bool (ownR L lsn tx)) ∧ w' = w := by
  obtain ⟨hl, hcs⟩ := hr
  by_cases h1 : 1 ≤ lsn
  case neg =>
    have E : Hid (ownR L lsn tx = false) := by unfold Hid ownR; rw [decide_eq_false h1]; rfl
    go_enter Tryz.func219, Tryz.ntmps219
    go_wp2
    go_ret
    exact ⟨ret_bool E.out.symm, rfl⟩
  by_cases h2 : lsn ≤ (n : Int)
  case neg =>
    have E : Hid (ownR L lsn tx = false) := by unfold Hid ownR; rw [decide_eq_true h1, hl, decide_eq_false h2]; rfl
    go_enter Tryz.func219, Tryz.ntmps219
    go_wp2
    go_ret
    exact ⟨ret_bool E.out.symm, rfl⟩
  obtain ⟨m, rfl⟩ : ∃ m : Nat, lsn = (m : Int) + 1 := ⟨(lsn - 1).toNat, by omega⟩
  obtain ⟨b, off, rfl, hbl, hc⟩ := hcs (by omega)
  obtain ⟨⟨ve, vl, vt, vk, vp, vn, vg, vz, vb, va⟩, hv⟩ : ∃ v, v = L.getD m zeroR := ⟨_, rfl⟩
  obtain ⟨d0, d1, d2, d3, d4, d5, d6, d7, d8, d9⟩ := RdQ.at hc (show m < n by omega) hv
  dsimp only at d2 d3
  have E0 : Hid (ownR L ((m : Int) + 1) tx = (decide (vt = tx) && decide (vk ≤ 3))) := by
    unfold Hid ownR
    rw [decide_eq_true h1, hl, decide_eq_true h2, show ((m : Int) + 1 - 1).toNat = m by omega, ← hv]
    rfl
  have g1 : (0 : Int) ≤ (m : Int) := by omega
  have g2 : (m : Int) < (n : Int) := by omega
  clear d0 d1 d4 d5 d6 d7 d8 d9 hv hc hcs
  by_cases h3 : vt = tx
  case neg =>
    have E : Hid (ownR L ((m : Int) + 1) tx = false) := by unfold Hid; rw [E0.out, decide_eq_false h3]; rfl
    go_enter Tryz.func219, Tryz.ntmps219
    go_wp2
    go_ret
    exact ⟨ret_bool E.out.symm, rfl⟩
  have E1 : Hid (ownR L ((m : Int) + 1) tx = decide (vk ≤ 3)) := by unfold Hid; rw [E0.out, decide_eq_true h3]; rfl
  subst h3
  by_cases h4 : vk ≤ 3
  · have E : Hid (ownR L ((m : Int) + 1) vt = true) := by unfold Hid; rw [E1.out, decide_eq_true h4]
    go_enter Tryz.func219, Tryz.ntmps219
    go_wp2
    go_ret
    exact ⟨ret_bool E.out.symm, rfl⟩
  · have E : Hid (ownR L ((m : Int) + 1) vt = false) := by unfold Hid; rw [E1.out, decide_eq_false h4]
    go_enter Tryz.func219, Tryz.ntmps219
    go_wp2
    go_ret
    exact ⟨ret_bool E.out.symm, rfl⟩

end Go.Proofs.YtfibdpfhfgnbiaaGreatDoor
namespace Go.Proofs.YtfibdpfhfgnbiaaGreatDoor
open Go Go.RowKit
attribute [local go_sem ↓] Go.wp_at_zero Go.wp_at_succ

/-- What a record leads back to is the transaction's: from the record at m on, f steps at most. -/
def lkF (L : List DR) (tx : Int) : Nat → Nat → Bool
  | 0, _ => true
  | f + 1, m => (!(decide ((L.getD m zeroR).k = 3)) || ownR L (L.getD m zeroR).n tx) && (decide ((L.getD m zeroR).p = 0) || (ownR L (L.getD m zeroR).p tx && lkF L tx f ((L.getD m zeroR).p - 1).toNat))
def lkd (L : List DR) (tx : Int) (m : Nat) : Bool := lkF L tx (m + 1) m
/-- Records of their places, each Prev below its record. -/
def Plc (L : List DR) : Prop := ∀ i, i < L.length → (L.getD i zeroR).l = (i : Int) + 1 ∧ 0 ≤ (L.getD i zeroR).p ∧ (L.getD i zeroR).p ≤ (i : Int)
theorem lk_fuel {L : List DR} {tx : Int} (hp : Plc L) : ∀ (f m : Nat), m < f → m < L.length → lkF L tx f m = lkF L tx (m + 1) m
  | 0, m, h, _ => absurd h (by omega)
  | f + 1, m, h, hm => by
    have hq := hp m hm
    show ((!(decide ((L.getD m zeroR).k = 3)) || ownR L (L.getD m zeroR).n tx) && (decide ((L.getD m zeroR).p = 0) || (ownR L (L.getD m zeroR).p tx && lkF L tx f ((L.getD m zeroR).p - 1).toNat))) = ((!(decide ((L.getD m zeroR).k = 3)) || ownR L (L.getD m zeroR).n tx) && (decide ((L.getD m zeroR).p = 0) || (ownR L (L.getD m zeroR).p tx && lkF L tx m ((L.getD m zeroR).p - 1).toNat)))
    by_cases h0 : (L.getD m zeroR).p = 0
    · rw [decide_eq_true h0]; rfl
    · have i1 := lk_fuel (tx := tx) hp f ((L.getD m zeroR).p - 1).toNat (by omega) (by omega)
      by_cases hm0 : m = 0
      · omega
      · have i2 : lkF L tx m ((L.getD m zeroR).p - 1).toNat = lkF L tx (((L.getD m zeroR).p - 1).toNat + 1) ((L.getD m zeroR).p - 1).toNat := by
          rcases Nat.lt_or_ge m (f + 1) with hmf | hmf
          · exact lk_fuel hp m _ (by omega) (by omega)
          · omega
        rw [i1, i2]
theorem lkd_at {L : List DR} {tx : Int} {m : Nat} (hp : Plc L) (hm : m < L.length) : lkd L tx m = ((!(decide ((L.getD m zeroR).k = 3)) || ownR L (L.getD m zeroR).n tx) && (decide ((L.getD m zeroR).p = 0) || (ownR L (L.getD m zeroR).p tx && lkd L tx ((L.getD m zeroR).p - 1).toNat))) := by
  have hq := hp m hm
  show ((!(decide ((L.getD m zeroR).k = 3)) || ownR L (L.getD m zeroR).n tx) && (decide ((L.getD m zeroR).p = 0) || (ownR L (L.getD m zeroR).p tx && lkF L tx m ((L.getD m zeroR).p - 1).toNat))) = _
  by_cases h0 : (L.getD m zeroR).p = 0
  · rw [decide_eq_true h0]; rfl
  · rw [lk_fuel (tx := tx) hp m ((L.getD m zeroR).p - 1).toNat (by omega) (by omega)]
    rfl
def lnk (L : List DR) (tx last : Int) : Bool := ownR L last tx && lkd L tx (last - 1).toNat
theorem ownR_lt {L : List DR} {lsn tx : Int} (h : ownR L lsn tx = true) : 1 ≤ lsn ∧ lsn ≤ (L.length : Int) := by
  unfold ownR at h
  simp only [Bool.and_eq_true, decide_eq_true_eq] at h
  exact ⟨h.1, h.2.1⟩
/-- What stands in a record's block as its place. -/
def lsnOf (v : Value) (w : World) : Nat := match v with
  | .pointer (some ⟨b, _, _⟩) => match w.cell? ⟨b, 1, none⟩ with
    | some (.int _ z) => z.toNat
    | _ => 0
  | _ => 0
theorem lsnOf_at {w : World} {b : Nat} {z : Int} (h : w.cell? ⟨b, 1, none⟩ = some (.int .i64 z)) : lsnOf (.pointer (some ⟨b, 0, none⟩)) w = z.toNat := by
  unfold lsnOf; simp [h]
set_option maxRecDepth 100000 in
set_option maxHeartbeats 4000000 in
theorem c_isLinked (a : Option Addr) (n cap : Nat) (L : List DR) (vx vf : Int) (w : World) (hr : RdQ w a n L) (hn : n ≤ 1048576) (hp : Plc L) :
    Calls Tryz.prog 142 #[.slice a n cap, .agg #[.int .i64 vx, .int .i64 vf]] w fun e w' => e = .returned (.bool (lnk L vx vf)) ∧ Below w.heap.size w w' := by
  obtain ⟨V, hV⟩ : ∃ V, w.alloc (.cells #[.int .i64 vx, .int .i64 vf] 95) = V := ⟨_, rfl⟩
  have B0 : Hid (Below w.heap.size w V) := by unfold Hid; rw [← hV]; exact (Below.refl _ _).alloc (Nat.le_refl _) _
  have X0 : Hid (Box V w.heap.size 95 #[.int .i64 vx, .int .i64 vf]) := by unfold Hid; rw [← hV]; exact Box.new _ _ _
  have CO : Hid (∀ (lsn : Int) (W : World), Below w.heap.size w W → Calls Tryz.prog 219 #[.slice a n cap, .int .i64 lsn, .int .i64 vx] W fun e w' => e = .returned (.bool (ownR L lsn vx)) ∧ w' = W) := fun lsn W hW => c_isOwn a n cap L lsn vx W (hr.below hW) hn
  have RL : Hid (RdQ w a n L) := hr
  have HP : Hid (Plc L) := hp
  have hl : L.length = n := hr.1
  clear hr hp
  obtain ⟨x0, x1⟩ := G.box2 X0.out
  go_enter Tryz.func142, Tryz.ntmps142
  go_wp2_with fail
  refine (CO.out vf V B0.out).mono ?_
  rintro e w' ⟨rfl, hw⟩
  have hw' := hw.symm
  subst hw'
  clear hw
  cases ho : ownR L vf vx
  case false =>
    have E : Hid (lnk L vx vf = false) := by unfold Hid lnk; rw [ho]; rfl
    clear ho
    go_wp2
    go_ret
    exact ⟨ret_bool E.out.symm, B0.out⟩
  have hlt := ownR_lt ho
  obtain ⟨m0, rfl⟩ : ∃ m : Nat, vf = (m : Int) + 1 := ⟨(vf - 1).toNat, by omega⟩
  have E0 : Hid (lnk L vx ((m0 : Int) + 1) = lkd L vx m0) := by unfold Hid lnk; rw [ho, show ((m0 : Int) + 1 - 1).toNat = m0 by omega]; rfl
  clear ho
  obtain ⟨b, off, hla, hbl, hc⟩ := RL.out.2 (by omega)
  have HC : Hid (∀ i, i < n → ∀ j, j < 10 → w.cell? ⟨b, off + i * 10 + j, none⟩ = (cQ (L.getD i zeroR))[j]?) := hc
  have HBL : Hid (b < w.heap.size) := hbl
  clear hc hbl
  subst hla
  obtain ⟨⟨ve, vl, vt, vk, vp, vn, vg, vz, vb, va⟩, hv⟩ : ∃ v, v = L.getD m0 zeroR := ⟨_, rfl⟩
  obtain ⟨d0, d1, d2, d3, d4, d5, d6, d7, d8, d9⟩ := RdQ.at HC.out (show m0 < n by omega) hv
  dsimp only at d0 d1 d2 d3 d4 d5 d6 d7 d8 d9
  have e0 := (B0.out.cell (p := ⟨b, off + m0 * 10, none⟩) HBL.out).trans d0
  have e1 := (B0.out.cell (p := ⟨b, off + m0 * 10 + 1, none⟩) HBL.out).trans d1
  have e2 := (B0.out.cell (p := ⟨b, off + m0 * 10 + 2, none⟩) HBL.out).trans d2
  have e3 := (B0.out.cell (p := ⟨b, off + m0 * 10 + 3, none⟩) HBL.out).trans d3
  have e4 := (B0.out.cell (p := ⟨b, off + m0 * 10 + 4, none⟩) HBL.out).trans d4
  have e5 := (B0.out.cell (p := ⟨b, off + m0 * 10 + 5, none⟩) HBL.out).trans d5
  have e6 := (B0.out.cell (p := ⟨b, off + m0 * 10 + 6, none⟩) HBL.out).trans d6
  have e7 := (B0.out.cell (p := ⟨b, off + m0 * 10 + 7, none⟩) HBL.out).trans d7
  have e8 := (B0.out.cell (p := ⟨b, off + m0 * 10 + 8, none⟩) HBL.out).trans d8
  have e9 := (B0.out.cell (p := ⟨b, off + m0 * 10 + 9, none⟩) HBL.out).trans d9
  have HV : Hid ((⟨ve, vl, vt, vk, vp, vn, vg, vz, vb, va⟩ : DR) = L.getD m0 zeroR) := hv
  have g1 : (0 : Int) ≤ (m0 : Int) := by omega
  have g2 : (m0 : Int) < (n : Int) := by omega
  obtain ⟨W, hW⟩ : ∃ W, V.alloc (.cells #[.int .i64 ve, .int .i64 vl, .int .i64 vt, .int .i64 vk, .int .i64 vp, .int .i64 vn, .int .i64 vg, .int .i64 vz, .string vb, .string va] 78) = W := ⟨_, rfl⟩
  have hbA : Below V.heap.size V W := by rw [← hW]; exact (Below.refl _ _).alloc (Nat.le_refl _) _
  have BW : Hid (Below w.heap.size w W) := B0.out.trans (hbA.mono B0.out.size)
  have XW : Hid (Box W w.heap.size 95 #[.int .i64 vx, .int .i64 ((m0 : Int) + 1)]) := X0.out.belowS hbA
  have NW : Hid (Box W V.heap.size 78 #[.int .i64 ve, .int .i64 vl, .int .i64 vt, .int .i64 vk, .int .i64 vp, .int .i64 vn, .int .i64 vg, .int .i64 vz, .string vb, .string va]) := by unfold Hid; rw [← hW]; exact Box.new _ _ _
  have LW : w.heap.size < V.heap.size := X0.out.lt
  clear hv d0 d1 d2 d3 d4 d5 d6 d7 d8 d9 hbA
  go_wp2
  clear x0 x1 e0 e1 e2 e3 e4 e5 e6 e7 e8 e9 hW B0 X0
  go_loopw [5] (fun r wr => ∃ (B m : Nat) (u : DR), r = .pointer (some ⟨B, 0, none⟩) ∧ m < n ∧ w.heap.size < B ∧ Hid (u = L.getD m zeroR) ∧ Hid (Box wr B 78 #[.int .i64 u.e, .int .i64 u.l, .int .i64 u.t, .int .i64 u.k, .int .i64 u.p, .int .i64 u.n, .int .i64 u.g, .int .i64 u.s, .string u.b, .string u.a]) ∧ Hid (Box wr w.heap.size 95 #[.int .i64 vx, .int .i64 ((m0 : Int) + 1)]) ∧ Hid (lkd L vx m = lkd L vx m0) ∧ Hid (Below w.heap.size w wr)) (fun r wr => lsnOf r wr)
  case atStart => exact ⟨V.heap.size, m0, ⟨ve, vl, vt, vk, vp, vn, vg, vz, vb, va⟩, rfl, by omega, LW, HV, NW, XW, rfl, BW⟩
  case round =>
    clear HV NW XW BW LW
    obtain ⟨B, m, ⟨se, sl, st, sk, sp, sn, sg, sz, sb, sa⟩, rfl, hm, hB, HU, NB, XB, HI, BB⟩ := hrel
    dsimp only at HU NB
    have HAT := lkd_at (tx := vx) HP.out (show m < L.length by omega)
    have HPL := HP.out m (by omega)
    rw [← HU.out] at HAT HPL
    dsimp only at HAT HPL
    have HAT' : Hid (_ = _) := HAT
    obtain ⟨hl1, hp0, hp1⟩ := HPL
    have HL1 : Hid (sl = (m : Int) + 1) := hl1
    clear HAT hl1
    obtain ⟨y0, y1, y2, y3, y4, y5, y6, y7, y8, y9⟩ := box10 NB.out
    obtain ⟨x0, x1⟩ := G.box2 XB.out
    by_cases hk : sk = 3
    · have hkk : (sk == 3) = true := by simpa using hk
      have KK : Hid (decide (sk = 3) = true) := decide_eq_true hk
      clear hk
      go_wp2_with fail
      refine (CO.out sn wr BB.out).mono ?_
      rintro e w' ⟨rfl, hw⟩
      have hw' := hw.symm
      subst hw'
      clear hw
      cases hn2 : ownR L sn vx
      case false =>
        have E : Hid (lnk L vx ((m0 : Int) + 1) = false) := by unfold Hid; rw [E0.out, ← HI.out, HAT'.out, KK.out, hn2]; rfl
        clear hn2
        go_wp2
        go_ret
        exact ⟨ret_bool E.out.symm, BB.out⟩
      have KN : Hid ((!(decide (sk = 3)) || ownR L sn vx) = true) := by unfold Hid; rw [KK.out, hn2]; rfl
      clear hn2 KK
      by_cases hz : sp = 0
      · have E : Hid (lnk L vx ((m0 : Int) + 1) = true) := by unfold Hid; rw [E0.out, ← HI.out, HAT'.out, KN.out, decide_eq_true hz]; rfl
        go_wp2
        go_ret
        exact ⟨ret_bool E.out.symm, BB.out⟩
      go_wp2_with fail
      refine (CO.out sp wr BB.out).mono ?_
      rintro e w' ⟨rfl, hw⟩
      have hw' := hw.symm
      subst hw'
      clear hw
      cases ho : ownR L sp vx
      case false =>
        have E : Hid (lnk L vx ((m0 : Int) + 1) = false) := by unfold Hid; rw [E0.out, ← HI.out, HAT'.out, KN.out, decide_eq_false hz, ho]; rfl
        clear ho
        go_wp2
        go_ret
        exact ⟨ret_bool E.out.symm, BB.out⟩
      obtain ⟨q, rfl⟩ : ∃ q : Nat, sp = (q : Int) + 1 := ⟨(sp - 1).toNat, by omega⟩
      have HI2 : Hid (lkd L vx q = lkd L vx m0) := by
        unfold Hid
        rw [← HI.out, HAT'.out, KN.out, decide_eq_false hz, ho, show ((q : Int) + 1 - 1).toNat = q by omega]
        simp
      clear ho
      obtain ⟨⟨qe, ql, qt, qk, qp, qn, qg, qz, qb, qa⟩, hv⟩ : ∃ v, v = L.getD q zeroR := ⟨_, rfl⟩
      obtain ⟨d0, d1, d2, d3, d4, d5, d6, d7, d8, d9⟩ := RdQ.at HC.out (show q < n by omega) hv
      have HQ := HP.out q (by omega)
      rw [← hv] at HQ
      dsimp only at HQ d0 d1 d2 d3 d4 d5 d6 d7 d8 d9
      have HQL : Hid (ql = (q : Int) + 1) := HQ.1
      have HVQ : Hid ((⟨qe, ql, qt, qk, qp, qn, qg, qz, qb, qa⟩ : DR) = L.getD q zeroR) := hv
      obtain ⟨W1, hW1⟩ : ∃ W, wr.alloc (.cells #[.int .i64 se, .int .i64 sl, .int .i64 st, .int .i64 sk, .int .i64 ((q : Int) + 1), .int .i64 sn, .int .i64 sg, .int .i64 sz, .string sb, .string sa] 78) = W := ⟨_, rfl⟩
      have hbA : Below wr.heap.size wr W1 := by rw [← hW1]; exact (Below.refl _ _).alloc (Nat.le_refl _) _
      have B1 : Hid (Below w.heap.size w W1) := BB.out.trans (hbA.mono BB.out.size)
      have X1 : Hid (Box W1 w.heap.size 95 #[.int .i64 vx, .int .i64 ((m0 : Int) + 1)]) := XB.out.belowS hbA
      have N1 : Hid (Box W1 wr.heap.size 78 #[.int .i64 se, .int .i64 sl, .int .i64 st, .int .i64 sk, .int .i64 ((q : Int) + 1), .int .i64 sn, .int .i64 sg, .int .i64 sz, .string sb, .string sa]) := by unfold Hid; rw [← hW1]; exact Box.new _ _ _
      have f0 := (B1.out.cell (p := ⟨b, off + q * 10, none⟩) HBL.out).trans d0
      have f1 := (B1.out.cell (p := ⟨b, off + q * 10 + 1, none⟩) HBL.out).trans d1
      have f2 := (B1.out.cell (p := ⟨b, off + q * 10 + 2, none⟩) HBL.out).trans d2
      have f3 := (B1.out.cell (p := ⟨b, off + q * 10 + 3, none⟩) HBL.out).trans d3
      have f4 := (B1.out.cell (p := ⟨b, off + q * 10 + 4, none⟩) HBL.out).trans d4
      have f5 := (B1.out.cell (p := ⟨b, off + q * 10 + 5, none⟩) HBL.out).trans d5
      have f6 := (B1.out.cell (p := ⟨b, off + q * 10 + 6, none⟩) HBL.out).trans d6
      have f7 := (B1.out.cell (p := ⟨b, off + q * 10 + 7, none⟩) HBL.out).trans d7
      have f8 := (B1.out.cell (p := ⟨b, off + q * 10 + 8, none⟩) HBL.out).trans d8
      have f9 := (B1.out.cell (p := ⟨b, off + q * 10 + 9, none⟩) HBL.out).trans d9
      obtain ⟨z0, z1, z2, z3, z4, z5, z6, z7, z8, z9⟩ := box10 N1.out
      obtain ⟨k0, k1, k2, k3, k4, k5, k6, k7, k8, k9⟩ := thaw10 N1.out
      have LB : w.heap.size < wr.heap.size := XB.out.lt
      have N2 : Hid (Box ((((((((((W1.setCell ⟨wr.heap.size, 0, none⟩ (.int .i64 qe)).setCell ⟨wr.heap.size, 1, none⟩ (.int .i64 ql)).setCell ⟨wr.heap.size, 2, none⟩ (.int .i64 qt)).setCell ⟨wr.heap.size, 3, none⟩ (.int .i64 qk)).setCell ⟨wr.heap.size, 4, none⟩ (.int .i64 qp)).setCell ⟨wr.heap.size, 5, none⟩ (.int .i64 qn)).setCell ⟨wr.heap.size, 6, none⟩ (.int .i64 qg)).setCell ⟨wr.heap.size, 7, none⟩ (.int .i64 qz)).setCell ⟨wr.heap.size, 8, none⟩ (.string qb)).setCell ⟨wr.heap.size, 9, none⟩ (.string qa)) wr.heap.size 78 #[.int .i64 qe, .int .i64 ql, .int .i64 qt, .int .i64 qk, .int .i64 qp, .int .i64 qn, .int .i64 qg, .int .i64 qz, .string qb, .string qa]) := put10_box (D0 := ⟨se, sl, st, sk, (q : Int) + 1, sn, sg, sz, sb, sa⟩) N1.out ⟨qe, ql, qt, qk, qp, qn, qg, qz, qb, qa⟩
      have B2 : Hid (Below w.heap.size w ((((((((((W1.setCell ⟨wr.heap.size, 0, none⟩ (.int .i64 qe)).setCell ⟨wr.heap.size, 1, none⟩ (.int .i64 ql)).setCell ⟨wr.heap.size, 2, none⟩ (.int .i64 qt)).setCell ⟨wr.heap.size, 3, none⟩ (.int .i64 qk)).setCell ⟨wr.heap.size, 4, none⟩ (.int .i64 qp)).setCell ⟨wr.heap.size, 5, none⟩ (.int .i64 qn)).setCell ⟨wr.heap.size, 6, none⟩ (.int .i64 qg)).setCell ⟨wr.heap.size, 7, none⟩ (.int .i64 qz)).setCell ⟨wr.heap.size, 8, none⟩ (.string qb)).setCell ⟨wr.heap.size, 9, none⟩ (.string qa))) := put10_below B1.out (by omega) ⟨qe, ql, qt, qk, qp, qn, qg, qz, qb, qa⟩
      have X2 : Hid (Box ((((((((((W1.setCell ⟨wr.heap.size, 0, none⟩ (.int .i64 qe)).setCell ⟨wr.heap.size, 1, none⟩ (.int .i64 ql)).setCell ⟨wr.heap.size, 2, none⟩ (.int .i64 qt)).setCell ⟨wr.heap.size, 3, none⟩ (.int .i64 qk)).setCell ⟨wr.heap.size, 4, none⟩ (.int .i64 qp)).setCell ⟨wr.heap.size, 5, none⟩ (.int .i64 qn)).setCell ⟨wr.heap.size, 6, none⟩ (.int .i64 qg)).setCell ⟨wr.heap.size, 7, none⟩ (.int .i64 qz)).setCell ⟨wr.heap.size, 8, none⟩ (.string qb)).setCell ⟨wr.heap.size, 9, none⟩ (.string qa)) w.heap.size 95 #[.int .i64 vx, .int .i64 ((m0 : Int) + 1)]) := (((((((((X1.out.setOther _ _ (by simp; omega)).setOther _ _ (by simp; omega)).setOther _ _ (by simp; omega)).setOther _ _ (by simp; omega)).setOther _ _ (by simp; omega)).setOther _ _ (by simp; omega)).setOther _ _ (by simp; omega)).setOther _ _ (by simp; omega)).setOther _ _ (by simp; omega)).setOther _ _ (by simp; omega)
      have MS : Hid (lsnOf (.pointer (some ⟨wr.heap.size, 0, none⟩)) ((((((((((W1.setCell ⟨wr.heap.size, 0, none⟩ (.int .i64 qe)).setCell ⟨wr.heap.size, 1, none⟩ (.int .i64 ql)).setCell ⟨wr.heap.size, 2, none⟩ (.int .i64 qt)).setCell ⟨wr.heap.size, 3, none⟩ (.int .i64 qk)).setCell ⟨wr.heap.size, 4, none⟩ (.int .i64 qp)).setCell ⟨wr.heap.size, 5, none⟩ (.int .i64 qn)).setCell ⟨wr.heap.size, 6, none⟩ (.int .i64 qg)).setCell ⟨wr.heap.size, 7, none⟩ (.int .i64 qz)).setCell ⟨wr.heap.size, 8, none⟩ (.string qb)).setCell ⟨wr.heap.size, 9, none⟩ (.string qa)) < lsnOf (.pointer (some ⟨B, 0, none⟩)) wr) := by
        unfold Hid
        rw [lsnOf_at (z := ql) (N2.out.cell 1), lsnOf_at (z := sl) y1]
        have h1 := HQL.out
        have h2 := HL1.out
        omega
      have g3 : (0 : Int) ≤ (q : Int) := by omega
      have g4 : (q : Int) < (n : Int) := by omega
      have hq : q < n := by omega
      clear hv HQ d0 d1 d2 d3 d4 d5 d6 d7 d8 d9 hbA N1 B1 X1 hz
      go_wp2
      go_roundw
      case rel => exact ⟨wr.heap.size, q, ⟨qe, ql, qt, qk, qp, qn, qg, qz, qb, qa⟩, rfl, hq, LB, HVQ, N2, X2, HI2, B2⟩
      case measure => exact MS.out
    · have hkk : (sk == 3) = false := by simpa using hk
      have KN : Hid ((!(decide (sk = 3)) || ownR L sn vx) = true) := by unfold Hid; rw [decide_eq_false hk]; rfl
      by_cases hz : sp = 0
      · have E : Hid (lnk L vx ((m0 : Int) + 1) = true) := by unfold Hid; rw [E0.out, ← HI.out, HAT'.out, KN.out, decide_eq_true hz]; rfl
        go_wp2
        go_ret
        exact ⟨ret_bool E.out.symm, BB.out⟩
      go_wp2_with fail
      refine (CO.out sp wr BB.out).mono ?_
      rintro e w' ⟨rfl, hw⟩
      have hw' := hw.symm
      subst hw'
      clear hw
      cases ho : ownR L sp vx
      case false =>
        have E : Hid (lnk L vx ((m0 : Int) + 1) = false) := by unfold Hid; rw [E0.out, ← HI.out, HAT'.out, KN.out, decide_eq_false hz, ho]; rfl
        clear ho
        go_wp2
        go_ret
        exact ⟨ret_bool E.out.symm, BB.out⟩
      obtain ⟨q, rfl⟩ : ∃ q : Nat, sp = (q : Int) + 1 := ⟨(sp - 1).toNat, by omega⟩
      have HI2 : Hid (lkd L vx q = lkd L vx m0) := by
        unfold Hid
        rw [← HI.out, HAT'.out, KN.out, decide_eq_false hz, ho, show ((q : Int) + 1 - 1).toNat = q by omega]
        simp
      clear ho
      obtain ⟨⟨qe, ql, qt, qk, qp, qn, qg, qz, qb, qa⟩, hv⟩ : ∃ v, v = L.getD q zeroR := ⟨_, rfl⟩
      obtain ⟨d0, d1, d2, d3, d4, d5, d6, d7, d8, d9⟩ := RdQ.at HC.out (show q < n by omega) hv
      have HQ := HP.out q (by omega)
      rw [← hv] at HQ
      dsimp only at HQ d0 d1 d2 d3 d4 d5 d6 d7 d8 d9
      have HQL : Hid (ql = (q : Int) + 1) := HQ.1
      have HVQ : Hid ((⟨qe, ql, qt, qk, qp, qn, qg, qz, qb, qa⟩ : DR) = L.getD q zeroR) := hv
      obtain ⟨W1, hW1⟩ : ∃ W, wr.alloc (.cells #[.int .i64 se, .int .i64 sl, .int .i64 st, .int .i64 sk, .int .i64 ((q : Int) + 1), .int .i64 sn, .int .i64 sg, .int .i64 sz, .string sb, .string sa] 78) = W := ⟨_, rfl⟩
      have hbA : Below wr.heap.size wr W1 := by rw [← hW1]; exact (Below.refl _ _).alloc (Nat.le_refl _) _
      have B1 : Hid (Below w.heap.size w W1) := BB.out.trans (hbA.mono BB.out.size)
      have X1 : Hid (Box W1 w.heap.size 95 #[.int .i64 vx, .int .i64 ((m0 : Int) + 1)]) := XB.out.belowS hbA
      have N1 : Hid (Box W1 wr.heap.size 78 #[.int .i64 se, .int .i64 sl, .int .i64 st, .int .i64 sk, .int .i64 ((q : Int) + 1), .int .i64 sn, .int .i64 sg, .int .i64 sz, .string sb, .string sa]) := by unfold Hid; rw [← hW1]; exact Box.new _ _ _
      have f0 := (B1.out.cell (p := ⟨b, off + q * 10, none⟩) HBL.out).trans d0
      have f1 := (B1.out.cell (p := ⟨b, off + q * 10 + 1, none⟩) HBL.out).trans d1
      have f2 := (B1.out.cell (p := ⟨b, off + q * 10 + 2, none⟩) HBL.out).trans d2
      have f3 := (B1.out.cell (p := ⟨b, off + q * 10 + 3, none⟩) HBL.out).trans d3
      have f4 := (B1.out.cell (p := ⟨b, off + q * 10 + 4, none⟩) HBL.out).trans d4
      have f5 := (B1.out.cell (p := ⟨b, off + q * 10 + 5, none⟩) HBL.out).trans d5
      have f6 := (B1.out.cell (p := ⟨b, off + q * 10 + 6, none⟩) HBL.out).trans d6
      have f7 := (B1.out.cell (p := ⟨b, off + q * 10 + 7, none⟩) HBL.out).trans d7
      have f8 := (B1.out.cell (p := ⟨b, off + q * 10 + 8, none⟩) HBL.out).trans d8
      have f9 := (B1.out.cell (p := ⟨b, off + q * 10 + 9, none⟩) HBL.out).trans d9
      obtain ⟨z0, z1, z2, z3, z4, z5, z6, z7, z8, z9⟩ := box10 N1.out
      obtain ⟨k0, k1, k2, k3, k4, k5, k6, k7, k8, k9⟩ := thaw10 N1.out
      have LB : w.heap.size < wr.heap.size := XB.out.lt
      have N2 : Hid (Box ((((((((((W1.setCell ⟨wr.heap.size, 0, none⟩ (.int .i64 qe)).setCell ⟨wr.heap.size, 1, none⟩ (.int .i64 ql)).setCell ⟨wr.heap.size, 2, none⟩ (.int .i64 qt)).setCell ⟨wr.heap.size, 3, none⟩ (.int .i64 qk)).setCell ⟨wr.heap.size, 4, none⟩ (.int .i64 qp)).setCell ⟨wr.heap.size, 5, none⟩ (.int .i64 qn)).setCell ⟨wr.heap.size, 6, none⟩ (.int .i64 qg)).setCell ⟨wr.heap.size, 7, none⟩ (.int .i64 qz)).setCell ⟨wr.heap.size, 8, none⟩ (.string qb)).setCell ⟨wr.heap.size, 9, none⟩ (.string qa)) wr.heap.size 78 #[.int .i64 qe, .int .i64 ql, .int .i64 qt, .int .i64 qk, .int .i64 qp, .int .i64 qn, .int .i64 qg, .int .i64 qz, .string qb, .string qa]) := put10_box (D0 := ⟨se, sl, st, sk, (q : Int) + 1, sn, sg, sz, sb, sa⟩) N1.out ⟨qe, ql, qt, qk, qp, qn, qg, qz, qb, qa⟩
      have B2 : Hid (Below w.heap.size w ((((((((((W1.setCell ⟨wr.heap.size, 0, none⟩ (.int .i64 qe)).setCell ⟨wr.heap.size, 1, none⟩ (.int .i64 ql)).setCell ⟨wr.heap.size, 2, none⟩ (.int .i64 qt)).setCell ⟨wr.heap.size, 3, none⟩ (.int .i64 qk)).setCell ⟨wr.heap.size, 4, none⟩ (.int .i64 qp)).setCell ⟨wr.heap.size, 5, none⟩ (.int .i64 qn)).setCell ⟨wr.heap.size, 6, none⟩ (.int .i64 qg)).setCell ⟨wr.heap.size, 7, none⟩ (.int .i64 qz)).setCell ⟨wr.heap.size, 8, none⟩ (.string qb)).setCell ⟨wr.heap.size, 9, none⟩ (.string qa))) := put10_below B1.out (by omega) ⟨qe, ql, qt, qk, qp, qn, qg, qz, qb, qa⟩
      have X2 : Hid (Box ((((((((((W1.setCell ⟨wr.heap.size, 0, none⟩ (.int .i64 qe)).setCell ⟨wr.heap.size, 1, none⟩ (.int .i64 ql)).setCell ⟨wr.heap.size, 2, none⟩ (.int .i64 qt)).setCell ⟨wr.heap.size, 3, none⟩ (.int .i64 qk)).setCell ⟨wr.heap.size, 4, none⟩ (.int .i64 qp)).setCell ⟨wr.heap.size, 5, none⟩ (.int .i64 qn)).setCell ⟨wr.heap.size, 6, none⟩ (.int .i64 qg)).setCell ⟨wr.heap.size, 7, none⟩ (.int .i64 qz)).setCell ⟨wr.heap.size, 8, none⟩ (.string qb)).setCell ⟨wr.heap.size, 9, none⟩ (.string qa)) w.heap.size 95 #[.int .i64 vx, .int .i64 ((m0 : Int) + 1)]) := (((((((((X1.out.setOther _ _ (by simp; omega)).setOther _ _ (by simp; omega)).setOther _ _ (by simp; omega)).setOther _ _ (by simp; omega)).setOther _ _ (by simp; omega)).setOther _ _ (by simp; omega)).setOther _ _ (by simp; omega)).setOther _ _ (by simp; omega)).setOther _ _ (by simp; omega)).setOther _ _ (by simp; omega)
      have MS : Hid (lsnOf (.pointer (some ⟨wr.heap.size, 0, none⟩)) ((((((((((W1.setCell ⟨wr.heap.size, 0, none⟩ (.int .i64 qe)).setCell ⟨wr.heap.size, 1, none⟩ (.int .i64 ql)).setCell ⟨wr.heap.size, 2, none⟩ (.int .i64 qt)).setCell ⟨wr.heap.size, 3, none⟩ (.int .i64 qk)).setCell ⟨wr.heap.size, 4, none⟩ (.int .i64 qp)).setCell ⟨wr.heap.size, 5, none⟩ (.int .i64 qn)).setCell ⟨wr.heap.size, 6, none⟩ (.int .i64 qg)).setCell ⟨wr.heap.size, 7, none⟩ (.int .i64 qz)).setCell ⟨wr.heap.size, 8, none⟩ (.string qb)).setCell ⟨wr.heap.size, 9, none⟩ (.string qa)) < lsnOf (.pointer (some ⟨B, 0, none⟩)) wr) := by
        unfold Hid
        rw [lsnOf_at (z := ql) (N2.out.cell 1), lsnOf_at (z := sl) y1]
        have h1 := HQL.out
        have h2 := HL1.out
        omega
      have g3 : (0 : Int) ≤ (q : Int) := by omega
      have g4 : (q : Int) < (n : Int) := by omega
      have hq : q < n := by omega
      clear hv HQ d0 d1 d2 d3 d4 d5 d6 d7 d8 d9 hbA N1 B1 X1 hz
      go_wp2
      go_roundw
      case rel => exact ⟨wr.heap.size, q, ⟨qe, ql, qt, qk, qp, qn, qg, qz, qb, qa⟩, rfl, hq, LB, HVQ, N2, X2, HI2, B2⟩
      case measure => exact MS.out

end Go.Proofs.YtfibdpfhfgnbiaaGreatDoor
