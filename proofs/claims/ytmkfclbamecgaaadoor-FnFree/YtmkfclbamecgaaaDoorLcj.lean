/-
  A lock is taken, or waited for: the specification's walk.
-/
import Derived.Test.YtmkfclbamecgaaaDoorLci
import Derived.Test.YtmkfclbamecgaaaDoorLch
import Derived.Test.YtmkfclbamecgaaaDoorLcg
import Derived.Test.YtmkfclbamecgaaaDoorLgf
import Derived.Deep.QuietTactic
import Derived.BigQuiet
namespace Go.Proofs.YtmkfclbamecgaaaDoor
open Go Go.RowKit
attribute [local go_sem ↓] Go.wp_at_zero Go.wp_at_succ

theorem spF_x (vs : List LK) (x b r m : Int) : ∀ k, k ≤ vs.length → ∀ e ∈ spF vs x b r m k, e.x = x
  | 0, _ => fun e he => by simp [spF] at he
  | k + 1, h => by
    have ih := spF_x vs x b r m k (by omega)
    rw [spF_step _ _ _ _ _ _ (by omega)]
    unfold spS
    split
    · intro e he
      rcases List.mem_append.1 he with h1 | h1
      · exact ih e h1
      · rw [List.mem_singleton.1 h1]
    · exact ih
theorem cellsW_app (a b : List WK) : cellsW (a ++ b) = cellsW a ++ cellsW b := by unfold cellsW; rw [List.flatMap_append]
def metF (y : Int) (L : List WK) : Bool := L.any (fun e => decide (e.f = y))
theorem metF_eq (x y : Int) (L : List WK) (h : ∀ e ∈ L, e.x = x) : metB x y L = metF y L := by
  unfold metB metF
  induction L with
  | nil => rfl
  | cons a L ih =>
    rw [List.any_cons, List.any_cons, ih (fun e he => h e (List.mem_cons_of_mem _ he)), decide_eq_true (h a List.mem_cons_self), Bool.true_and]
theorem metF_step (y : Int) (L : List WK) (j : Nat) (hj : j < L.length) : metF y (L.take (j + 1)) = (metF y (L.take j) || decide ((L.getD j dW).f = y)) := by
  unfold metF
  rw [List.take_add_one, List.any_append, List.getElem?_eq_getElem hj, List.getD_eq_getElem?_getD, List.getElem?_eq_getElem hj]
  simp
set_option maxRecDepth 100000 in
set_option maxHeartbeats 8000000 in
theorem c_l06Take (h : HL) (vs : List LK) (ws : List WK) (x b r m : Int) (w : World) (rd : RdL w h vs ws) (hok : okLs vs ws = true) (hk : okK ⟨x, b, r, m⟩ = true) (n0 : h.a0 = none → h.c0 = 0) (n1 : h.a1 = none → h.c1 = 0) :
    Calls Tryd.prog 66 #[.agg #[.slice h.a0 vs.length h.c0, .slice h.a1 ws.length h.c1], .int .i64 x, .int .i64 b, .int .i64 r, .int .i64 m] w fun e w' => (∃ h' : HL, e = .returned (.tuple #[.agg #[.slice h'.a0 (tkV vs x b r m).length h'.c0, .slice h'.a1 (tkW vs ws x b r m).length h'.c1], .int .i64 (tkC vs ws x b r m)]) ∧ OwnL w' w.heap.size h' (tkV vs x b r m) (tkW vs ws x b r m)) ∧ Below w.heap.size w w' := by
  obtain ⟨f0, f1, hall, hwall⟩ := okLs_parts hok
  obtain ⟨bx, bb, br, bm⟩ := okK_bounds hk
  have HALL : Hid (vs.all okK = true) := hall
  have HWALL : Hid (ws.all okW = true) := hwall
  obtain ⟨i0, hi, hz0, hz1, hz2⟩ := info_parts infoK
  obtain ⟨j0, hj0, jz0, jz1, jz2⟩ := info_parts infoW
  obtain ⟨V0, hV0⟩ : ∃ V, w.alloc (.cells #[.slice h.a0 vs.length h.c0, .slice h.a1 ws.length h.c1] 34) = V := ⟨_, rfl⟩
  obtain ⟨V, hV⟩ : ∃ V, V0.alloc (.cells #[.slice none 0 0, .slice none 0 0] 34) = V := ⟨_, rfl⟩
  have hb0 : Below w.heap.size w V0 := by rw [← hV0]; exact (Below.refl _ _).alloc (Nat.le_refl _) _
  have hb1 : Below V0.heap.size V0 V := by rw [← hV]; exact (Below.refl _ _).alloc (Nat.le_refl _) _
  have BV : Hid (Below w.heap.size w V) := hb0.trans (hb1.mono hb0.size)
  have XV : Hid (Box V w.heap.size 34 #[.slice h.a0 vs.length h.c0, .slice h.a1 ws.length h.c1]) := (show Box V0 w.heap.size 34 #[.slice h.a0 vs.length h.c0, .slice h.a1 ws.length h.c1] by rw [← hV0]; exact Box.new _ _ _).belowS hb1
  have YV : Hid (Box V V0.heap.size 34 #[.slice none 0 0, .slice none 0 0]) := by unfold Hid; rw [← hV]; exact Box.new _ _ _
  have l0 : w.heap.size < V0.heap.size := by rw [← hV0]; simp
  have l1 : V0.heap.size < V.heap.size := YV.out.lt
  have CO := c_l06Own h vs ws V (rd.below BV.out) (by omega) (by omega) n0 n1
  obtain ⟨x0, x1⟩ := box2 XV.out
  clear rd hb0 hb1 hall hwall hok hk n0 n1
  go_enter Tryd.func66, Tryd.ntmps66
  go_wp2_with fail
  refine CO.mono ?_
  rintro e w1 ⟨⟨h1, rfl, o1⟩, hb⟩
  have B1 : Hid (Below w.heap.size w w1) := BV.out.trans (hb.mono BV.out.size)
  have Y1 : Hid (Box w1 V0.heap.size 34 #[.slice none 0 0, .slice none 0 0]) := YV.out.belowS hb
  have O1 : Hid (OwnL w1 V.heap.size h1 vs ws) := o1
  have l2 : V.heap.size ≤ w1.heap.size := hb.size
  clear hb o1 CO x0 x1 XV YV BV
  go_wp2_with fail
  refine (c_l06Calm h1 vs ws x w1 O1.out.rd (by omega)).mono ?_
  rintro e w2 ⟨⟨wa, wc, rfl, o2⟩, hb⟩
  have ra := own_rng O1.out.1
  have rb := own_rng o2
  have B2 : Hid (Below w.heap.size w w2) := B1.out.trans (hb.mono B1.out.size)
  have Y2 : Hid (Box w2 V0.heap.size 34 #[.slice none 0 0, .slice none 0 0]) := Y1.out.belowS hb
  have O2 : Hid (OwnL w2 V.heap.size (⟨h1.a0, h1.c0, wa, wc⟩ : HL) vs (callW ws x)) := ⟨own_below O1.out.1 hb, o2.down l2, fun k hk hk' => by have := ra k hk; have := rb k hk'; omega⟩
  have l3 : w1.heap.size ≤ w2.heap.size := hb.size
  have RA1 : Hid (∀ k, ob h1.a0 = some k → V.heap.size ≤ k ∧ k < w1.heap.size) := ra
  have RB1 : Hid (∀ k, ob wa = some k → w1.heap.size ≤ k ∧ k < w2.heap.size) := rb
  clear hb o2 ra rb O1 Y1 B1
  obtain ⟨w3, hw3⟩ : ∃ Q, w2.alloc (.cells #[.slice h1.a0 vs.length h1.c0, .slice wa (callW ws x).length wc] 34) = Q := ⟨_, rfl⟩
  have hb3 : Below w2.heap.size w2 w3 := by rw [← hw3]; exact (Below.refl _ _).alloc (Nat.le_refl _) _
  have N3 : Hid (Box w3 w2.heap.size 34 #[.slice h1.a0 vs.length h1.c0, .slice wa (callW ws x).length wc]) := by unfold Hid; rw [← hw3]; exact Box.new _ _ _
  have Y3 : Hid (Box w3 V0.heap.size 34 #[.slice none 0 0, .slice none 0 0]) := Y2.out.belowS hb3
  have O3 : Hid (OwnL w3 V.heap.size (⟨h1.a0, h1.c0, wa, wc⟩ : HL) vs (callW ws x)) := O2.out.below hb3
  have B3 : Hid (Below w.heap.size w w3) := B2.out.trans (hb3.mono B2.out.size)
  have l3' : w2.heap.size < w3.heap.size := N3.out.lt
  clear hb3 O2 Y2 B2
  obtain ⟨x0, x1⟩ := box2 N3.out
  have CH := c_l06Holds (⟨h1.a0, h1.c0, wa, wc⟩ : HL) vs (callW ws x) x b r m w3 O3.out.rd (by omega)
  obtain ⟨p, hp⟩ : ∃ p, vs.any (hasK x b r m) = p := ⟨_, rfl⟩
  rw [hp] at CH
  go_wp2_with fail
  refine CH.mono ?_
  rintro e w4 ⟨rfl, hb⟩
  have N4 : Hid (Box w4 w2.heap.size 34 #[.slice h1.a0 vs.length h1.c0, .slice wa (callW ws x).length wc]) := N3.out.belowS hb
  have Y4 : Hid (Box w4 V0.heap.size 34 #[.slice none 0 0, .slice none 0 0]) := Y3.out.belowS hb
  have O4 : Hid (OwnL w4 V.heap.size (⟨h1.a0, h1.c0, wa, wc⟩ : HL) vs (callW ws x)) := O3.out.below hb
  have B4 : Hid (Below w.heap.size w w4) := B3.out.trans (hb.mono B3.out.size)
  have l4 : w3.heap.size ≤ w4.heap.size := hb.size
  clear hb CH x0 x1 N3 Y3 O3 B3 hw3
  cases p
  case true =>
    have E : Hid (_ ∧ _ ∧ _) := tk_have (ws := ws) hp
    clear hp
    obtain ⟨x0, x1⟩ := box2 N4.out
    obtain ⟨y0, y1⟩ := box2 Y4.out
    obtain ⟨t0, t1⟩ := thaw2 Y4.out
    have ra := own_rng O4.out.1
    have rb := own_rng O4.out.2.1
    have O9 : Hid (OwnL (put2 w4 V0.heap.size (.slice h1.a0 vs.length h1.c0) (.slice wa (callW ws x).length wc)) w.heap.size (⟨h1.a0, h1.c0, wa, wc⟩ : HL) vs (callW ws x)) := ⟨(own_inn O4.out.1 (put2_inn _ _) (fun k hk => .inr (by have := ra k hk; omega))).down (by omega), (own_inn O4.out.2.1 (put2_inn _ _) (fun k hk => .inr (by have := rb k hk; omega))).down (by omega), O4.out.2.2⟩
    clear ra rb
    go_wp2
    exact retLc Tryd.results66 rfl rfl rfl (put2_box Y4.out (.slice h1.a0 vs.length h1.c0) (.slice wa (callW ws x).length wc)) ⟨⟨(⟨h1.a0, h1.c0, wa, wc⟩ : HL), by rw [E.out.1, E.out.2.1, E.out.2.2]; rfl, by rw [E.out.1, E.out.2.1]; exact O9.out⟩, put2_below B4.out (by omega) _ _⟩
  have HP : Hid (vs.any (hasK x b r m) = false) := hp
  clear hp
  obtain ⟨V2, hV2⟩ : ∃ Q, w4.alloc (.cells #[] 59) = Q := ⟨_, rfl⟩
  have BE : Hid (Below w4.heap.size w4 V2) := by unfold Hid; rw [← hV2]; exact (Below.refl _ _).alloc (Nat.le_refl _) _
  have EMP : Hid (V2.ownsRow w4.heap.size 59 2 (.slice (some ⟨w4.heap.size, 0, none⟩) 0 0) 0 (cellsW [])) := by unfold Hid; rw [← hV2]; exact World.ownsRow_lit w4 #[] 0 (Nat.le_refl _) (Nat.zero_le _) rfl
  go_wp2
  go_loopw [13, 14] (fun s i wr => ∃ (k : Nat) (av : Option Addr) (cv : Nat), k ≤ vs.length ∧ i = .int .i64 (k : Int) ∧ s = .slice av (spF vs x b r m k).length cv ∧ Hid (wr.ownsRow w4.heap.size 59 2 (.slice av (spF vs x b r m k).length cv) (spF vs x b r m k).length (cellsW (spF vs x b r m k))) ∧ Hid (Below w4.heap.size w4 wr)) (fun _ i _ => vs.length - (intOf i).toNat)
  case atStart => exact ⟨0, some ⟨w4.heap.size, 0, none⟩, 0, by omega, rfl, rfl, EMP, BE⟩
  case round =>
    obtain ⟨k, av, cv, hk, rfl, rfl, HO, HB⟩ := hrel
    have NR : Hid (Box wr w2.heap.size 34 #[.slice h1.a0 vs.length h1.c0, .slice wa (callW ws x).length wc]) := N4.out.belowS HB.out
    obtain ⟨x0, x1⟩ := box2 NR.out
    by_cases hlt : k < vs.length
    · obtain ⟨_, hcs⟩ := (RdK.own O4.out.1).below HB.out
      obtain ⟨ba, off, ha, hbl, hc⟩ := hcs (by omega)
      have ha' : h1.a0 = some ⟨ba, off, none⟩ := ha
      rw [ha'] at x0
      have hst := spF_step vs x b r m k hlt
      obtain ⟨⟨vx, vb, vr, vm⟩, hv⟩ : ∃ v, v = vs.getD k dK := ⟨_, rfl⟩
      obtain ⟨d0, d1, d2, d3⟩ := hc k hlt
      rw [← hv] at d0 d1 d2 d3 hst
      have HST : Hid ((spF vs x b r m (k + 1)) = spS x b r m (spF vs x b r m k) ⟨vx, vb, vr, vm⟩) := hst
      clear hc hcs hv hst ha ha'
      obtain ⟨w5, hw5⟩ : ∃ Q, wr.alloc (.cells #[.int .i64 vx, .int .i64 vb, .int .i64 vr, .int .i64 vm] 55) = Q := ⟨_, rfl⟩
      have hb5 : Below wr.heap.size wr w5 := by rw [← hw5]; exact (Below.refl _ _).alloc (Nat.le_refl _) _
      have K5 : Hid (Box w5 wr.heap.size 55 #[.int .i64 vx, .int .i64 vb, .int .i64 vr, .int .i64 vm]) := by unfold Hid; rw [← hw5]; exact Box.new _ _ _
      have O5 : Hid (w5.ownsRow w4.heap.size 59 2 (.slice av (spF vs x b r m k).length cv) (spF vs x b r m k).length (cellsW (spF vs x b r m k))) := own_below HO.out hb5
      have B5 : Hid (Below w4.heap.size w4 w5) := HB.out.trans (hb5.mono HB.out.size)
      have l5 : wr.heap.size < w5.heap.size := K5.out.lt
      clear hb5 HO HB NR
      have g0 := K5.out.cell 0
      have g1 := K5.out.cell 1
      have g2 := K5.out.cell 2
      have g3 := K5.out.cell 3
      simp only [List.getElem?_toArray, List.getElem?_cons_zero, List.getElem?_cons_succ] at g0 g1 g2 g3
      by_cases ex : vx = x
      case pos =>
        have cx : (vx != x) = false := by simpa using ex
        have S2 : Hid ((spF vs x b r m (k + 1)) = (spF vs x b r m k)) := by unfold Hid; rw [HST.out]; unfold spS; rw [if_neg (fun e => e.1.1 ex)]
        clear HST ex
        go_wp2
        go_roundw
        case rel => exact ⟨k + 1, av, cv, by omega, by go_num, by rw [S2.out], by unfold Hid; rw [S2.out]; exact O5.out, B5⟩
        case measure => simp [intOf]; omega
      have cx : (vx != x) = true := by simpa using ex
      have EX : Hid (vx ≠ x) := ex
      clear ex
      by_cases eb : vb = b
      case neg =>
        have cb : (vb == b) = false := by simpa using eb
        have S2 : Hid ((spF vs x b r m (k + 1)) = (spF vs x b r m k)) := by unfold Hid; rw [HST.out]; unfold spS; rw [if_neg (fun e => eb e.1.2.1)]
        clear HST eb
        go_wp2
        go_roundw
        case rel => exact ⟨k + 1, av, cv, by omega, by go_num, by rw [S2.out], by unfold Hid; rw [S2.out]; exact O5.out, B5⟩
        case measure => simp [intOf]; omega
      have cb : (vb == b) = true := by simpa using eb
      have EB : Hid (vb = b) := eb
      clear eb
      by_cases er : vr = r
      case neg =>
        have cr : (vr == r) = false := by simpa using er
        have S2 : Hid ((spF vs x b r m (k + 1)) = (spF vs x b r m k)) := by unfold Hid; rw [HST.out]; unfold spS; rw [if_neg (fun e => er e.1.2.2.1)]
        clear HST er
        go_wp2
        go_roundw
        case rel => exact ⟨k + 1, av, cv, by omega, by go_num, by rw [S2.out], by unfold Hid; rw [S2.out]; exact O5.out, B5⟩
        case measure => simp [intOf]; omega
      have cr : (vr == r) = true := by simpa using er
      have ER : Hid (vr = r) := er
      clear er
      obtain ⟨q, hq⟩ : ∃ q, fitB vm m = q := ⟨_, rfl⟩
      have CF : Hid (Calls Tryd.prog 40 #[.int .i64 vm, .int .i64 m] w5 fun e w' => e = .returned (.bool q) ∧ w' = w5) := by unfold Hid; rw [← hq]; exact c_fit vm m w5
      go_wp2_with fail
      refine CF.out.mono ?_
      rintro e wq ⟨rfl, hwq⟩; rw [hwq]; clear hwq CF
      cases q
      case true =>
        have S2 : Hid ((spF vs x b r m (k + 1)) = (spF vs x b r m k)) := by unfold Hid; rw [HST.out]; unfold spS; rw [if_neg (fun e => by have := e.1.2.2.2; rw [hq] at this; cases this)]
        clear HST hq
        go_wp2
        go_roundw
        case rel => exact ⟨k + 1, av, cv, by omega, by go_num, by rw [S2.out], by unfold Hid; rw [S2.out]; exact O5.out, B5⟩
        case measure => simp [intOf]; omega
      have EF : Hid (fitB vm m = false) := hq
      clear hq
      obtain ⟨L, hL⟩ : ∃ L, (spF vs x b r m k) = L := ⟨_, rfl⟩
      have HLX : Hid (∀ e ∈ L, e.x = x) := by unfold Hid; rw [← hL]; exact spF_x vs x b r m k (by omega)
      have HST2 : Hid ((spF vs x b r m (k + 1)) = if metF vx L = false then L ++ [⟨x, vx⟩] else L) := by
        unfold Hid; rw [HST.out]; unfold spS; rw [hL, metF_eq x vx L HLX.out]
        by_cases hq : metF vx L = false
        · rw [if_pos ⟨⟨EX.out, EB.out, ER.out, EF.out⟩, hq⟩, if_pos hq]
        · rw [if_neg (fun e => hq e.2), if_neg hq]
      have hLl : L.length ≤ k := by rw [← hL]; exact spF_len vs x b r m k (by omega)
      rw [hL] at O5
      obtain ⟨w6, hw6⟩ : ∃ Q, w5.alloc (.cells #[.int .i64 x, .int .i64 vx] 59) = Q := ⟨_, rfl⟩
      have hb6 : Below w5.heap.size w5 w6 := by rw [← hw6]; exact (Below.refl _ _).alloc (Nat.le_refl _) _
      have K6 : Hid (Box w6 w5.heap.size 59 #[.int .i64 x, .int .i64 vx]) := by unfold Hid; rw [← hw6]; exact Box.new _ _ _
      have O6 : Hid (w6.ownsRow w4.heap.size 59 2 (.slice av L.length cv) L.length (cellsW L)) := own_below O5.out hb6
      have B6 : Hid (Below w4.heap.size w4 w6) := B5.out.trans (hb6.mono B5.out.size)
      have R6 : Hid (RdW w6 av L.length L) := RdW.own O6.out
      have l6 : w5.heap.size < w6.heap.size := K6.out.lt
      rw [hL]
      clear hL hb6 HST O5 B5
      go_wp2
      go_loopw [17, 18] (fun p q wr' => ∃ j : Nat, j ≤ L.length ∧ q = .int .i64 (j : Int) ∧ p = .bool (metF vx (L.take j)) ∧ Hid (Below w6.heap.size w6 wr')) (fun _ q _ => L.length - (intOf q).toNat)
      case atStart => exact ⟨0, by omega, rfl, rfl, Below.refl _ _⟩
      case round =>
        rename World => w7
        obtain ⟨j, hj, rfl, rfl, HB7⟩ := hrel
        have B7 : Hid (Below w4.heap.size w4 w7) := B6.out.trans (HB7.out.mono B6.out.size)
        have K7 : Hid (Box w7 w5.heap.size 59 #[.int .i64 x, .int .i64 vx]) := K6.out.belowS HB7.out
        by_cases hjl : j < L.length
        · obtain ⟨_, hcs⟩ := R6.out.below HB7.out
          obtain ⟨ba, off, ha, hbl, hc⟩ := hcs (by omega)
          obtain ⟨e0, e1⟩ := hc j hjl
          have hgx : (L.getD j dW).x = x := HLX.out _ (by rw [List.getD_eq_getElem?_getD, List.getElem?_eq_getElem hjl]; exact List.getElem_mem hjl)
          have hst := metF_step vx L j hjl
          rw [hgx] at e0
          obtain ⟨z, hz⟩ : ∃ z, (L.getD j dW).f = z := ⟨_, rfl⟩
          rw [hz] at e1 hst
          obtain ⟨p, hp⟩ : ∃ p, metF vx (L.take j) = p := ⟨_, rfl⟩
          rw [hp] at hst ⊢
          have HSM : Hid (metF vx (L.take (j + 1)) = (p || decide (z = vx))) := hst
          have cjl : (j : Int) < (L.length : Int) := by omega
          obtain ⟨q0, q1⟩ := box2 K7.out
          rw [ha]
          clear hc hcs hgx hst hz hp ha
          cases p
          · by_cases ez : z = vx
            · have cz : (z == vx) = true := by simpa using ez
              have HF2 : Hid (metF vx (L.take (j + 1)) = true) := by unfold Hid; rw [HSM.out, decide_eq_true ez]; rfl
              clear ez HSM
              go_wp2_with fail
              go_quiet (fail)
              go_wp2
              go_roundw
              case rel => exact ⟨j + 1, by omega, by go_num, by rw [HF2.out], below_drewN HB7.out _⟩
              case measure => simp [intOf]; omega
            · have cz : (z == vx) = false := by simpa using ez
              have HF2 : Hid (metF vx (L.take (j + 1)) = false) := by unfold Hid; rw [HSM.out, decide_eq_false ez]; rfl
              clear ez HSM
              go_wp2_with fail
              go_quiet (fail)
              go_wp2
              go_roundw
              case rel => exact ⟨j + 1, by omega, by go_num, by rw [HF2.out], below_drewN HB7.out _⟩
              case measure => simp [intOf]; omega
          · have HF2 : Hid (metF vx (L.take (j + 1)) = true) := by unfold Hid; rw [HSM.out]; rfl
            clear HSM
            go_wp2_with fail
            go_quiet (fail)
            go_wp2
            go_roundw
            case rel => exact ⟨j + 1, by omega, by go_num, by rw [HF2.out], below_drewN HB7.out _⟩
            case measure => simp [intOf]; omega
        · have e : j = L.length := by omega
          rw [e, List.take_length]
          have cge : ¬ ((L.length : Nat) : Int) < (L.length : Int) := by omega
          have O7 : Hid (w7.ownsRow w4.heap.size 59 2 (.slice av L.length cv) L.length (cellsW L)) := own_below O6.out HB7.out
          clear e hjl hj
          obtain ⟨p, hp⟩ : ∃ p, metF vx L = p := ⟨_, rfl⟩
          rw [hp] at HST2 ⊢
          cases p
          case true =>
            have S2 : Hid ((spF vs x b r m (k + 1)) = L) := HST2.out
            clear hp HST2
            go_wp2
            go_roundw
            case rel => exact ⟨k + 1, av, cv, by omega, by go_num, by rw [S2.out], by unfold Hid; rw [S2.out]; exact O7.out, B7⟩
            case measure => simp [intOf]; omega
          have S2 : Hid ((spF vs x b r m (k + 1)) = L ++ [⟨x, vx⟩]) := HST2.out
          obtain ⟨w8, hw8⟩ : ∃ Q, w7.alloc (.cells #[.int .i64 x, .int .i64 vx] 59) = Q := ⟨_, rfl⟩
          have hb8 : Below w7.heap.size w7 w8 := by rw [← hw8]; exact (Below.refl _ _).alloc (Nat.le_refl _) _
          have K8 : Hid (Box w8 w7.heap.size 59 #[.int .i64 x, .int .i64 vx]) := by unfold Hid; rw [← hw8]; exact Box.new _ _ _
          have O8 : Hid (w8.ownsRow w4.heap.size 59 2 (.slice av L.length cv) L.length (cellsW L)) := own_below O7.out hb8
          have B8 : Hid (Below w4.heap.size w4 w8) := B7.out.trans (hb8.mono B7.out.size)
          have l8 : w7.heap.size < w8.heap.size := K8.out.lt
          obtain ⟨q0, q1⟩ := box2 K7.out
          clear hb8 hp HST2 O7 B7
          go_wp2_with (at_builtin; refine app_any _ rfl (.tmp 88) (.tmp 90) 32 rfl w4.heap.size 59 j0 (.agg #[.int .i64 0, .int .i64 0]) 2 16 Tryd.underlying32 hj0 jz0 jz1 jz2 rfl (by omega) (.slice av L.length cv) L.length (cellsW L) rfl O8.out (some ⟨w7.heap.size, 0, none⟩) 1 1 (cW ⟨x, vx⟩) rfl (fun h => by cases h) rfl (box_newsW K8.out) (cW_one _) (by unfold maxLen; omega) (by omega) B8.out.size ?_; intro a9 c9 w9 hown9 hgr9 hat9)
          have hown9' : w9.ownsRow w4.heap.size 59 2 (.slice a9 (L.length + 1) c9) (L.length + 1) (cellsW (L ++ [⟨x, vx⟩])) := by rw [cellsW_append]; exact hown9
          have H9 : Hid (w9.ownsRow w4.heap.size 59 2 (.slice a9 (spF vs x b r m (k + 1)).length c9) (spF vs x b r m (k + 1)).length (cellsW (spF vs x b r m (k + 1)))) := by unfold Hid; rw [S2.out, List.length_append, List.length_singleton]; exact hown9'
          rw [ob_slice] at hgr9
          have B9 : Hid (Below w4.heap.size w4 w9) := B8.out.grown hgr9 B8.out.size (fun j hj => (own_rng O8.out j hj).1)
          clear hown9 hown9' hgr9 hat9 O8 B8 K8 q0 q1
          go_wp2
          go_roundw
          case rel => exact ⟨k + 1, a9, c9, by omega, by go_num, by rw [S2.out, List.length_append]; rfl, H9, B9⟩
          case measure => simp [intOf]; omega
    · have e : k = vs.length := by omega
      rw [e] at HO
      rw [e]
      have cge : ¬ ((vs.length : Nat) : Int) < (vs.length : Int) := by omega
      have HFS : Hid (tkF vs x b r m = spF vs x b r m vs.length) := tkF_sp vs x b r m HALL.out bx
      have HNIL : Hid (tkO vs x b r m = 0#64 ↔ spF vs x b r m vs.length = []) := tkO_nil vs x b r m HALL.out bx
      have HOKF : Hid ((callW ws x ++ tkF vs x b r m).all okW = true) := tkF_ok vs ws x b r m HALL.out HWALL.out bx
      have hFlen := spF_len vs x b r m vs.length (Nat.le_refl _)
      have hcl : (callW ws x).length ≤ 100 := Nat.le_trans (List.length_filter_le _ _) f1
      obtain ⟨L, hL⟩ : ∃ L, spF vs x b r m vs.length = L := ⟨_, rfl⟩
      rw [HFS.out, hL] at HOKF
      rw [hL] at HO HFS HNIL hFlen ⊢
      have YR : Hid (Box wr V0.heap.size 34 #[.slice none 0 0, .slice none 0 0]) := Y4.out.belowS HB.out
      have OR : Hid (OwnL wr V.heap.size (⟨h1.a0, h1.c0, wa, wc⟩ : HL) vs (callW ws x)) := O4.out.below HB.out
      have BR : Hid (Below w.heap.size w wr) := B4.out.trans (HB.out.mono B4.out.size)
      have lR : w4.heap.size ≤ wr.heap.size := HB.out.size
      have RF : Hid (RdW wr av L.length L) := RdW.own HO.out
      have SF : Hid (av = none → cv = 0) := fun e => own_src HO.out e
      clear e hlt hk hL HB HO Y4 O4 B4 EMP BE hV2
      by_cases hF : L.length = 0
      case pos =>
        have c0 : ((L.length : Int) == 0) = true := by rw [hF]; rfl
        have HO0 : Hid (tkO vs x b r m = 0#64) := HNIL.out.2 (List.eq_nil_of_length_eq_zero hF)
        clear hF
        by_cases hl : vs.length = 60
        case pos =>
          have cl : ((vs.length : Int) == 60) = true := by rw [hl]; rfl
          have E : Hid (_ ∧ _ ∧ _) := tk_full (ws := ws) HP.out HO0.out hl
          clear hl x0 x1
          obtain ⟨x0, x1⟩ := box2 NR.out
          obtain ⟨y0, y1⟩ := box2 YR.out
          obtain ⟨t0, t1⟩ := thaw2 YR.out
          have ra := own_rng OR.out.1
          have rb := own_rng OR.out.2.1
          have O9 : Hid (OwnL (put2 wr V0.heap.size (.slice h1.a0 vs.length h1.c0) (.slice wa (callW ws x).length wc)) w.heap.size (⟨h1.a0, h1.c0, wa, wc⟩ : HL) vs (callW ws x)) := ⟨(own_inn OR.out.1 (put2_inn _ _) (fun k hk => .inr (by have := ra k hk; omega))).down (by omega), (own_inn OR.out.2.1 (put2_inn _ _) (fun k hk => .inr (by have := rb k hk; omega))).down (by omega), OR.out.2.2⟩
          clear ra rb
          go_wp2
          exact retLc Tryd.results66 rfl rfl rfl (put2_box YR.out (.slice h1.a0 vs.length h1.c0) (.slice wa (callW ws x).length wc)) ⟨⟨(⟨h1.a0, h1.c0, wa, wc⟩ : HL), by rw [E.out.1, E.out.2.1, E.out.2.2]; rfl, by rw [E.out.1, E.out.2.1]; exact O9.out⟩, put2_below BR.out (by omega) _ _⟩
        have cl : ((vs.length : Int) == 60) = false := by rw [beq_eq_false_iff_ne]; omega
        have E : Hid (_ ∧ _ ∧ _) := tk_got (ws := ws) HP.out HO0.out hl
        clear hl
        obtain ⟨w5, hw5⟩ : ∃ Q, wr.alloc (.cells #[.int .i64 x, .int .i64 b, .int .i64 r, .int .i64 m] 55) = Q := ⟨_, rfl⟩
        have hb5 : Below wr.heap.size wr w5 := by rw [← hw5]; exact (Below.refl _ _).alloc (Nat.le_refl _) _
        have K5 : Hid (Box w5 wr.heap.size 55 #[.int .i64 x, .int .i64 b, .int .i64 r, .int .i64 m]) := by unfold Hid; rw [← hw5]; exact Box.new _ _ _
        have O5 : Hid (OwnL w5 V.heap.size (⟨h1.a0, h1.c0, wa, wc⟩ : HL) vs (callW ws x)) := OR.out.below hb5
        have N5 : Hid (Box w5 w2.heap.size 34 #[.slice h1.a0 vs.length h1.c0, .slice wa (callW ws x).length wc]) := NR.out.belowS hb5
        have Y5 : Hid (Box w5 V0.heap.size 34 #[.slice none 0 0, .slice none 0 0]) := YR.out.belowS hb5
        have B5 : Hid (Below w.heap.size w w5) := BR.out.trans (hb5.mono BR.out.size)
        have l5 : wr.heap.size < w5.heap.size := K5.out.lt
        have RA : Hid (∀ k, ob h1.a0 = some k → V.heap.size ≤ k ∧ k < w1.heap.size) := RA1
        have RB : Hid (∀ k, ob wa = some k → w1.heap.size ≤ k ∧ k < w2.heap.size) := RB1
        clear hb5 OR NR YR BR
        go_wp2_with (
          at_builtin
          refine app_any _ rfl (.tmp 101) (.tmp 107) 31 rfl V.heap.size 55 i0 (.agg #[.int .i64 0, .int .i64 0, .int .i64 0, .int .i64 0]) 4 32 Tryd.underlying31 hi hz0 hz1 hz2 rfl (by omega) (.slice h1.a0 vs.length h1.c0) vs.length (cellsK vs) rfl O5.out.1 (some ⟨wr.heap.size, 0, none⟩) 1 1 (cK ⟨x, b, r, m⟩) rfl (fun h => by cases h) rfl (box_newsK K5.out) (cK_one _) (by unfold maxLen; omega) (by omega) (by omega) ?_
          intro a6 c6 w6 hown6 hgr6 hat6
          rw [ob_slice] at hgr6 hat6
          have N6 : Hid (Box w6 w2.heap.size 34 #[.slice h1.a0 vs.length h1.c0, .slice wa (callW ws x).length wc]) := N5.out.grown hgr6 (fun e => by have := RA.out _ e; omega)
          have Y6 : Hid (Box w6 V0.heap.size 34 #[.slice none 0 0, .slice none 0 0]) := Y5.out.grown hgr6 (fun e => by have := RA.out _ e; omega)
          have Q6 : Hid (w6.ownsRow V.heap.size 59 2 (.slice wa (callW ws x).length wc) (callW ws x).length (cellsW (callW ws x))) := own_same O5.out.2.1 (fun k hk => hgr6.block k (by rw [ob_slice] at hk; have := RB.out k hk; omega) (fun e => by rw [ob_slice] at hk; have := RB.out k hk; have := RA.out k e.symm; omega))
          have P6 : Hid (w6.ownsRow V.heap.size 55 4 (.slice a6 (vs ++ [(⟨x, b, r, m⟩ : LK)]).length c6) (vs ++ [(⟨x, b, r, m⟩ : LK)]).length (cellsK (vs ++ [(⟨x, b, r, m⟩ : LK)]))) := by
            unfold Hid; rw [List.length_append, List.length_singleton, cellsK_append]; exact hown6
          have B6 : Hid (Below w.heap.size w w6) := B5.out.grown hgr6 B5.out.size (fun j hj => by have := RA.out j hj; omega)
          have R6 : Hid (∀ k, ob a6 = some k → V.heap.size ≤ k ∧ k ≠ w2.heap.size ∧ ob wa ≠ some k) := fun k hk => by
            rcases hat6 k hk with e1 | e1
            · have := RA.out k e1
              exact ⟨by omega, by omega, fun e2 => by have := RB.out k e2; omega⟩
            · exact ⟨by omega, by omega, fun e2 => by have := RB.out k e2; omega⟩
          clear hown6 hgr6 hat6 O5 N5 Y5 B5 x0 x1
          obtain ⟨w7, hw7⟩ : ∃ Q, w6.setCell ⟨w2.heap.size, 0, none⟩ (.slice a6 (vs.length + 1) c6) = Q := ⟨_, rfl⟩
          have i7 : Inn w2.heap.size (w2.heap.size + 1) w6 w7 := by rw [← hw7]; exact set_inn _
          have N7 : Hid (Box w7 w2.heap.size 34 #[.slice a6 (vs.length + 1) c6, .slice wa (callW ws x).length wc]) := by unfold Hid; rw [← hw7]; exact N6.out.set 0 _
          have Y7 : Hid (Box w7 V0.heap.size 34 #[.slice none 0 0, .slice none 0 0]) := Y6.out.innO i7 (.inl (by omega))
          have B7 : Hid (Below w.heap.size w w7) := B6.out.trans (i7.below (by omega) B6.out.size)
          have O7 : Hid (OwnL w7 V.heap.size ⟨a6, c6, wa, wc⟩ (vs ++ [⟨x, b, r, m⟩]) (callW ws x)) := ⟨own_inn P6.out i7 (fun k hk => by have := R6.out k hk; omega), own_inn Q6.out i7 (fun k hk => by have := RB.out k hk; omega), fun k hk => (R6.out k hk).2.2⟩
          obtain ⟨u0, u1⟩ := box2 N6.out
          obtain ⟨s0, s1⟩ := thaw2 N6.out
          clear i7
          obtain ⟨x0, x1⟩ := box2 N7.out
          obtain ⟨y0, y1⟩ := box2 Y7.out
          obtain ⟨t0, t1⟩ := thaw2 Y7.out
          have ra := own_rng O7.out.1
          have rb := own_rng O7.out.2.1
          have O9 : Hid (OwnL (put2 w7 V0.heap.size (.slice a6 (vs.length + 1) c6) (.slice wa (callW ws x).length wc)) w.heap.size (⟨a6, c6, wa, wc⟩ : HL) (vs ++ [(⟨x, b, r, m⟩ : LK)]) (callW ws x)) := ⟨(own_inn O7.out.1 (put2_inn _ _) (fun k hk => .inr (by have := ra k hk; omega))).down (by omega), (own_inn O7.out.2.1 (put2_inn _ _) (fun k hk => .inr (by have := rb k hk; omega))).down (by omega), O7.out.2.2⟩
          clear ra rb)
        exact retLc Tryd.results66 rfl rfl rfl (put2_box Y7.out (.slice a6 (vs.length + 1) c6) (.slice wa (callW ws x).length wc)) ⟨⟨(⟨a6, c6, wa, wc⟩ : HL), by rw [E.out.1, E.out.2.1, E.out.2.2]; rw [List.length_append]; rfl, by rw [E.out.1, E.out.2.1]; exact O9.out⟩, put2_below B7.out (by omega) _ _⟩
      have c0 : ((L.length : Int) == 0) = false := by rw [beq_eq_false_iff_ne]; omega
      have HO0 : Hid (tkO vs x b r m ≠ 0#64) := fun e => hF (by rw [HNIL.out.1 e]; rfl)
      have TW : Hid (_ ∧ _ ∧ _) := tk_wait (ws := ws) HP.out HO0.out
      rw [HFS.out] at TW
      clear hF HNIL
      by_cases h100 : 100 < (callW ws x).length + L.length
      case pos =>
        have c1 : (100 : Int) < ((callW ws x).length : Int) + (L.length : Int) := by omega
        have E : Hid (tkV vs x b r m = vs ∧ tkW vs ws x b r m = callW ws x ∧ tkC vs ws x b r m = 7) := by
          have hq : 100 < (callW ws x ++ L).length := by rw [List.length_append]; exact h100
          unfold Hid; rw [TW.out.1, TW.out.2.1, TW.out.2.2]; unfold awW awC; rw [if_pos hq, if_pos hq]; exact ⟨rfl, rfl, rfl⟩
        clear h100 x0 x1 TW
        obtain ⟨x0, x1⟩ := box2 NR.out
        obtain ⟨y0, y1⟩ := box2 YR.out
        obtain ⟨t0, t1⟩ := thaw2 YR.out
        have ra := own_rng OR.out.1
        have rb := own_rng OR.out.2.1
        have O9 : Hid (OwnL (put2 wr V0.heap.size (.slice h1.a0 vs.length h1.c0) (.slice wa (callW ws x).length wc)) w.heap.size (⟨h1.a0, h1.c0, wa, wc⟩ : HL) vs (callW ws x)) := ⟨(own_inn OR.out.1 (put2_inn _ _) (fun k hk => .inr (by have := ra k hk; omega))).down (by omega), (own_inn OR.out.2.1 (put2_inn _ _) (fun k hk => .inr (by have := rb k hk; omega))).down (by omega), OR.out.2.2⟩
        clear ra rb
        go_wp2
        exact retLc Tryd.results66 rfl rfl rfl (put2_box YR.out (.slice h1.a0 vs.length h1.c0) (.slice wa (callW ws x).length wc)) ⟨⟨(⟨h1.a0, h1.c0, wa, wc⟩ : HL), by rw [E.out.1, E.out.2.1, E.out.2.2]; rfl, by rw [E.out.1, E.out.2.1]; exact O9.out⟩, put2_below BR.out (by omega) _ _⟩
      have c1 : ¬ (100 : Int) < ((callW ws x).length : Int) + (L.length : Int) := by omega
      have HN100 : Hid (¬ 100 < (callW ws x ++ L).length) := by unfold Hid; rw [List.length_append]; exact h100
      have CO2 : Hid (Calls Tryd.prog 91 #[.agg #[.slice h1.a0 vs.length h1.c0, .slice wa (callW ws x).length wc]] wr fun e w' => (∃ h' : HL, e = .returned (.agg #[.slice h'.a0 vs.length h'.c0, .slice h'.a1 (callW ws x).length h'.c1]) ∧ OwnL w' wr.heap.size h' vs (callW ws x)) ∧ Below wr.heap.size wr w') := c_l06Own (⟨h1.a0, h1.c0, wa, wc⟩ : HL) vs (callW ws x) wr OR.out.rd (by omega) (by omega) (fun e => own_src OR.out.1 e) (fun e => own_src OR.out.2.1 e)
      have SN : Hid (av = none → L.length = 0 ∧ cv = 0) := fun e => by
        refine ⟨?_, SF.out e⟩
        rcases Nat.eq_zero_or_pos L.length with h0 | h0
        · exact h0
        · obtain ⟨b, off, e', _⟩ := RF.out.2 h0
          rw [e] at e'
          cases e'
      clear h100 SF
      go_wp2_with fail
      refine CO2.out.mono ?_
      rintro e w5 ⟨⟨h2, rfl, o5⟩, hb⟩
      have N5 : Hid (Box w5 w2.heap.size 34 #[.slice h1.a0 vs.length h1.c0, .slice wa (callW ws x).length wc]) := NR.out.belowS hb
      have Y5 : Hid (Box w5 V0.heap.size 34 #[.slice none 0 0, .slice none 0 0]) := YR.out.belowS hb
      have OR5 : Hid (OwnL w5 V.heap.size (⟨h1.a0, h1.c0, wa, wc⟩ : HL) vs (callW ws x)) := OR.out.below hb
      have B5 : Hid (Below w.heap.size w w5) := BR.out.trans (hb.mono BR.out.size)
      have RF5 : Hid (RdW w5 av L.length L) := RF.out.below hb
      have O5 : Hid (OwnL w5 wr.heap.size h2 vs (callW ws x)) := o5
      have l5 : wr.heap.size ≤ w5.heap.size := hb.size
      clear hb o5 NR YR OR BR RF CO2 x0 x1
      obtain ⟨w6, hw6⟩ : ∃ Q, w5.alloc (.cells #[.slice h2.a0 vs.length h2.c0, .slice h2.a1 (callW ws x).length h2.c1] 34) = Q := ⟨_, rfl⟩
      have hb6 : Below w5.heap.size w5 w6 := by rw [← hw6]; exact (Below.refl _ _).alloc (Nat.le_refl _) _
      have T6 : Hid (Box w6 w5.heap.size 34 #[.slice h2.a0 vs.length h2.c0, .slice h2.a1 (callW ws x).length h2.c1]) := by unfold Hid; rw [← hw6]; exact Box.new _ _ _
      have N6 : Hid (Box w6 w2.heap.size 34 #[.slice h1.a0 vs.length h1.c0, .slice wa (callW ws x).length wc]) := N5.out.belowS hb6
      have Y6 : Hid (Box w6 V0.heap.size 34 #[.slice none 0 0, .slice none 0 0]) := Y5.out.belowS hb6
      have OR6 : Hid (OwnL w6 V.heap.size (⟨h1.a0, h1.c0, wa, wc⟩ : HL) vs (callW ws x)) := OR5.out.below hb6
      have O6 : Hid (OwnL w6 wr.heap.size h2 vs (callW ws x)) := O5.out.below hb6
      have B6 : Hid (Below w.heap.size w w6) := B5.out.trans (hb6.mono B5.out.size)
      have RF6 : Hid (RdW w6 av L.length L) := RF5.out.below hb6
      have l6 : w5.heap.size < w6.heap.size := T6.out.lt
      have RC : Hid (∀ k, ob h2.a0 = some k → wr.heap.size ≤ k ∧ k < w5.heap.size) := own_rng O5.out.1
      have RD : Hid (∀ k, ob h2.a1 = some k → wr.heap.size ≤ k ∧ k < w5.heap.size) := own_rng O5.out.2.1
      obtain ⟨x0, x1⟩ := box2 T6.out
      clear hb6 N5 Y5 OR5 B5 RF5 O5
      go_wp2_with (
        at_builtin
        refine app_any _ rfl (.tmp 122) (.tmp 123) 32 rfl wr.heap.size 59 j0 (.agg #[.int .i64 0, .int .i64 0]) 2 16 Tryd.underlying32 hj0 jz0 jz1 jz2 rfl (by omega) (.slice h2.a1 (callW ws x).length h2.c1) (callW ws x).length (cellsW (callW ws x)) rfl O6.out.2.1 av L.length cv (cellsW L) rfl SN.out (by rw [cellsW_len]) (srcW RF6.out) (cellsW_one L) (by unfold maxLen; omega) (by omega) (by omega) ?_
        intro a7 c7 w7 hown7 hgr7 hat7
        rw [ob_slice] at hgr7 hat7
        have T7 : Hid (Box w7 w5.heap.size 34 #[.slice h2.a0 vs.length h2.c0, .slice h2.a1 (callW ws x).length h2.c1]) := T6.out.grown hgr7 (fun e => by have := RD.out _ e; omega)
        have N7 : Hid (Box w7 w2.heap.size 34 #[.slice h1.a0 vs.length h1.c0, .slice wa (callW ws x).length wc]) := N6.out.grown hgr7 (fun e => by have := RD.out _ e; omega)
        have Y7 : Hid (Box w7 V0.heap.size 34 #[.slice none 0 0, .slice none 0 0]) := Y6.out.grown hgr7 (fun e => by have := RD.out _ e; omega)
        have OR7 : Hid (OwnL w7 V.heap.size (⟨h1.a0, h1.c0, wa, wc⟩ : HL) vs (callW ws x)) := ⟨own_same OR6.out.1 (fun k hk => hgr7.block k (by rw [ob_slice] at hk; have := RA1.out k hk; omega) (fun e => by rw [ob_slice] at hk; have := RA1.out k hk; have := RD.out k e.symm; omega)), own_same OR6.out.2.1 (fun k hk => hgr7.block k (by rw [ob_slice] at hk; have := RB1.out k hk; omega) (fun e => by rw [ob_slice] at hk; have := RB1.out k hk; have := RD.out k e.symm; omega)), OR6.out.2.2⟩
        have P7 : Hid (w7.ownsRow wr.heap.size 55 4 (.slice h2.a0 vs.length h2.c0) vs.length (cellsK vs)) := own_same O6.out.1 (fun k hk => hgr7.block k (by rw [ob_slice] at hk; have := RC.out k hk; omega) (fun e => by rw [ob_slice] at hk; exact O6.out.2.2 k hk e.symm))
        have Q7 : Hid (w7.ownsRow wr.heap.size 59 2 (.slice a7 (callW ws x ++ L).length c7) (callW ws x ++ L).length (cellsW (callW ws x ++ L))) := by
          unfold Hid; rw [List.length_append, cellsW_app]; exact hown7
        have B7 : Hid (Below w.heap.size w w7) := B6.out.grown hgr7 B6.out.size (fun j hj => by have := RD.out j hj; have := B6.out.size; omega)
        have R7 : Hid (∀ k, ob a7 = some k → wr.heap.size ≤ k ∧ k ≠ w5.heap.size ∧ ob h2.a0 ≠ some k) := (fun k hk => by
          rcases hat7 k hk with e1 | e1
          · have := RD.out k e1
            exact ⟨by omega, by omega, fun e2 => O6.out.2.2 k e2 e1⟩
          · exact ⟨by omega, by omega, fun e2 => by have := RC.out k e2; omega⟩)
        clear hown7 hgr7 hat7 T6 N6 Y6 OR6 O6 B6 RF6 x0 x1
        obtain ⟨w8, hw8⟩ : ∃ Q, w7.setCell ⟨w5.heap.size, 1, none⟩ (.slice a7 ((callW ws x).length + L.length) c7) = Q := ⟨_, rfl⟩
        have i8 : Inn w5.heap.size (w5.heap.size + 1) w7 w8 := by rw [← hw8]; exact set_inn _
        have T8 : Hid (Box w8 w5.heap.size 34 #[.slice h2.a0 vs.length h2.c0, .slice a7 ((callW ws x).length + L.length) c7]) := by unfold Hid; rw [← hw8]; exact T7.out.set 1 _
        have N8 : Hid (Box w8 w2.heap.size 34 #[.slice h1.a0 vs.length h1.c0, .slice wa (callW ws x).length wc]) := N7.out.innO i8 (.inl (by omega))
        have Y8 : Hid (Box w8 V0.heap.size 34 #[.slice none 0 0, .slice none 0 0]) := Y7.out.innO i8 (.inl (by omega))
        have OR8 : Hid (OwnL w8 V.heap.size (⟨h1.a0, h1.c0, wa, wc⟩ : HL) vs (callW ws x)) := ⟨own_inn OR7.out.1 i8 (fun k hk => .inl (by have := RA1.out k hk; omega)), own_inn OR7.out.2.1 i8 (fun k hk => .inl (by have := RB1.out k hk; omega)), OR7.out.2.2⟩
        have O8 : Hid (OwnL w8 wr.heap.size ⟨h2.a0, h2.c0, a7, c7⟩ vs (callW ws x ++ L)) := ⟨own_inn P7.out i8 (fun k hk => .inl (by have := RC.out k hk; omega)), own_inn Q7.out i8 (fun k hk => by have := R7.out k hk; omega), fun k hk hk' => (R7.out k hk').2.2 hk⟩
        have B8 : Hid (Below w.heap.size w w8) := B7.out.trans (i8.below (by omega) B7.out.size)
        obtain ⟨u0, u1⟩ := box2 T7.out
        obtain ⟨s0, s1⟩ := thaw2 T7.out
        obtain ⟨x0, x1⟩ := box2 T8.out
        clear i8 N7 Y7 OR7 P7 Q7 B7)
      have CR : Hid (Calls Tryd.prog 64 #[.agg #[.slice h2.a0 vs.length h2.c0, .slice a7 ((callW ws x).length + L.length) c7], .int .i64 x] w8 fun e w' => (∃ b : Bool, e = .returned (.bool b) ∧ (b = true ↔ Rch (callW ws x ++ L) x x)) ∧ Below w8.heap.size w8 w') := by
        have := c_l06Round ⟨h2.a0, h2.c0, a7, c7⟩ vs (callW ws x ++ L) x w8 O8.out.rd (by rw [List.length_append]; omega) HOKF.out bx
        rw [List.length_append] at this
        exact this
      refine CR.out.mono ?_
      rintro e w9 ⟨⟨bb', rfl, hb'⟩, hb9⟩
      have hbe := rdB_eq hb'
      have T9 : Hid (Box w9 w5.heap.size 34 #[.slice h2.a0 vs.length h2.c0, .slice a7 ((callW ws x).length + L.length) c7]) := T8.out.belowS hb9
      have N9 : Hid (Box w9 w2.heap.size 34 #[.slice h1.a0 vs.length h1.c0, .slice wa (callW ws x).length wc]) := N8.out.belowS hb9
      have Y9 : Hid (Box w9 V0.heap.size 34 #[.slice none 0 0, .slice none 0 0]) := Y8.out.belowS hb9
      have OR9 : Hid (OwnL w9 V.heap.size (⟨h1.a0, h1.c0, wa, wc⟩ : HL) vs (callW ws x)) := OR8.out.below hb9
      have P9 : Hid (OwnL w9 wr.heap.size ⟨h2.a0, h2.c0, a7, c7⟩ vs (callW ws x ++ L)) := O8.out.below hb9
      have B9 : Hid (Below w.heap.size w w9) := B8.out.trans (hb9.mono B8.out.size)
      clear hb9 hb' T8 N8 Y8 OR8 O8 B8 CR x0 x1 u0 u1 s0 s1 hw8
      cases bb'
      case true =>
        have E : Hid (tkV vs x b r m = vs ∧ tkW vs ws x b r m = callW ws x ∧ tkC vs ws x b r m = 14) := by
          unfold Hid; rw [TW.out.1, TW.out.2.1, TW.out.2.2]; unfold awW awC; rw [if_neg HN100.out, if_neg HN100.out, ← hbe]; exact ⟨rfl, rfl, rfl⟩
        clear hbe TW
        obtain ⟨x0, x1⟩ := box2 N9.out
        obtain ⟨y0, y1⟩ := box2 Y9.out
        obtain ⟨t0, t1⟩ := thaw2 Y9.out
        have ra := own_rng OR9.out.1
        have rb := own_rng OR9.out.2.1
        have O9 : Hid (OwnL (put2 w9 V0.heap.size (.slice h1.a0 vs.length h1.c0) (.slice wa (callW ws x).length wc)) w.heap.size (⟨h1.a0, h1.c0, wa, wc⟩ : HL) vs (callW ws x)) := ⟨(own_inn OR9.out.1 (put2_inn _ _) (fun k hk => .inr (by have := ra k hk; omega))).down (by omega), (own_inn OR9.out.2.1 (put2_inn _ _) (fun k hk => .inr (by have := rb k hk; omega))).down (by omega), OR9.out.2.2⟩
        clear ra rb
        go_wp2
        exact retLc Tryd.results66 rfl rfl rfl (put2_box Y9.out (.slice h1.a0 vs.length h1.c0) (.slice wa (callW ws x).length wc)) ⟨⟨(⟨h1.a0, h1.c0, wa, wc⟩ : HL), by rw [E.out.1, E.out.2.1, E.out.2.2]; rfl, by rw [E.out.1, E.out.2.1]; exact O9.out⟩, put2_below B9.out (by omega) _ _⟩
      have E : Hid (tkV vs x b r m = vs ∧ tkW vs ws x b r m = callW ws x ++ L ∧ tkC vs ws x b r m = 13) := by
        unfold Hid; rw [TW.out.1, TW.out.2.1, TW.out.2.2]; unfold awW awC; rw [if_neg HN100.out, if_neg HN100.out, ← hbe]; exact ⟨rfl, rfl, rfl⟩
      clear hbe TW
      obtain ⟨x0, x1⟩ := box2 T9.out
      obtain ⟨y0, y1⟩ := box2 Y9.out
      obtain ⟨t0, t1⟩ := thaw2 Y9.out
      have ra := own_rng P9.out.1
      have rb := own_rng P9.out.2.1
      have O9 : Hid (OwnL (put2 w9 V0.heap.size (.slice h2.a0 vs.length h2.c0) (.slice a7 ((callW ws x).length + L.length) c7)) w.heap.size (⟨h2.a0, h2.c0, a7, c7⟩ : HL) vs (callW ws x ++ L)) := ⟨(own_inn P9.out.1 (put2_inn _ _) (fun k hk => .inr (by have := ra k hk; omega))).down (by omega), (own_inn P9.out.2.1 (put2_inn _ _) (fun k hk => .inr (by have := rb k hk; omega))).down (by omega), P9.out.2.2⟩
      clear ra rb
      go_wp2
      exact retLc Tryd.results66 rfl rfl rfl (put2_box Y9.out (.slice h2.a0 vs.length h2.c0) (.slice a7 ((callW ws x).length + L.length) c7)) ⟨⟨(⟨h2.a0, h2.c0, a7, c7⟩ : HL), by rw [E.out.1, E.out.2.1, E.out.2.2]; rw [List.length_append]; rfl, by rw [E.out.1, E.out.2.1]; exact O9.out⟩, put2_below B9.out (by omega) _ _⟩

end Go.Proofs.YtmkfclbamecgaaaDoor
