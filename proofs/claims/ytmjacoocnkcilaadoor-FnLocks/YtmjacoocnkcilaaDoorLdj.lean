/-
  What is asked for, drawn out of a code.
-/
import Derived.Test.YtmjacoocnkcilaaDoorLci
import Derived.Test.YtmjacoocnkcilaaDoorLch
import Derived.Test.YtmjacoocnkcilaaDoorLcg
import Derived.Test.YtmjacoocnkcilaaDoorLgf
import Derived.Deep.QuietTactic
import Derived.BigQuiet
import Derived.Test.YtmjacoocnkcilaaDoorLcf
import Derived.Test.YtmjacoocnkcilaaDoorLfr
import Derived.Test.YtmjacoocnkcilaaDoorLce
import Derived.Test.YtmjacoocnkcilaaDoorLs
import Derived.Test.YtmjacoocnkcilaaDoorLx
import Derived.Test.YtmjacoocnkcilaaDoorLj
import Derived.Test.YtmjacoocnkcilaaDoorLm
import Derived.Test.YtmjacoocnkcilaaDoorDn
import Derived.Test.YtmjacoocnkcilaaDoorLc
import Derived.Test.YtmjacoocnkcilaaDoorLfs
import Derived.Deep.RegionWith
namespace Go.Proofs.YtmjacoocnkcilaaDoor
open Go Go.RowKit
attribute [local go_sem ↓] Go.wp_at_zero Go.wp_at_succ

theorem spF_x (vs : List LK) (x b r m : Int) : ∀ k, k ≤ vs.length → ∀ e ∈ spF vs x b r m k, e.x = x
  | 0, _ => fun e he => by simp [spF] at he
  | k + 1, h => by
    have ih := spF_x vs x b r m k (by omega)
    rw [spF_step _ _ _ _ _ _ (by omega)]
    unfold spS
    split
    · intro e he
      rcases List.mem_append.1 he with h1 | h1
      · exact ih e h1
      · rw [List.mem_singleton.1 h1]
    · exact ih
theorem cellsW_app (a b : List WK) : cellsW (a ++ b) = cellsW a ++ cellsW b := by unfold cellsW; rw [List.flatMap_append]
def metF (y : Int) (L : List WK) : Bool := L.any (fun e => decide (e.f = y))
theorem metF_eq (x y : Int) (L : List WK) (h : ∀ e ∈ L, e.x = x) : metB x y L = metF y L := by
  unfold metB metF
  induction L with
  | nil => rfl
  | cons a L ih =>
    rw [List.any_cons, List.any_cons, ih (fun e he => h e (List.mem_cons_of_mem _ he)), decide_eq_true (h a List.mem_cons_self), Bool.true_and]
theorem metF_step (y : Int) (L : List WK) (j : Nat) (hj : j < L.length) : metF y (L.take (j + 1)) = (metF y (L.take j) || decide ((L.getD j dW).f = y)) := by
  unfold metF
  rw [List.take_add_one, List.any_append, List.getElem?_eq_getElem hj, List.getD_eq_getElem?_getD, List.getElem?_eq_getElem hj]
  simp
set_option maxRecDepth 100000 in
set_option maxHeartbeats 8000000 in
theorem c_l06Take (h : HL) (vs : List LK) (ws : List WK) (x b r m : Int) (w : World) (rd : RdL w h vs ws) (hok : okLs vs ws = true) (hk : okK ⟨x, b, r, m⟩ = true) (n0 : h.a0 = none → h.c0 = 0) (n1 : h.a1 = none → h.c1 = 0) :
    Calls Tryd.prog 66 #[.agg #[.slice h.a0 vs.length h.c0, .slice h.a1 ws.length h.c1], .int .i64 x, .int .i64 b, .int .i64 r, .int .i64 m] w fun e w' => (∃ h' : HL, e = .returned (.tuple #[.agg #[.slice h'.a0 (tkV vs x b r m).length h'.c0, .slice h'.a1 (tkW vs ws x b r m).length h'.c1], .int .i64 (tkC vs ws x b r m)]) ∧ OwnL w' w.heap.size h' (tkV vs x b r m) (tkW vs ws x b r m)) ∧ Below w.heap.size w w' := by
  obtain ⟨f0, f1, hall, hwall⟩ := okLs_parts hok
  obtain ⟨bx, bb, br, bm⟩ := okK_bounds hk
  have HALL : Hid (vs.all okK = true) := hall
  have HWALL : Hid (ws.all okW = true) := hwall
  obtain ⟨i0, hi, hz0, hz1, hz2⟩ := info_parts infoK
  obtain ⟨j0, hj0, jz0, jz1, jz2⟩ := info_parts infoW
  obtain ⟨V0, hV0⟩ : ∃ V, w.alloc (.cells #[.slice h.a0 vs.length h.c0, .slice h.a1 ws.length h.c1] 34) = V := ⟨_, rfl⟩
  obtain ⟨V, hV⟩ : ∃ V, V0.alloc (.cells #[.slice none 0 0, .slice none 0 0] 34) = V := ⟨_, rfl⟩
  have hb0 : Below w.heap.size w V0 := by rw [← hV0]; exact (Below.refl _ _).alloc (Nat.le_refl _) _
  have hb1 : Below V0.heap.size V0 V := by rw [← hV]; exact (Below.refl _ _).alloc (Nat.le_refl _) _
  have BV : Hid (Below w.heap.size w V) := hb0.trans (hb1.mono hb0.size)
  have XV : Hid (Box V w.heap.size 34 #[.slice h.a0 vs.length h.c0, .slice h.a1 ws.length h.c1]) := (show Box V0 w.heap.size 34 #[.slice h.a0 vs.length h.c0, .slice h.a1 ws.length h.c1] by rw [← hV0]; exact Box.new _ _ _).belowS hb1
  have YV : Hid (Box V V0.heap.size 34 #[.slice none 0 0, .slice none 0 0]) := by unfold Hid; rw [← hV]; exact Box.new _ _ _
  have l0 : w.heap.size < V0.heap.size := by rw [← hV0]; simp
  have l1 : V0.heap.size < V.heap.size := YV.out.lt
  have CO := c_l06Own h vs ws V (rd.below BV.out) (by omega) (by omega) n0 n1
  obtain ⟨x0, x1⟩ := box2 XV.out
  clear rd hb0 hb1 hall hwall hok hk n0 n1
  go_enter Tryd.func66, Tryd.ntmps66
  go_wp2_with fail
  refine CO.mono ?_
  rintro e w1 ⟨⟨h1, rfl, o1⟩, hb⟩
  have B1 : Hid (Below w.heap.size w w1) := BV.out.trans (hb.mono BV.out.size)
  have Y1 : Hid (Box w1 V0.heap.size 34 #[.slice none 0 0, .slice none 0 0]) := YV.out.belowS hb
  have O1 : Hid (OwnL w1 V.heap.size h1 vs ws) := o1
  have l2 : V.heap.size ≤ w1.heap.size := hb.size
  clear hb o1 CO x0 x1 XV YV BV
  go_wp2_with fail
  refine (c_l06Calm h1 vs ws x w1 O1.out.rd (by omega)).mono ?_
  rintro e w2 ⟨⟨wa, wc, rfl, o2⟩, hb⟩
  have ra := own_rng O1.out.1
  have rb := own_rng o2
  have B2 : Hid (Below w.heap.size w w2) := B1.out.trans (hb.mono B1.out.size)
  have Y2 : Hid (Box w2 V0.heap.size 34 #[.slice none 0 0, .slice none 0 0]) := Y1.out.belowS hb
  have O2 : Hid (OwnL w2 V.heap.size (⟨h1.a0, h1.c0, wa, wc⟩ : HL) vs (callW ws x)) := ⟨own_below O1.out.1 hb, o2.down l2, fun k hk hk' => by have := ra k hk; have := rb k hk'; omega⟩
  have l3 : w1.heap.size ≤ w2.heap.size := hb.size
  have RA1 : Hid (∀ k, ob h1.a0 = some k → V.heap.size ≤ k ∧ k < w1.heap.size) := ra
  have RB1 : Hid (∀ k, ob wa = some k → w1.heap.size ≤ k ∧ k < w2.heap.size) := rb
  clear hb o2 ra rb O1 Y1 B1
  obtain ⟨w3, hw3⟩ : ∃ Q, w2.alloc (.cells #[.slice h1.a0 vs.length h1.c0, .slice wa (callW ws x).length wc] 34) = Q := ⟨_, rfl⟩
  have hb3 : Below w2.heap.size w2 w3 := by rw [← hw3]; exact (Below.refl _ _).alloc (Nat.le_refl _) _
  have N3 : Hid (Box w3 w2.heap.size 34 #[.slice h1.a0 vs.length h1.c0, .slice wa (callW ws x).length wc]) := by unfold Hid; rw [← hw3]; exact Box.new _ _ _
  have Y3 : Hid (Box w3 V0.heap.size 34 #[.slice none 0 0, .slice none 0 0]) := Y2.out.belowS hb3
  have O3 : Hid (OwnL w3 V.heap.size (⟨h1.a0, h1.c0, wa, wc⟩ : HL) vs (callW ws x)) := O2.out.below hb3
  have B3 : Hid (Below w.heap.size w w3) := B2.out.trans (hb3.mono B2.out.size)
  have l3' : w2.heap.size < w3.heap.size := N3.out.lt
  clear hb3 O2 Y2 B2
  obtain ⟨x0, x1⟩ := box2 N3.out
  have CH := c_l06Holds (⟨h1.a0, h1.c0, wa, wc⟩ : HL) vs (callW ws x) x b r m w3 O3.out.rd (by omega)
  obtain ⟨p, hp⟩ : ∃ p, vs.any (hasK x b r m) = p := ⟨_, rfl⟩
  rw [hp] at CH
  go_wp2_with fail
  refine CH.mono ?_
  rintro e w4 ⟨rfl, hb⟩
  have N4 : Hid (Box w4 w2.heap.size 34 #[.slice h1.a0 vs.length h1.c0, .slice wa (callW ws x).length wc]) := N3.out.belowS hb
  have Y4 : Hid (Box w4 V0.heap.size 34 #[.slice none 0 0, .slice none 0 0]) := Y3.out.belowS hb
  have O4 : Hid (OwnL w4 V.heap.size (⟨h1.a0, h1.c0, wa, wc⟩ : HL) vs (callW ws x)) := O3.out.below hb
  have B4 : Hid (Below w.heap.size w w4) := B3.out.trans (hb.mono B3.out.size)
  have l4 : w3.heap.size ≤ w4.heap.size := hb.size
  clear hb CH x0 x1 N3 Y3 O3 B3 hw3
  cases p
  case true =>
    have E : Hid (_ ∧ _ ∧ _) := tk_have (ws := ws) hp
    clear hp
    obtain ⟨x0, x1⟩ := box2 N4.out
    obtain ⟨y0, y1⟩ := box2 Y4.out
    obtain ⟨t0, t1⟩ := thaw2 Y4.out
    have ra := own_rng O4.out.1
    have rb := own_rng O4.out.2.1
    have O9 : Hid (OwnL (put2 w4 V0.heap.size (.slice h1.a0 vs.length h1.c0) (.slice wa (callW ws x).length wc)) w.heap.size (⟨h1.a0, h1.c0, wa, wc⟩ : HL) vs (callW ws x)) := ⟨(own_inn O4.out.1 (put2_inn _ _) (fun k hk => .inr (by have := ra k hk; omega))).down (by omega), (own_inn O4.out.2.1 (put2_inn _ _) (fun k hk => .inr (by have := rb k hk; omega))).down (by omega), O4.out.2.2⟩
    clear ra rb
    go_wp2
    exact retLc Tryd.results66 rfl rfl rfl (put2_box Y4.out (.slice h1.a0 vs.length h1.c0) (.slice wa (callW ws x).length wc)) ⟨⟨(⟨h1.a0, h1.c0, wa, wc⟩ : HL), by rw [E.out.1, E.out.2.1, E.out.2.2]; rfl, by rw [E.out.1, E.out.2.1]; exact O9.out⟩, put2_below B4.out (by omega) _ _⟩
  have HP : Hid (vs.any (hasK x b r m) = false) := hp
  clear hp
  obtain ⟨V2, hV2⟩ : ∃ Q, w4.alloc (.cells #[] 59) = Q := ⟨_, rfl⟩
  have BE : Hid (Below w4.heap.size w4 V2) := by unfold Hid; rw [← hV2]; exact (Below.refl _ _).alloc (Nat.le_refl _) _
  have EMP : Hid (V2.ownsRow w4.heap.size 59 2 (.slice (some ⟨w4.heap.size, 0, none⟩) 0 0) 0 (cellsW [])) := by unfold Hid; rw [← hV2]; exact World.ownsRow_lit w4 #[] 0 (Nat.le_refl _) (Nat.zero_le _) rfl
  go_wp2
  go_loopw [13, 14] (fun s i wr => ∃ (k : Nat) (av : Option Addr) (cv : Nat), k ≤ vs.length ∧ i = .int .i64 (k : Int) ∧ s = .slice av (spF vs x b r m k).length cv ∧ Hid (wr.ownsRow w4.heap.size 59 2 (.slice av (spF vs x b r m k).length cv) (spF vs x b r m k).length (cellsW (spF vs x b r m k))) ∧ Hid (Below w4.heap.size w4 wr)) (fun _ i _ => vs.length - (intOf i).toNat)
  case atStart => exact ⟨0, some ⟨w4.heap.size, 0, none⟩, 0, by omega, rfl, rfl, EMP, BE⟩
  case round =>
    obtain ⟨k, av, cv, hk, rfl, rfl, HO, HB⟩ := hrel
    have NR : Hid (Box wr w2.heap.size 34 #[.slice h1.a0 vs.length h1.c0, .slice wa (callW ws x).length wc]) := N4.out.belowS HB.out
    obtain ⟨x0, x1⟩ := box2 NR.out
    by_cases hlt : k < vs.length
    · obtain ⟨_, hcs⟩ := (RdK.own O4.out.1).below HB.out
      obtain ⟨ba, off, ha, hbl, hc⟩ := hcs (by omega)
      have ha' : h1.a0 = some ⟨ba, off, none⟩ := ha
      rw [ha'] at x0
      have hst := spF_step vs x b r m k hlt
      obtain ⟨⟨vx, vb, vr, vm⟩, hv⟩ : ∃ v, v = vs.getD k dK := ⟨_, rfl⟩
      obtain ⟨d0, d1, d2, d3⟩ := hc k hlt
      rw [← hv] at d0 d1 d2 d3 hst
      have HST : Hid ((spF vs x b r m (k + 1)) = spS x b r m (spF vs x b r m k) ⟨vx, vb, vr, vm⟩) := hst
      clear hc hcs hv hst ha ha'
      obtain ⟨w5, hw5⟩ : ∃ Q, wr.alloc (.cells #[.int .i64 vx, .int .i64 vb, .int .i64 vr, .int .i64 vm] 55) = Q := ⟨_, rfl⟩
      have hb5 : Below wr.heap.size wr w5 := by rw [← hw5]; exact (Below.refl _ _).alloc (Nat.le_refl _) _
      have K5 : Hid (Box w5 wr.heap.size 55 #[.int .i64 vx, .int .i64 vb, .int .i64 vr, .int .i64 vm]) := by unfold Hid; rw [← hw5]; exact Box.new _ _ _
      have O5 : Hid (w5.ownsRow w4.heap.size 59 2 (.slice av (spF vs x b r m k).length cv) (spF vs x b r m k).length (cellsW (spF vs x b r m k))) := own_below HO.out hb5
      have B5 : Hid (Below w4.heap.size w4 w5) := HB.out.trans (hb5.mono HB.out.size)
      have l5 : wr.heap.size < w5.heap.size := K5.out.lt
      clear hb5 HO HB NR
      have g0 := K5.out.cell 0
      have g1 := K5.out.cell 1
      have g2 := K5.out.cell 2
      have g3 := K5.out.cell 3
      simp only [List.getElem?_toArray, List.getElem?_cons_zero, List.getElem?_cons_succ] at g0 g1 g2 g3
      by_cases ex : vx = x
      case pos =>
        have cx : (vx != x) = false := by simpa using ex
        have S2 : Hid ((spF vs x b r m (k + 1)) = (spF vs x b r m k)) := by unfold Hid; rw [HST.out]; unfold spS; rw [if_neg (fun e => e.1.1 ex)]
        clear HST ex
        go_wp2
        go_roundw
        case rel => exact ⟨k + 1, av, cv, by omega, by go_num, by rw [S2.out], by unfold Hid; rw [S2.out]; exact O5.out, B5⟩
        case measure => simp [intOf]; omega
      have cx : (vx != x) = true := by simpa using ex
      have EX : Hid (vx ≠ x) := ex
      clear ex
      by_cases eb : vb = b
      case neg =>
        have cb : (vb == b) = false := by simpa using eb
        have S2 : Hid ((spF vs x b r m (k + 1)) = (spF vs x b r m k)) := by unfold Hid; rw [HST.out]; unfold spS; rw [if_neg (fun e => eb e.1.2.1)]
        clear HST eb
        go_wp2
        go_roundw
        case rel => exact ⟨k + 1, av, cv, by omega, by go_num, by rw [S2.out], by unfold Hid; rw [S2.out]; exact O5.out, B5⟩
        case measure => simp [intOf]; omega
      have cb : (vb == b) = true := by simpa using eb
      have EB : Hid (vb = b) := eb
      clear eb
      by_cases er : vr = r
      case neg =>
        have cr : (vr == r) = false := by simpa using er
        have S2 : Hid ((spF vs x b r m (k + 1)) = (spF vs x b r m k)) := by unfold Hid; rw [HST.out]; unfold spS; rw [if_neg (fun e => er e.1.2.2.1)]
        clear HST er
        go_wp2
        go_roundw
        case rel => exact ⟨k + 1, av, cv, by omega, by go_num, by rw [S2.out], by unfold Hid; rw [S2.out]; exact O5.out, B5⟩
        case measure => simp [intOf]; omega
      have cr : (vr == r) = true := by simpa using er
      have ER : Hid (vr = r) := er
      clear er
      obtain ⟨q, hq⟩ : ∃ q, fitB vm m = q := ⟨_, rfl⟩
      have CF : Hid (Calls Tryd.prog 40 #[.int .i64 vm, .int .i64 m] w5 fun e w' => e = .returned (.bool q) ∧ w' = w5) := by unfold Hid; rw [← hq]; exact c_fit vm m w5
      go_wp2_with fail
      refine CF.out.mono ?_
      rintro e wq ⟨rfl, hwq⟩; rw [hwq]; clear hwq CF
      cases q
      case true =>
        have S2 : Hid ((spF vs x b r m (k + 1)) = (spF vs x b r m k)) := by unfold Hid; rw [HST.out]; unfold spS; rw [if_neg (fun e => by have := e.1.2.2.2; rw [hq] at this; cases this)]
        clear HST hq
        go_wp2
        go_roundw
        case rel => exact ⟨k + 1, av, cv, by omega, by go_num, by rw [S2.out], by unfold Hid; rw [S2.out]; exact O5.out, B5⟩
        case measure => simp [intOf]; omega
      have EF : Hid (fitB vm m = false) := hq
      clear hq
      obtain ⟨L, hL⟩ : ∃ L, (spF vs x b r m k) = L := ⟨_, rfl⟩
      have HLX : Hid (∀ e ∈ L, e.x = x) := by unfold Hid; rw [← hL]; exact spF_x vs x b r m k (by omega)
      have HST2 : Hid ((spF vs x b r m (k + 1)) = if metF vx L = false then L ++ [⟨x, vx⟩] else L) := by
        unfold Hid; rw [HST.out]; unfold spS; rw [hL, metF_eq x vx L HLX.out]
        by_cases hq : metF vx L = false
        · rw [if_pos ⟨⟨EX.out, EB.out, ER.out, EF.out⟩, hq⟩, if_pos hq]
        · rw [if_neg (fun e => hq e.2), if_neg hq]
      have hLl : L.length ≤ k := by rw [← hL]; exact spF_len vs x b r m k (by omega)
      rw [hL] at O5
      obtain ⟨w6, hw6⟩ : ∃ Q, w5.alloc (.cells #[.int .i64 x, .int .i64 vx] 59) = Q := ⟨_, rfl⟩
      have hb6 : Below w5.heap.size w5 w6 := by rw [← hw6]; exact (Below.refl _ _).alloc (Nat.le_refl _) _
      have K6 : Hid (Box w6 w5.heap.size 59 #[.int .i64 x, .int .i64 vx]) := by unfold Hid; rw [← hw6]; exact Box.new _ _ _
      have O6 : Hid (w6.ownsRow w4.heap.size 59 2 (.slice av L.length cv) L.length (cellsW L)) := own_below O5.out hb6
      have B6 : Hid (Below w4.heap.size w4 w6) := B5.out.trans (hb6.mono B5.out.size)
      have R6 : Hid (RdW w6 av L.length L) := RdW.own O6.out
      have l6 : w5.heap.size < w6.heap.size := K6.out.lt
      rw [hL]
      clear hL hb6 HST O5 B5
      go_wp2
      go_loopw [17, 18] (fun p q wr' => ∃ j : Nat, j ≤ L.length ∧ q = .int .i64 (j : Int) ∧ p = .bool (metF vx (L.take j)) ∧ Hid (Below w6.heap.size w6 wr')) (fun _ q _ => L.length - (intOf q).toNat)
      case atStart => exact ⟨0, by omega, rfl, rfl, Below.refl _ _⟩
      case round =>
        rename World => w7
        obtain ⟨j, hj, rfl, rfl, HB7⟩ := hrel
        have B7 : Hid (Below w4.heap.size w4 w7) := B6.out.trans (HB7.out.mono B6.out.size)
        have K7 : Hid (Box w7 w5.heap.size 59 #[.int .i64 x, .int .i64 vx]) := K6.out.belowS HB7.out
        by_cases hjl : j < L.length
        · obtain ⟨_, hcs⟩ := R6.out.below HB7.out
          obtain ⟨ba, off, ha, hbl, hc⟩ := hcs (by omega)
          obtain ⟨e0, e1⟩ := hc j hjl
          have hgx : (L.getD j dW).x = x := HLX.out _ (by rw [List.getD_eq_getElem?_getD, List.getElem?_eq_getElem hjl]; exact List.getElem_mem hjl)
          have hst := metF_step vx L j hjl
          rw [hgx] at e0
          obtain ⟨z, hz⟩ : ∃ z, (L.getD j dW).f = z := ⟨_, rfl⟩
          rw [hz] at e1 hst
          obtain ⟨p, hp⟩ : ∃ p, metF vx (L.take j) = p := ⟨_, rfl⟩
          rw [hp] at hst ⊢
          have HSM : Hid (metF vx (L.take (j + 1)) = (p || decide (z = vx))) := hst
          have cjl : (j : Int) < (L.length : Int) := by omega
          obtain ⟨q0, q1⟩ := box2 K7.out
          rw [ha]
          clear hc hcs hgx hst hz hp ha
          cases p
          · by_cases ez : z = vx
            · have cz : (z == vx) = true := by simpa using ez
              have HF2 : Hid (metF vx (L.take (j + 1)) = true) := by unfold Hid; rw [HSM.out, decide_eq_true ez]; rfl
              clear ez HSM
              go_wp2_with fail
              go_quiet (fail)
              go_wp2
              go_roundw
              case rel => exact ⟨j + 1, by omega, by go_num, by rw [HF2.out], below_drewN HB7.out _⟩
              case measure => simp [intOf]; omega
            · have cz : (z == vx) = false := by simpa using ez
              have HF2 : Hid (metF vx (L.take (j + 1)) = false) := by unfold Hid; rw [HSM.out, decide_eq_false ez]; rfl
              clear ez HSM
              go_wp2_with fail
              go_quiet (fail)
              go_wp2
              go_roundw
              case rel => exact ⟨j + 1, by omega, by go_num, by rw [HF2.out], below_drewN HB7.out _⟩
              case measure => simp [intOf]; omega
          · have HF2 : Hid (metF vx (L.take (j + 1)) = true) := by unfold Hid; rw [HSM.out]; rfl
            clear HSM
            go_wp2_with fail
            go_quiet (fail)
            go_wp2
            go_roundw
            case rel => exact ⟨j + 1, by omega, by go_num, by rw [HF2.out], below_drewN HB7.out _⟩
            case measure => simp [intOf]; omega
        · have e : j = L.length := by omega
          rw [e, List.take_length]
          have cge : ¬ ((L.length : Nat) : Int) < (L.length : Int) := by omega
          have O7 : Hid (w7.ownsRow w4.heap.size 59 2 (.slice av L.length cv) L.length (cellsW L)) := own_below O6.out HB7.out
          clear e hjl hj
          obtain ⟨p, hp⟩ : ∃ p, metF vx L = p := ⟨_, rfl⟩
          rw [hp] at HST2 ⊢
          cases p
          case true =>
            have S2 : Hid ((spF vs x b r m (k + 1)) = L) := HST2.out
            clear hp HST2
            go_wp2
            go_roundw
            case rel => exact ⟨k + 1, av, cv, by omega, by go_num, by rw [S2.out], by unfold Hid; rw [S2.out]; exact O7.out, B7⟩
            case measure => simp [intOf]; omega
          have S2 : Hid ((spF vs x b r m (k + 1)) = L ++ [⟨x, vx⟩]) := HST2.out
          obtain ⟨w8, hw8⟩ : ∃ Q, w7.alloc (.cells #[.int .i64 x, .int .i64 vx] 59) = Q := ⟨_, rfl⟩
          have hb8 : Below w7.heap.size w7 w8 := by rw [← hw8]; exact (Below.refl _ _).alloc (Nat.le_refl _) _
          have K8 : Hid (Box w8 w7.heap.size 59 #[.int .i64 x, .int .i64 vx]) := by unfold Hid; rw [← hw8]; exact Box.new _ _ _
          have O8 : Hid (w8.ownsRow w4.heap.size 59 2 (.slice av L.length cv) L.length (cellsW L)) := own_below O7.out hb8
          have B8 : Hid (Below w4.heap.size w4 w8) := B7.out.trans (hb8.mono B7.out.size)
          have l8 : w7.heap.size < w8.heap.size := K8.out.lt
          obtain ⟨q0, q1⟩ := box2 K7.out
          clear hb8 hp HST2 O7 B7
          go_wp2_with (at_builtin; refine app_any _ rfl (.tmp 88) (.tmp 90) 32 rfl w4.heap.size 59 j0 (.agg #[.int .i64 0, .int .i64 0]) 2 16 Tryd.underlying32 hj0 jz0 jz1 jz2 rfl (by omega) (.slice av L.length cv) L.length (cellsW L) rfl O8.out (some ⟨w7.heap.size, 0, none⟩) 1 1 (cW ⟨x, vx⟩) rfl (fun h => by cases h) rfl (box_newsW K8.out) (cW_one _) (by unfold maxLen; omega) (by omega) B8.out.size ?_; intro a9 c9 w9 hown9 hgr9 hat9)
          have hown9' : w9.ownsRow w4.heap.size 59 2 (.slice a9 (L.length + 1) c9) (L.length + 1) (cellsW (L ++ [⟨x, vx⟩])) := by rw [cellsW_append]; exact hown9
          have H9 : Hid (w9.ownsRow w4.heap.size 59 2 (.slice a9 (spF vs x b r m (k + 1)).length c9) (spF vs x b r m (k + 1)).length (cellsW (spF vs x b r m (k + 1)))) := by unfold Hid; rw [S2.out, List.length_append, List.length_singleton]; exact hown9'
          rw [ob_slice] at hgr9
          have B9 : Hid (Below w4.heap.size w4 w9) := B8.out.grown hgr9 B8.out.size (fun j hj => (own_rng O8.out j hj).1)
          clear hown9 hown9' hgr9 hat9 O8 B8 K8 q0 q1
          go_wp2
          go_roundw
          case rel => exact ⟨k + 1, a9, c9, by omega, by go_num, by rw [S2.out, List.length_append]; rfl, H9, B9⟩
          case measure => simp [intOf]; omega
    · have e : k = vs.length := by omega
      rw [e] at HO
      rw [e]
      have cge : ¬ ((vs.length : Nat) : Int) < (vs.length : Int) := by omega
      have HFS : Hid (tkF vs x b r m = spF vs x b r m vs.length) := tkF_sp vs x b r m HALL.out bx
      have HNIL : Hid (tkO vs x b r m = 0#64 ↔ spF vs x b r m vs.length = []) := tkO_nil vs x b r m HALL.out bx
      have HOKF : Hid ((callW ws x ++ tkF vs x b r m).all okW = true) := tkF_ok vs ws x b r m HALL.out HWALL.out bx
      have hFlen := spF_len vs x b r m vs.length (Nat.le_refl _)
      have hcl : (callW ws x).length ≤ 100 := Nat.le_trans (List.length_filter_le _ _) f1
      obtain ⟨L, hL⟩ : ∃ L, spF vs x b r m vs.length = L := ⟨_, rfl⟩
      rw [HFS.out, hL] at HOKF
      rw [hL] at HO HFS HNIL hFlen ⊢
      have YR : Hid (Box wr V0.heap.size 34 #[.slice none 0 0, .slice none 0 0]) := Y4.out.belowS HB.out
      have OR : Hid (OwnL wr V.heap.size (⟨h1.a0, h1.c0, wa, wc⟩ : HL) vs (callW ws x)) := O4.out.below HB.out
      have BR : Hid (Below w.heap.size w wr) := B4.out.trans (HB.out.mono B4.out.size)
      have lR : w4.heap.size ≤ wr.heap.size := HB.out.size
      have RF : Hid (RdW wr av L.length L) := RdW.own HO.out
      have SF : Hid (av = none → cv = 0) := fun e => own_src HO.out e
      clear e hlt hk hL HB HO Y4 O4 B4 EMP BE hV2
      by_cases hF : L.length = 0
      case pos =>
        have c0 : ((L.length : Int) == 0) = true := by rw [hF]; rfl
        have HO0 : Hid (tkO vs x b r m = 0#64) := HNIL.out.2 (List.eq_nil_of_length_eq_zero hF)
        clear hF
        by_cases hl : vs.length = 60
        case pos =>
          have cl : ((vs.length : Int) == 60) = true := by rw [hl]; rfl
          have E : Hid (_ ∧ _ ∧ _) := tk_full (ws := ws) HP.out HO0.out hl
          clear hl x0 x1
          obtain ⟨x0, x1⟩ := box2 NR.out
          obtain ⟨y0, y1⟩ := box2 YR.out
          obtain ⟨t0, t1⟩ := thaw2 YR.out
          have ra := own_rng OR.out.1
          have rb := own_rng OR.out.2.1
          have O9 : Hid (OwnL (put2 wr V0.heap.size (.slice h1.a0 vs.length h1.c0) (.slice wa (callW ws x).length wc)) w.heap.size (⟨h1.a0, h1.c0, wa, wc⟩ : HL) vs (callW ws x)) := ⟨(own_inn OR.out.1 (put2_inn _ _) (fun k hk => .inr (by have := ra k hk; omega))).down (by omega), (own_inn OR.out.2.1 (put2_inn _ _) (fun k hk => .inr (by have := rb k hk; omega))).down (by omega), OR.out.2.2⟩
          clear ra rb
          go_wp2
          exact retLc Tryd.results66 rfl rfl rfl (put2_box YR.out (.slice h1.a0 vs.length h1.c0) (.slice wa (callW ws x).length wc)) ⟨⟨(⟨h1.a0, h1.c0, wa, wc⟩ : HL), by rw [E.out.1, E.out.2.1, E.out.2.2]; rfl, by rw [E.out.1, E.out.2.1]; exact O9.out⟩, put2_below BR.out (by omega) _ _⟩
        have cl : ((vs.length : Int) == 60) = false := by rw [beq_eq_false_iff_ne]; omega
        have E : Hid (_ ∧ _ ∧ _) := tk_got (ws := ws) HP.out HO0.out hl
        clear hl
        obtain ⟨w5, hw5⟩ : ∃ Q, wr.alloc (.cells #[.int .i64 x, .int .i64 b, .int .i64 r, .int .i64 m] 55) = Q := ⟨_, rfl⟩
        have hb5 : Below wr.heap.size wr w5 := by rw [← hw5]; exact (Below.refl _ _).alloc (Nat.le_refl _) _
        have K5 : Hid (Box w5 wr.heap.size 55 #[.int .i64 x, .int .i64 b, .int .i64 r, .int .i64 m]) := by unfold Hid; rw [← hw5]; exact Box.new _ _ _
        have O5 : Hid (OwnL w5 V.heap.size (⟨h1.a0, h1.c0, wa, wc⟩ : HL) vs (callW ws x)) := OR.out.below hb5
        have N5 : Hid (Box w5 w2.heap.size 34 #[.slice h1.a0 vs.length h1.c0, .slice wa (callW ws x).length wc]) := NR.out.belowS hb5
        have Y5 : Hid (Box w5 V0.heap.size 34 #[.slice none 0 0, .slice none 0 0]) := YR.out.belowS hb5
        have B5 : Hid (Below w.heap.size w w5) := BR.out.trans (hb5.mono BR.out.size)
        have l5 : wr.heap.size < w5.heap.size := K5.out.lt
        have RA : Hid (∀ k, ob h1.a0 = some k → V.heap.size ≤ k ∧ k < w1.heap.size) := RA1
        have RB : Hid (∀ k, ob wa = some k → w1.heap.size ≤ k ∧ k < w2.heap.size) := RB1
        clear hb5 OR NR YR BR
        go_wp2_with (
          at_builtin
          refine app_any _ rfl (.tmp 101) (.tmp 107) 31 rfl V.heap.size 55 i0 (.agg #[.int .i64 0, .int .i64 0, .int .i64 0, .int .i64 0]) 4 32 Tryd.underlying31 hi hz0 hz1 hz2 rfl (by omega) (.slice h1.a0 vs.length h1.c0) vs.length (cellsK vs) rfl O5.out.1 (some ⟨wr.heap.size, 0, none⟩) 1 1 (cK ⟨x, b, r, m⟩) rfl (fun h => by cases h) rfl (box_newsK K5.out) (cK_one _) (by unfold maxLen; omega) (by omega) (by omega) ?_
          intro a6 c6 w6 hown6 hgr6 hat6
          rw [ob_slice] at hgr6 hat6
          have N6 : Hid (Box w6 w2.heap.size 34 #[.slice h1.a0 vs.length h1.c0, .slice wa (callW ws x).length wc]) := N5.out.grown hgr6 (fun e => by have := RA.out _ e; omega)
          have Y6 : Hid (Box w6 V0.heap.size 34 #[.slice none 0 0, .slice none 0 0]) := Y5.out.grown hgr6 (fun e => by have := RA.out _ e; omega)
          have Q6 : Hid (w6.ownsRow V.heap.size 59 2 (.slice wa (callW ws x).length wc) (callW ws x).length (cellsW (callW ws x))) := own_same O5.out.2.1 (fun k hk => hgr6.block k (by rw [ob_slice] at hk; have := RB.out k hk; omega) (fun e => by rw [ob_slice] at hk; have := RB.out k hk; have := RA.out k e.symm; omega))
          have P6 : Hid (w6.ownsRow V.heap.size 55 4 (.slice a6 (vs ++ [(⟨x, b, r, m⟩ : LK)]).length c6) (vs ++ [(⟨x, b, r, m⟩ : LK)]).length (cellsK (vs ++ [(⟨x, b, r, m⟩ : LK)]))) := by
            unfold Hid; rw [List.length_append, List.length_singleton, cellsK_append]; exact hown6
          have B6 : Hid (Below w.heap.size w w6) := B5.out.grown hgr6 B5.out.size (fun j hj => by have := RA.out j hj; omega)
          have R6 : Hid (∀ k, ob a6 = some k → V.heap.size ≤ k ∧ k ≠ w2.heap.size ∧ ob wa ≠ some k) := fun k hk => by
            rcases hat6 k hk with e1 | e1
            · have := RA.out k e1
              exact ⟨by omega, by omega, fun e2 => by have := RB.out k e2; omega⟩
            · exact ⟨by omega, by omega, fun e2 => by have := RB.out k e2; omega⟩
          clear hown6 hgr6 hat6 O5 N5 Y5 B5 x0 x1
          obtain ⟨w7, hw7⟩ : ∃ Q, w6.setCell ⟨w2.heap.size, 0, none⟩ (.slice a6 (vs.length + 1) c6) = Q := ⟨_, rfl⟩
          have i7 : Inn w2.heap.size (w2.heap.size + 1) w6 w7 := by rw [← hw7]; exact set_inn _
          have N7 : Hid (Box w7 w2.heap.size 34 #[.slice a6 (vs.length + 1) c6, .slice wa (callW ws x).length wc]) := by unfold Hid; rw [← hw7]; exact N6.out.set 0 _
          have Y7 : Hid (Box w7 V0.heap.size 34 #[.slice none 0 0, .slice none 0 0]) := Y6.out.innO i7 (.inl (by omega))
          have B7 : Hid (Below w.heap.size w w7) := B6.out.trans (i7.below (by omega) B6.out.size)
          have O7 : Hid (OwnL w7 V.heap.size ⟨a6, c6, wa, wc⟩ (vs ++ [⟨x, b, r, m⟩]) (callW ws x)) := ⟨own_inn P6.out i7 (fun k hk => by have := R6.out k hk; omega), own_inn Q6.out i7 (fun k hk => by have := RB.out k hk; omega), fun k hk => (R6.out k hk).2.2⟩
          obtain ⟨u0, u1⟩ := box2 N6.out
          obtain ⟨s0, s1⟩ := thaw2 N6.out
          clear i7
          obtain ⟨x0, x1⟩ := box2 N7.out
          obtain ⟨y0, y1⟩ := box2 Y7.out
          obtain ⟨t0, t1⟩ := thaw2 Y7.out
          have ra := own_rng O7.out.1
          have rb := own_rng O7.out.2.1
          have O9 : Hid (OwnL (put2 w7 V0.heap.size (.slice a6 (vs.length + 1) c6) (.slice wa (callW ws x).length wc)) w.heap.size (⟨a6, c6, wa, wc⟩ : HL) (vs ++ [(⟨x, b, r, m⟩ : LK)]) (callW ws x)) := ⟨(own_inn O7.out.1 (put2_inn _ _) (fun k hk => .inr (by have := ra k hk; omega))).down (by omega), (own_inn O7.out.2.1 (put2_inn _ _) (fun k hk => .inr (by have := rb k hk; omega))).down (by omega), O7.out.2.2⟩
          clear ra rb)
        exact retLc Tryd.results66 rfl rfl rfl (put2_box Y7.out (.slice a6 (vs.length + 1) c6) (.slice wa (callW ws x).length wc)) ⟨⟨(⟨a6, c6, wa, wc⟩ : HL), by rw [E.out.1, E.out.2.1, E.out.2.2]; rw [List.length_append]; rfl, by rw [E.out.1, E.out.2.1]; exact O9.out⟩, put2_below B7.out (by omega) _ _⟩
      have c0 : ((L.length : Int) == 0) = false := by rw [beq_eq_false_iff_ne]; omega
      have HO0 : Hid (tkO vs x b r m ≠ 0#64) := fun e => hF (by rw [HNIL.out.1 e]; rfl)
      have TW : Hid (_ ∧ _ ∧ _) := tk_wait (ws := ws) HP.out HO0.out
      rw [HFS.out] at TW
      clear hF HNIL
      by_cases h100 : 100 < (callW ws x).length + L.length
      case pos =>
        have c1 : (100 : Int) < ((callW ws x).length : Int) + (L.length : Int) := by omega
        have E : Hid (tkV vs x b r m = vs ∧ tkW vs ws x b r m = callW ws x ∧ tkC vs ws x b r m = 7) := by
          have hq : 100 < (callW ws x ++ L).length := by rw [List.length_append]; exact h100
          unfold Hid; rw [TW.out.1, TW.out.2.1, TW.out.2.2]; unfold awW awC; rw [if_pos hq, if_pos hq]; exact ⟨rfl, rfl, rfl⟩
        clear h100 x0 x1 TW
        obtain ⟨x0, x1⟩ := box2 NR.out
        obtain ⟨y0, y1⟩ := box2 YR.out
        obtain ⟨t0, t1⟩ := thaw2 YR.out
        have ra := own_rng OR.out.1
        have rb := own_rng OR.out.2.1
        have O9 : Hid (OwnL (put2 wr V0.heap.size (.slice h1.a0 vs.length h1.c0) (.slice wa (callW ws x).length wc)) w.heap.size (⟨h1.a0, h1.c0, wa, wc⟩ : HL) vs (callW ws x)) := ⟨(own_inn OR.out.1 (put2_inn _ _) (fun k hk => .inr (by have := ra k hk; omega))).down (by omega), (own_inn OR.out.2.1 (put2_inn _ _) (fun k hk => .inr (by have := rb k hk; omega))).down (by omega), OR.out.2.2⟩
        clear ra rb
        go_wp2
        exact retLc Tryd.results66 rfl rfl rfl (put2_box YR.out (.slice h1.a0 vs.length h1.c0) (.slice wa (callW ws x).length wc)) ⟨⟨(⟨h1.a0, h1.c0, wa, wc⟩ : HL), by rw [E.out.1, E.out.2.1, E.out.2.2]; rfl, by rw [E.out.1, E.out.2.1]; exact O9.out⟩, put2_below BR.out (by omega) _ _⟩
      have c1 : ¬ (100 : Int) < ((callW ws x).length : Int) + (L.length : Int) := by omega
      have HN100 : Hid (¬ 100 < (callW ws x ++ L).length) := by unfold Hid; rw [List.length_append]; exact h100
      have CO2 : Hid (Calls Tryd.prog 91 #[.agg #[.slice h1.a0 vs.length h1.c0, .slice wa (callW ws x).length wc]] wr fun e w' => (∃ h' : HL, e = .returned (.agg #[.slice h'.a0 vs.length h'.c0, .slice h'.a1 (callW ws x).length h'.c1]) ∧ OwnL w' wr.heap.size h' vs (callW ws x)) ∧ Below wr.heap.size wr w') := c_l06Own (⟨h1.a0, h1.c0, wa, wc⟩ : HL) vs (callW ws x) wr OR.out.rd (by omega) (by omega) (fun e => own_src OR.out.1 e) (fun e => own_src OR.out.2.1 e)
      have SN : Hid (av = none → L.length = 0 ∧ cv = 0) := fun e => by
        refine ⟨?_, SF.out e⟩
        rcases Nat.eq_zero_or_pos L.length with h0 | h0
        · exact h0
        · obtain ⟨b, off, e', _⟩ := RF.out.2 h0
          rw [e] at e'
          cases e'
      clear h100 SF
      go_wp2_with fail
      refine CO2.out.mono ?_
      rintro e w5 ⟨⟨h2, rfl, o5⟩, hb⟩
      have N5 : Hid (Box w5 w2.heap.size 34 #[.slice h1.a0 vs.length h1.c0, .slice wa (callW ws x).length wc]) := NR.out.belowS hb
      have Y5 : Hid (Box w5 V0.heap.size 34 #[.slice none 0 0, .slice none 0 0]) := YR.out.belowS hb
      have OR5 : Hid (OwnL w5 V.heap.size (⟨h1.a0, h1.c0, wa, wc⟩ : HL) vs (callW ws x)) := OR.out.below hb
      have B5 : Hid (Below w.heap.size w w5) := BR.out.trans (hb.mono BR.out.size)
      have RF5 : Hid (RdW w5 av L.length L) := RF.out.below hb
      have O5 : Hid (OwnL w5 wr.heap.size h2 vs (callW ws x)) := o5
      have l5 : wr.heap.size ≤ w5.heap.size := hb.size
      clear hb o5 NR YR OR BR RF CO2 x0 x1
      obtain ⟨w6, hw6⟩ : ∃ Q, w5.alloc (.cells #[.slice h2.a0 vs.length h2.c0, .slice h2.a1 (callW ws x).length h2.c1] 34) = Q := ⟨_, rfl⟩
      have hb6 : Below w5.heap.size w5 w6 := by rw [← hw6]; exact (Below.refl _ _).alloc (Nat.le_refl _) _
      have T6 : Hid (Box w6 w5.heap.size 34 #[.slice h2.a0 vs.length h2.c0, .slice h2.a1 (callW ws x).length h2.c1]) := by unfold Hid; rw [← hw6]; exact Box.new _ _ _
      have N6 : Hid (Box w6 w2.heap.size 34 #[.slice h1.a0 vs.length h1.c0, .slice wa (callW ws x).length wc]) := N5.out.belowS hb6
      have Y6 : Hid (Box w6 V0.heap.size 34 #[.slice none 0 0, .slice none 0 0]) := Y5.out.belowS hb6
      have OR6 : Hid (OwnL w6 V.heap.size (⟨h1.a0, h1.c0, wa, wc⟩ : HL) vs (callW ws x)) := OR5.out.below hb6
      have O6 : Hid (OwnL w6 wr.heap.size h2 vs (callW ws x)) := O5.out.below hb6
      have B6 : Hid (Below w.heap.size w w6) := B5.out.trans (hb6.mono B5.out.size)
      have RF6 : Hid (RdW w6 av L.length L) := RF5.out.below hb6
      have l6 : w5.heap.size < w6.heap.size := T6.out.lt
      have RC : Hid (∀ k, ob h2.a0 = some k → wr.heap.size ≤ k ∧ k < w5.heap.size) := own_rng O5.out.1
      have RD : Hid (∀ k, ob h2.a1 = some k → wr.heap.size ≤ k ∧ k < w5.heap.size) := own_rng O5.out.2.1
      obtain ⟨x0, x1⟩ := box2 T6.out
      clear hb6 N5 Y5 OR5 B5 RF5 O5
      go_wp2_with (
        at_builtin
        refine app_any _ rfl (.tmp 122) (.tmp 123) 32 rfl wr.heap.size 59 j0 (.agg #[.int .i64 0, .int .i64 0]) 2 16 Tryd.underlying32 hj0 jz0 jz1 jz2 rfl (by omega) (.slice h2.a1 (callW ws x).length h2.c1) (callW ws x).length (cellsW (callW ws x)) rfl O6.out.2.1 av L.length cv (cellsW L) rfl SN.out (by rw [cellsW_len]) (srcW RF6.out) (cellsW_one L) (by unfold maxLen; omega) (by omega) (by omega) ?_
        intro a7 c7 w7 hown7 hgr7 hat7
        rw [ob_slice] at hgr7 hat7
        have T7 : Hid (Box w7 w5.heap.size 34 #[.slice h2.a0 vs.length h2.c0, .slice h2.a1 (callW ws x).length h2.c1]) := T6.out.grown hgr7 (fun e => by have := RD.out _ e; omega)
        have N7 : Hid (Box w7 w2.heap.size 34 #[.slice h1.a0 vs.length h1.c0, .slice wa (callW ws x).length wc]) := N6.out.grown hgr7 (fun e => by have := RD.out _ e; omega)
        have Y7 : Hid (Box w7 V0.heap.size 34 #[.slice none 0 0, .slice none 0 0]) := Y6.out.grown hgr7 (fun e => by have := RD.out _ e; omega)
        have OR7 : Hid (OwnL w7 V.heap.size (⟨h1.a0, h1.c0, wa, wc⟩ : HL) vs (callW ws x)) := ⟨own_same OR6.out.1 (fun k hk => hgr7.block k (by rw [ob_slice] at hk; have := RA1.out k hk; omega) (fun e => by rw [ob_slice] at hk; have := RA1.out k hk; have := RD.out k e.symm; omega)), own_same OR6.out.2.1 (fun k hk => hgr7.block k (by rw [ob_slice] at hk; have := RB1.out k hk; omega) (fun e => by rw [ob_slice] at hk; have := RB1.out k hk; have := RD.out k e.symm; omega)), OR6.out.2.2⟩
        have P7 : Hid (w7.ownsRow wr.heap.size 55 4 (.slice h2.a0 vs.length h2.c0) vs.length (cellsK vs)) := own_same O6.out.1 (fun k hk => hgr7.block k (by rw [ob_slice] at hk; have := RC.out k hk; omega) (fun e => by rw [ob_slice] at hk; exact O6.out.2.2 k hk e.symm))
        have Q7 : Hid (w7.ownsRow wr.heap.size 59 2 (.slice a7 (callW ws x ++ L).length c7) (callW ws x ++ L).length (cellsW (callW ws x ++ L))) := by
          unfold Hid; rw [List.length_append, cellsW_app]; exact hown7
        have B7 : Hid (Below w.heap.size w w7) := B6.out.grown hgr7 B6.out.size (fun j hj => by have := RD.out j hj; have := B6.out.size; omega)
        have R7 : Hid (∀ k, ob a7 = some k → wr.heap.size ≤ k ∧ k ≠ w5.heap.size ∧ ob h2.a0 ≠ some k) := (fun k hk => by
          rcases hat7 k hk with e1 | e1
          · have := RD.out k e1
            exact ⟨by omega, by omega, fun e2 => O6.out.2.2 k e2 e1⟩
          · exact ⟨by omega, by omega, fun e2 => by have := RC.out k e2; omega⟩)
        clear hown7 hgr7 hat7 T6 N6 Y6 OR6 O6 B6 RF6 x0 x1
        obtain ⟨w8, hw8⟩ : ∃ Q, w7.setCell ⟨w5.heap.size, 1, none⟩ (.slice a7 ((callW ws x).length + L.length) c7) = Q := ⟨_, rfl⟩
        have i8 : Inn w5.heap.size (w5.heap.size + 1) w7 w8 := by rw [← hw8]; exact set_inn _
        have T8 : Hid (Box w8 w5.heap.size 34 #[.slice h2.a0 vs.length h2.c0, .slice a7 ((callW ws x).length + L.length) c7]) := by unfold Hid; rw [← hw8]; exact T7.out.set 1 _
        have N8 : Hid (Box w8 w2.heap.size 34 #[.slice h1.a0 vs.length h1.c0, .slice wa (callW ws x).length wc]) := N7.out.innO i8 (.inl (by omega))
        have Y8 : Hid (Box w8 V0.heap.size 34 #[.slice none 0 0, .slice none 0 0]) := Y7.out.innO i8 (.inl (by omega))
        have OR8 : Hid (OwnL w8 V.heap.size (⟨h1.a0, h1.c0, wa, wc⟩ : HL) vs (callW ws x)) := ⟨own_inn OR7.out.1 i8 (fun k hk => .inl (by have := RA1.out k hk; omega)), own_inn OR7.out.2.1 i8 (fun k hk => .inl (by have := RB1.out k hk; omega)), OR7.out.2.2⟩
        have O8 : Hid (OwnL w8 wr.heap.size ⟨h2.a0, h2.c0, a7, c7⟩ vs (callW ws x ++ L)) := ⟨own_inn P7.out i8 (fun k hk => .inl (by have := RC.out k hk; omega)), own_inn Q7.out i8 (fun k hk => by have := R7.out k hk; omega), fun k hk hk' => (R7.out k hk').2.2 hk⟩
        have B8 : Hid (Below w.heap.size w w8) := B7.out.trans (i8.below (by omega) B7.out.size)
        obtain ⟨u0, u1⟩ := box2 T7.out
        obtain ⟨s0, s1⟩ := thaw2 T7.out
        obtain ⟨x0, x1⟩ := box2 T8.out
        clear i8 N7 Y7 OR7 P7 Q7 B7)
      have CR : Hid (Calls Tryd.prog 64 #[.agg #[.slice h2.a0 vs.length h2.c0, .slice a7 ((callW ws x).length + L.length) c7], .int .i64 x] w8 fun e w' => (∃ b : Bool, e = .returned (.bool b) ∧ (b = true ↔ Rch (callW ws x ++ L) x x)) ∧ Below w8.heap.size w8 w') := by
        have := c_l06Round ⟨h2.a0, h2.c0, a7, c7⟩ vs (callW ws x ++ L) x w8 O8.out.rd (by rw [List.length_append]; omega) HOKF.out bx
        rw [List.length_append] at this
        exact this
      refine CR.out.mono ?_
      rintro e w9 ⟨⟨bb', rfl, hb'⟩, hb9⟩
      have hbe := rdB_eq hb'
      have T9 : Hid (Box w9 w5.heap.size 34 #[.slice h2.a0 vs.length h2.c0, .slice a7 ((callW ws x).length + L.length) c7]) := T8.out.belowS hb9
      have N9 : Hid (Box w9 w2.heap.size 34 #[.slice h1.a0 vs.length h1.c0, .slice wa (callW ws x).length wc]) := N8.out.belowS hb9
      have Y9 : Hid (Box w9 V0.heap.size 34 #[.slice none 0 0, .slice none 0 0]) := Y8.out.belowS hb9
      have OR9 : Hid (OwnL w9 V.heap.size (⟨h1.a0, h1.c0, wa, wc⟩ : HL) vs (callW ws x)) := OR8.out.below hb9
      have P9 : Hid (OwnL w9 wr.heap.size ⟨h2.a0, h2.c0, a7, c7⟩ vs (callW ws x ++ L)) := O8.out.below hb9
      have B9 : Hid (Below w.heap.size w w9) := B8.out.trans (hb9.mono B8.out.size)
      clear hb9 hb' T8 N8 Y8 OR8 O8 B8 CR x0 x1 u0 u1 s0 s1 hw8
      cases bb'
      case true =>
        have E : Hid (tkV vs x b r m = vs ∧ tkW vs ws x b r m = callW ws x ∧ tkC vs ws x b r m = 14) := by
          unfold Hid; rw [TW.out.1, TW.out.2.1, TW.out.2.2]; unfold awW awC; rw [if_neg HN100.out, if_neg HN100.out, ← hbe]; exact ⟨rfl, rfl, rfl⟩
        clear hbe TW
        obtain ⟨x0, x1⟩ := box2 N9.out
        obtain ⟨y0, y1⟩ := box2 Y9.out
        obtain ⟨t0, t1⟩ := thaw2 Y9.out
        have ra := own_rng OR9.out.1
        have rb := own_rng OR9.out.2.1
        have O9 : Hid (OwnL (put2 w9 V0.heap.size (.slice h1.a0 vs.length h1.c0) (.slice wa (callW ws x).length wc)) w.heap.size (⟨h1.a0, h1.c0, wa, wc⟩ : HL) vs (callW ws x)) := ⟨(own_inn OR9.out.1 (put2_inn _ _) (fun k hk => .inr (by have := ra k hk; omega))).down (by omega), (own_inn OR9.out.2.1 (put2_inn _ _) (fun k hk => .inr (by have := rb k hk; omega))).down (by omega), OR9.out.2.2⟩
        clear ra rb
        go_wp2
        exact retLc Tryd.results66 rfl rfl rfl (put2_box Y9.out (.slice h1.a0 vs.length h1.c0) (.slice wa (callW ws x).length wc)) ⟨⟨(⟨h1.a0, h1.c0, wa, wc⟩ : HL), by rw [E.out.1, E.out.2.1, E.out.2.2]; rfl, by rw [E.out.1, E.out.2.1]; exact O9.out⟩, put2_below B9.out (by omega) _ _⟩
      have E : Hid (tkV vs x b r m = vs ∧ tkW vs ws x b r m = callW ws x ++ L ∧ tkC vs ws x b r m = 13) := by
        unfold Hid; rw [TW.out.1, TW.out.2.1, TW.out.2.2]; unfold awW awC; rw [if_neg HN100.out, if_neg HN100.out, ← hbe]; exact ⟨rfl, rfl, rfl⟩
      clear hbe TW
      obtain ⟨x0, x1⟩ := box2 T9.out
      obtain ⟨y0, y1⟩ := box2 Y9.out
      obtain ⟨t0, t1⟩ := thaw2 Y9.out
      have ra := own_rng P9.out.1
      have rb := own_rng P9.out.2.1
      have O9 : Hid (OwnL (put2 w9 V0.heap.size (.slice h2.a0 vs.length h2.c0) (.slice a7 ((callW ws x).length + L.length) c7)) w.heap.size (⟨h2.a0, h2.c0, a7, c7⟩ : HL) vs (callW ws x ++ L)) := ⟨(own_inn P9.out.1 (put2_inn _ _) (fun k hk => .inr (by have := ra k hk; omega))).down (by omega), (own_inn P9.out.2.1 (put2_inn _ _) (fun k hk => .inr (by have := rb k hk; omega))).down (by omega), P9.out.2.2⟩
      clear ra rb
      go_wp2
      exact retLc Tryd.results66 rfl rfl rfl (put2_box Y9.out (.slice h2.a0 vs.length h2.c0) (.slice a7 ((callW ws x).length + L.length) c7)) ⟨⟨(⟨h2.a0, h2.c0, a7, c7⟩ : HL), by rw [E.out.1, E.out.2.1, E.out.2.2]; rw [List.length_append]; rfl, by rw [E.out.1, E.out.2.1]; exact O9.out⟩, put2_below B9.out (by omega) _ _⟩

end Go.Proofs.YtmjacoocnkcilaaDoor
namespace Go.Proofs.YtmjacoocnkcilaaDoor
open Go Go.RowKit
attribute [local go_sem ↓] Go.wp_at_zero Go.wp_at_succ

set_option maxRecDepth 100000 in
set_option maxHeartbeats 8000000 in
theorem c_specTL (h : HL) (vs : List LK) (ws : List WK) (x b r m : Int) (w : World) (rd : RdL w h vs ws) (f0 : vs.length ≤ 1048576) (f1 : ws.length ≤ 1048576) (n0 : h.a0 = none → h.c0 = 0) (n1 : h.a1 = none → h.c1 = 0) :
    Calls Tryd.prog 33 #[.agg #[.slice h.a0 vs.length h.c0, .slice h.a1 ws.length h.c1], .int .i64 x, .int .i64 b, .int .i64 r, .int .i64 m] w fun e w' => (∃ h' : HL, e = .returned (.tuple #[.agg #[.slice h'.a0 (tlV vs ws x b r m).length h'.c0, .slice h'.a1 (tlW vs ws x b r m).length h'.c1], .int .i64 (tlC vs ws x b r m)]) ∧ OwnL w' w.heap.size h' (tlV vs ws x b r m) (tlW vs ws x b r m)) ∧ Below w.heap.size w w' := by
  have R : Hid (RdL w h vs ws) := rd
  have N0 : Hid (h.a0 = none → h.c0 = 0) := n0
  have N1 : Hid (h.a1 = none → h.c1 = 0) := n1
  obtain ⟨V0, hV0⟩ : ∃ V, w.alloc (.cells #[.slice h.a0 vs.length h.c0, .slice h.a1 ws.length h.c1] 34) = V := ⟨_, rfl⟩
  obtain ⟨V, hV⟩ : ∃ V, V0.alloc (.cells #[.slice none 0 0, .slice none 0 0] 34) = V := ⟨_, rfl⟩
  have hb0 : Below w.heap.size w V0 := by rw [← hV0]; exact (Below.refl _ _).alloc (Nat.le_refl _) _
  have hb1 : Below V0.heap.size V0 V := by rw [← hV]; exact (Below.refl _ _).alloc (Nat.le_refl _) _
  have B : Hid (Below w.heap.size w V) := hb0.trans (hb1.mono hb0.size)
  have X : Hid (Box V w.heap.size 34 #[.slice h.a0 vs.length h.c0, .slice h.a1 ws.length h.c1]) := (show Box V0 w.heap.size 34 #[.slice h.a0 vs.length h.c0, .slice h.a1 ws.length h.c1] by rw [← hV0]; exact Box.new _ _ _).belowS hb1
  have Y : Hid (Box V V0.heap.size 34 #[.slice none 0 0, .slice none 0 0]) := by unfold Hid; rw [← hV]; exact Box.new _ _ _
  have l0 : w.heap.size < V0.heap.size := by rw [← hV0]; simp
  obtain ⟨x0, x1⟩ := box2 X.out
  obtain ⟨p, hp⟩ : ∃ p, okLs vs ws = p := ⟨_, rfl⟩
  obtain ⟨q, hq⟩ : ∃ q, okK ⟨x, b, r, m⟩ = q := ⟨_, rfl⟩
  have C : Hid (Calls Tryd.prog 16 #[.agg #[.slice h.a0 vs.length h.c0, .slice h.a1 ws.length h.c1]] V fun e w' => e = .returned (.bool p) ∧ Below V.heap.size V w') := by unfold Hid; rw [← hp]; exact c_specLO h vs ws V (R.out.below B.out) f0 f1
  have CK : Hid (∀ W : World, Calls Tryd.prog 45 #[.int .i64 x, .int .i64 b, .int .i64 r, .int .i64 m] W fun e w' => e = .returned (.bool q) ∧ w' = W) := fun W => by rw [← hq]; exact c_ask x b r m W
  clear rd hb0 hb1 n0 n1
  go_enter Tryd.func33, Tryd.ntmps33
  go_wp2_with fail
  refine C.out.mono ?_
  rintro e w1 ⟨rfl, hb⟩
  have B1 : Hid (Below w.heap.size w w1) := B.out.trans (hb.mono B.out.size)
  have X1 : Hid (Box w1 w.heap.size 34 #[.slice h.a0 vs.length h.c0, .slice h.a1 ws.length h.c1]) := X.out.belowS hb
  have Y1 : Hid (Box w1 V0.heap.size 34 #[.slice none 0 0, .slice none 0 0]) := Y.out.belowS hb
  clear hb x0 x1 C X Y B
  obtain ⟨x0, x1⟩ := box2 X1.out
  obtain ⟨y0, y1⟩ := box2 Y1.out
  obtain ⟨t0, t1⟩ := thaw2 Y1.out
  cases p
  · have E : Hid (_ ∧ _ ∧ _) := tl1 (x := x) (b := b) (r := r) (m := m) hp
    clear hp hq
    go_wp2
    refine retLc Tryd.results33 rfl rfl rfl (put2_box Y1.out (.slice none 0 0) (.slice none 0 0)) ⟨⟨⟨none, 0, none, 0⟩, by rw [E.out.1, E.out.2.1, E.out.2.2]; rfl, by rw [E.out.1, E.out.2.1]; exact own_none _ _⟩, put2_below B1.out (by omega) _ _⟩
  go_wp2_with fail
  refine (CK.out w1).mono ?_
  rintro e wq ⟨rfl, hwq⟩; rw [hwq]; clear hwq
  cases q
  · have E : Hid (_ ∧ _ ∧ _) := tl4 hp hq
    clear hp hq
    go_wp2
    refine retLc Tryd.results33 rfl rfl rfl (put2_box Y1.out (.slice none 0 0) (.slice none 0 0)) ⟨⟨⟨none, 0, none, 0⟩, by rw [E.out.1, E.out.2.1, E.out.2.2]; rfl, by rw [E.out.1, E.out.2.1]; exact own_none _ _⟩, put2_below B1.out (by omega) _ _⟩
  have E : Hid (_ ∧ _ ∧ _) := tl0 hp hq
  have HP : Hid (okLs vs ws = true) := hp
  have HQ : Hid (okK ⟨x, b, r, m⟩ = true) := hq
  clear hp hq
  have l1 : V0.heap.size < w1.heap.size := Y1.out.lt
  go_wp2_with fail
  refine (c_l06Take h vs ws x b r m w1 (R.out.below B1.out) HP.out HQ.out N0.out N1.out).mono ?_
  rintro e w2 ⟨⟨h6, rfl, o2⟩, hb⟩
  have Y6 : Hid (Box w2 V0.heap.size 34 #[.slice none 0 0, .slice none 0 0]) := Y1.out.belowS hb
  have B6 : Hid (Below w.heap.size w w2) := B1.out.trans (hb.mono B1.out.size)
  have O6 : Hid (OwnL w2 w1.heap.size h6 (tkV vs x b r m) (tkW vs ws x b r m)) := o2
  have ra := own_rng o2.1
  have rb := own_rng o2.2.1
  obtain ⟨U, hU⟩ : ∃ U, tkV vs x b r m = U := ⟨_, rfl⟩
  obtain ⟨T, hT⟩ : ∃ T, tkW vs ws x b r m = T := ⟨_, rfl⟩
  obtain ⟨c, hc⟩ : ∃ c, tkC vs ws x b r m = c := ⟨_, rfl⟩
  rw [hU, hT] at O6
  rw [hU, hT, hc] at E
  rw [hU, hT, hc]
  clear hU hT hc o2 hb x0 x1 y0 y1 t0 t1
  obtain ⟨y0, y1⟩ := box2 Y6.out
  obtain ⟨t0, t1⟩ := thaw2 Y6.out
  have O7 : Hid (OwnL (put2 w2 V0.heap.size (.slice h6.a0 U.length h6.c0) (.slice h6.a1 T.length h6.c1)) w.heap.size h6 U T) :=
    ⟨(own_inn O6.out.1 (put2_inn _ _) (fun k hk => .inr (by have := ra k hk; omega))).down B1.out.size, (own_inn O6.out.2.1 (put2_inn _ _) (fun k hk => .inr (by have := rb k hk; omega))).down B1.out.size, O6.out.2.2⟩
  clear ra rb
  go_wp2
  exact retLc Tryd.results33 rfl rfl rfl (put2_box Y6.out (.slice h6.a0 U.length h6.c0) (.slice h6.a1 T.length h6.c1)) ⟨⟨h6, by rw [E.out.1, E.out.2.1, E.out.2.2]; rfl, by rw [E.out.1, E.out.2.1]; exact O7.out⟩, put2_below B6.out (by omega) _ _⟩

end Go.Proofs.YtmjacoocnkcilaaDoor
namespace Go.Proofs.YtmjacoocnkcilaaDoor
open Go Go.RowKit
attribute [local go_sem ↓] Go.wp_at_zero Go.wp_at_succ

theorem getD_lt (vs : List LK) (k : Nat) (h : k < vs.length) : vs.getD k dK = vs[k] := by rw [List.getD_eq_getElem?_getD, List.getElem?_eq_getElem h]; rfl
theorem pw_iff (vs : List LK) : (vs.all okK && fitL vs) = true ↔ (∀ v ∈ vs, okK v = true) ∧ vs.Pairwise (fun u v => pairBad v u = false) := by
  rw [← fit_pairs, okP_iff]
  constructor
  · intro h
    refine ⟨fun v hv => ?_, List.pairwise_iff_getElem.2 (fun i j hi hj hij => ?_)⟩
    · obtain ⟨i, hi, e⟩ := List.getElem_of_mem hv
      have := (h i hi).1
      rw [getD_lt vs i hi, e] at this
      exact this
    · have := (h j hj).2
      rw [getD_lt vs j hj] at this
      rw [List.any_eq_false] at this
      have := this vs[i] (List.mem_take_iff_getElem.2 ⟨i, by omega, rfl⟩)
      simpa using this
  · rintro ⟨h1, h2⟩ k hk
    rw [getD_lt vs k hk]
    refine ⟨h1 _ (List.getElem_mem hk), List.any_eq_false.2 (fun u hu => ?_)⟩
    obtain ⟨i, hi, e⟩ := List.mem_take_iff_getElem.1 hu
    have := (List.pairwise_iff_getElem.1 h2) i k (by omega) hk (by omega)
    rw [← e, this]
    exact Bool.false_ne_true
theorem okLs_iff (vs : List LK) (ws : List WK) : okLs vs ws = true ↔ vs.length ≤ 60 ∧ ws.length ≤ 100 ∧ ((∀ v ∈ vs, okK v = true) ∧ vs.Pairwise (fun u v => pairBad v u = false)) ∧ ∀ v ∈ ws, okW v = true := by
  rw [← pw_iff]
  unfold okLs
  simp only [Bool.and_eq_true, decide_eq_true_eq, List.all_eq_true]
  constructor
  · rintro ⟨⟨⟨⟨a, b⟩, c⟩, d⟩, e⟩; exact ⟨a, b, ⟨c, d⟩, e⟩
  · rintro ⟨a, b, ⟨c, d⟩, e⟩; exact ⟨⟨⟨⟨a, b⟩, c⟩, d⟩, e⟩
theorem ok_free (vs : List LK) (ws : List WK) (p : LK → Bool) (q : WK → Bool) (h : okLs vs ws = true) : okLs (vs.filter p) (ws.filter q) = true := by
  obtain ⟨a, b, ⟨c, d⟩, e⟩ := (okLs_iff vs ws).1 h
  exact (okLs_iff _ _).2 ⟨Nat.le_trans (List.length_filter_le _ _) a, Nat.le_trans (List.length_filter_le _ _) b, ⟨fun v hv => c v (List.mem_filter.1 hv).1, d.sublist List.filter_sublist⟩, fun v hv => e v (List.mem_filter.1 hv).1⟩
theorem ok_take (vs : List LK) (ws : List WK) (x b r m : Int) (h : okLs vs ws = true) (hk : okK ⟨x, b, r, m⟩ = true) : okLs (tkV vs x b r m) (tkW vs ws x b r m) = true := by
  obtain ⟨n0, n1, ⟨c, d⟩, e⟩ := (okLs_iff vs ws).1 h
  have hall : vs.all okK = true := List.all_eq_true.2 c
  obtain ⟨bx, _, _, bm⟩ := okK_bounds hk
  have hcw : (callW ws x).length ≤ 100 := Nat.le_trans (List.length_filter_le _ _) n1
  have hce : ∀ v ∈ callW ws x, okW v = true := fun v hv => e v (List.mem_filter.1 hv).1
  by_cases h1 : vs.any (hasK x b r m) = true
  · obtain ⟨e1, e2, _⟩ := tk_have (ws := ws) h1
    rw [e1, e2]
    exact (okLs_iff _ _).2 ⟨n0, hcw, ⟨c, d⟩, hce⟩
  have h1' : vs.any (hasK x b r m) = false := by simpa using h1
  by_cases h2 : tkO vs x b r m = 0#64
  · by_cases h3 : vs.length = 60
    · obtain ⟨e1, e2, _⟩ := tk_full (ws := ws) h1' h2 h3
      rw [e1, e2]
      exact (okLs_iff _ _).2 ⟨n0, hcw, ⟨c, d⟩, hce⟩
    · obtain ⟨e1, e2, _⟩ := tk_got (ws := ws) h1' h2 h3
      rw [e1, e2]
      refine (okLs_iff _ _).2 ⟨by rw [List.length_append, List.length_singleton]; omega, hcw, ⟨fun v hv => ?_, ?_⟩, hce⟩
      · rcases List.mem_append.1 hv with h4 | h4
        · exact c v h4
        · rw [List.mem_singleton.1 h4]; exact hk
      · refine List.pairwise_append.2 ⟨d, List.pairwise_singleton _ _, fun u hu v hv => ?_⟩
        rw [List.mem_singleton.1 hv]
        rw [Bool.eq_false_iff]
        intro hbad
        unfold pairBad at hbad
        simp only [Bool.and_eq_true, Bool.or_eq_true, decide_eq_true_eq, Bool.not_eq_true'] at hbad
        obtain ⟨⟨q1, q2⟩, q3⟩ := hbad
        rcases q3 with q3 | ⟨q3, q4⟩
        · have := List.any_eq_false.1 h1' u hu
          rw [← q3] at this
          exact this (by simp [hasK, covB])
        · have hb := okK_bounds (c u hu)
          have := (tkO_in vs x b r m u.x hall bx (by omega) (by omega)).2 ⟨u, hu, ⟨fun e => q3 e.symm, q1.symm, q2.symm, by rw [fitB_symm]; exact q4⟩, rfl⟩
          rw [h2, inT_zero] at this
          cases this
  · obtain ⟨e1, e2, _⟩ := tk_wait (ws := ws) h1' h2
    rw [e1, e2]
    have hF := tkF_ok vs ws x b r m hall (List.all_eq_true.2 e) bx
    refine (okLs_iff _ _).2 ⟨n0, ?_, ⟨c, d⟩, ?_⟩
    · unfold awW
      split
      · exact hcw
      · split
        · exact hcw
        · omega
    · unfold awW
      split
      · exact hce
      · split
        · exact hce
        · exact List.all_eq_true.1 hF

end Go.Proofs.YtmjacoocnkcilaaDoor
namespace Go.Proofs.YtmjacoocnkcilaaDoor
open Go Go.RowKit
attribute [local go_sem ↓] Go.wp_at_zero Go.wp_at_succ

theorem rdB_own (ws : List WK) (x : Int) (h : ∀ v ∈ ws, v.x ≠ x) : rdB ws x = false := by
  unfold rdB
  rw [decide_eq_false_iff_not]
  intro hr
  have : ∀ y, Rch ws x y → False := fun y hy => by
    induction hy with
    | one v hv e => exact h v hv e
    | step y v _ _ _ ih => exact ih
  exact this _ hr
theorem callW_ne (ws : List WK) (x : Int) : ∀ v ∈ callW ws x, v.x ≠ x := fun v hv => by
  have := (List.mem_filter.1 hv).2
  simpa using this
def clB (x b r m : Int) (v : LK) : Bool := decide (v.b = b) && decide (v.r = r) && !decide (v.x = x) && !fitB v.m m
theorem tk_all (vs : List LK) (ws : List WK) (x b r m : Int) (h : okLs vs ws = true) (hk : okK ⟨x, b, r, m⟩ = true) :
    rdB (tkW vs ws x b r m) x = false ∧ (tkV vs x b r m).any (hasK x b r m) = decide (tkC vs ws x b r m = 0) ∧ (tkC vs ws x b r m = 0 ∨ tkC vs ws x b r m = 7 ∨ (tkC vs ws x b r m ≠ 0 ∧ tkC vs ws x b r m ≠ 7 ∧ vs.any (clB x b r m) = true)) := by
  obtain ⟨n0, n1, ⟨c, d⟩, e⟩ := (okLs_iff vs ws).1 h
  have hall : vs.all okK = true := List.all_eq_true.2 c
  obtain ⟨bx, _, _, bm⟩ := okK_bounds hk
  have hcal := rdB_own _ _ (callW_ne ws x)
  by_cases h1 : vs.any (hasK x b r m) = true
  · obtain ⟨e1, e2, e3⟩ := tk_have (ws := ws) h1
    rw [e1, e2, e3]
    exact ⟨hcal, by rw [h1]; rfl, .inl rfl⟩
  have h1' : vs.any (hasK x b r m) = false := by simpa using h1
  by_cases h2 : tkO vs x b r m = 0#64
  · by_cases h3 : vs.length = 60
    · obtain ⟨e1, e2, e3⟩ := tk_full (ws := ws) h1' h2 h3
      rw [e1, e2, e3]
      exact ⟨hcal, by rw [h1']; rfl, .inr (.inl rfl)⟩
    · obtain ⟨e1, e2, e3⟩ := tk_got (ws := ws) h1' h2 h3
      rw [e1, e2, e3]
      refine ⟨hcal, ?_, .inl rfl⟩
      rw [List.any_append, List.any_cons]
      simp [hasK, covB]
  · obtain ⟨e1, e2, e3⟩ := tk_wait (ws := ws) h1' h2
    rw [e1, e2, e3]
    have hcl : vs.any (clB x b r m) = true := by
      obtain ⟨y, hy, hy1, hin⟩ := ne0_iff.1 h2
      obtain ⟨v, hv, hp, he⟩ := (tkO_in vs x b r m y hall bx hy hy1).1 hin
      obtain ⟨p1, p2, p3, p4⟩ := hp
      refine List.any_eq_true.2 ⟨v, hv, ?_⟩
      unfold clB
      rw [decide_eq_true p2, decide_eq_true p3, decide_eq_false p1, p4]
      rfl
    unfold awW awC
    by_cases h4 : 100 < (callW ws x ++ tkF vs x b r m).length
    · rw [if_pos h4, if_pos h4]
      exact ⟨hcal, by rw [h1']; rfl, .inr (.inl rfl)⟩
    · rw [if_neg h4, if_neg h4]
      by_cases h5 : rdB (callW ws x ++ tkF vs x b r m) x = true
      · rw [if_pos h5, if_pos h5]
        exact ⟨hcal, by rw [h1']; rfl, .inr (.inr ⟨by decide, by decide, hcl⟩)⟩
      · rw [if_neg h5, if_neg h5]
        exact ⟨by simpa using h5, by rw [h1']; rfl, .inr (.inr ⟨by decide, by decide, hcl⟩)⟩
theorem take_facts (vs : List LK) (ws : List WK) (x b r m : Int) (h : okLs vs ws = true) (hk : okK ⟨x, b, r, m⟩ = true) :
    ∃ (U : List LK) (T : List WK) (C : Int), tlV vs ws x b r m = U ∧ tlW vs ws x b r m = T ∧ tlC vs ws x b r m = C ∧ okLs U T = true ∧ hlB U T x b r m = decide (C = 0) ∧ hlC U T x b r m = 0 ∧ wrB U T x = false ∧ wrC U T x = 0 ∧ loC U T x = 0 ∧ (C = 0 ∨ C = 7 ∨ (C ≠ 0 ∧ C ≠ 7 ∧ vs.any (clB x b r m) = true)) := by
  obtain ⟨e1, e2, e3⟩ := tl0 h hk
  have hok := ok_take vs ws x b r m h hk
  obtain ⟨g1, g2, g3⟩ := tk_all vs ws x b r m h hk
  have hx : inB x 1 60 = true := by unfold okK at hk; simp only [Bool.and_eq_true] at hk; exact hk.1.1.1.1
  obtain ⟨a1, a2⟩ := hl0 hok hk
  obtain ⟨b1, b2⟩ := wr0 hok hx
  obtain ⟨c1, c2⟩ := lo0 hok hx
  exact ⟨_, _, _, e1, e2, e3, hok, by rw [a1, g2], a2, by rw [b1, g1], b2, c2, g3⟩
theorem mf_all {a b : Int} (ha : 1 ≤ a ∧ a ≤ 4) (hb : 1 ≤ b ∧ b ≤ 4) : mfB a b = fitB a b ∧ mfC a b = 0 ∧ mfB b a = fitB a b ∧ mfC b a = 0 := by
  have h1 : inB a 1 4 = true := by unfold inB; exact decide_eq_true ha
  have h2 : inB b 1 4 = true := by unfold inB; exact decide_eq_true hb
  obtain ⟨e1, e2⟩ := mf_yes h1 h2
  obtain ⟨e3, e4⟩ := mf_yes h2 h1
  exact ⟨e1, e2, by rw [e3, fitB_symm], e4⟩
theorem cl_take (vs : List LK) (x b r m : Int) (k : Nat) (hk : k < vs.length) : (vs.take (k + 1)).any (clB x b r m) = ((vs.take k).any (clB x b r m) || clB x b r m (vs.getD k dK)) := by
  rw [List.take_add_one, List.any_append, List.getElem?_eq_getElem hk, List.getD_eq_getElem?_getD, List.getElem?_eq_getElem hk]
  simp
theorem cl_none (b r x m : Int) (v : LK) (h : v.b ≠ b ∨ v.r ≠ r ∨ v.x = x) : clB x b r m v = false := by
  unfold clB
  rcases h with h | h | h <;> simp [h]
theorem cl_some (b r x m : Int) (v : LK) (h1 : v.b = b) (h2 : v.r = r) (h3 : v.x ≠ x) : clB x b r m v = !fitB v.m m := by
  unfold clB
  simp [h1, h2, h3]

end Go.Proofs.YtmjacoocnkcilaaDoor
namespace Go.Proofs.YtmjacoocnkcilaaDoor
open Go Go.RowKit
attribute [local go_sem ↓] Go.wp_at_zero Go.wp_at_succ

theorem results_tmp4 {P : Program} {fn : Func} {p q r s : Tmp} (h : fn.results = #[.tmp p, .tmp q, .tmp r, .tmp s]) (tmps : Array Value) (w : World) : (results fn tmps).run P w = .ok (.tuple #[tmps.getD p undef, tmps.getD q undef, tmps.getD r undef, tmps.getD s undef]) w := by
  simp [results, h]
theorem ok_drawn {x b r m : Int} (h1 : 1 ≤ x ∧ x ≤ 4) (h2 : 1 ≤ b ∧ b ≤ 2) (h3 : -1 ≤ r ∧ r ≤ 2) (h4 : 1 ≤ m ∧ m ≤ 4) (h5 : r = -1 ∨ 3 ≤ m) : okK ⟨x, b, r, m⟩ = true := by
  unfold okK inB
  rw [decide_eq_true (show 1 ≤ x ∧ x ≤ 60 by omega), decide_eq_true (show 1 ≤ b ∧ b ≤ 3 by omega), decide_eq_true (show -1 ≤ r ∧ r ≤ 1000 by omega), decide_eq_true h4]
  rcases h5 with h | h
  · rw [decide_eq_true h]; rfl
  · rw [decide_eq_true h]; simp
set_option maxRecDepth 100000 in
set_option maxHeartbeats 4000000 in
theorem c_drawAsk (w0 w : World) (g : Nat) (a : Option Addr) (n c T : Nat) (zs : List Int) (h : Drw w0 w g a n c T zs) (hT : T ≤ 900000) :
    Calls Tryd.prog 71 #[.pointer (some ⟨g, 0, none⟩)] w fun e w' => (∃ x b r m : Int, e = .returned (.tuple #[.int .i64 x, .int .i64 b, .int .i64 r, .int .i64 m]) ∧ okK ⟨x, b, r, m⟩ = true) ∧ Drw w0 w' g a n c (T + 5) zs ∧ Inn g (g + 1) w w' := by
  have H : Hid (Drw w0 w g a n c T zs) := h
  clear h
  go_enter Tryd.func71, Tryd.ntmps71
  go_wp2_with fail
  refine (c_chance w0 w g a n c T zs 2 H.out (by omega) (by omega)).mono ?_
  rintro e w1 ⟨⟨rb, rfl⟩, hd, hi⟩
  have D1 : Hid (Drw w0 w1 g a n c (T + 1) zs) := hd
  have I1 : Hid (Inn g (g + 1) w w1) := hi
  clear hd hi H
  cases rb
  case false =>
    go_wp2_with fail
    refine (c_next w0 w1 g a n c (T + 1) zs 4 D1.out (by omega) (by omega)).mono ?_
    rintro e w2 ⟨⟨r2, rfl, p2, q2⟩, hd, hi⟩
    have D2 : Hid (Drw w0 w2 g a n c (T + 2) zs) := hd
    have I2 : Hid (Inn g (g + 1) w w2) := I1.out.trans hi
    clear hd hi D1 I1
    go_wp2_with fail
    refine (c_next w0 w2 g a n c (T + 2) zs 2 D2.out (by omega) (by omega)).mono ?_
    rintro e w3 ⟨⟨r3, rfl, p3, q3⟩, hd, hi⟩
    have D3 : Hid (Drw w0 w3 g a n c (T + 3) zs) := hd
    have I3 : Hid (Inn g (g + 1) w w3) := I2.out.trans hi
    clear hd hi D2 I2
    go_wp2_with fail
    refine (c_next w0 w3 g a n c (T + 3) zs 3 D3.out (by omega) (by omega)).mono ?_
    rintro e w4 ⟨⟨r4, rfl, p4, q4⟩, hd, hi⟩
    have D4 : Hid (Drw w0 w4 g a n c (T + 4) zs) := hd
    have I4 : Hid (Inn g (g + 1) w w4) := I3.out.trans hi
    clear hd hi D3 I3
    go_wp2_with fail
    refine (c_next w0 w4 g a n c (T + 4) zs 2 D4.out (by omega) (by omega)).mono ?_
    rintro e w5 ⟨⟨r5, rfl, p5, q5⟩, hd, hi⟩
    have D5 : Hid (Drw w0 w5 g a n c (T + 5) zs) := hd
    have I5 : Hid (Inn g (g + 1) w w5) := I4.out.trans hi
    clear hd hi D4 I4
    have s2 : IntKind.i64.wrap (1 + r2) = 1 + r2 := by simp [IntKind.wrap_i64]; omega
    have s3 : IntKind.i64.wrap (1 + r3) = 1 + r3 := by simp [IntKind.wrap_i64]; omega
    have s5 : IntKind.i64.wrap (3 + r5) = 3 + r5 := by simp [IntKind.wrap_i64]; omega
    go_wp2
    exact bodyPost_ret (results_tmp4 Tryd.results71 _ _) rfl ⟨⟨1 + r2, 1 + r3, r4, 3 + r5, rfl, ok_drawn (by omega) (by omega) (by omega) (by omega) (.inr (by omega))⟩, D5.out, I5.out⟩
  case true =>
    go_wp2_with fail
    refine (c_next w0 w1 g a n c (T + 1) zs 4 D1.out (by omega) (by omega)).mono ?_
    rintro e w2 ⟨⟨r2, rfl, p2, q2⟩, hd, hi⟩
    have D2 : Hid (Drw w0 w2 g a n c (T + 2) zs) := hd
    have I2 : Hid (Inn g (g + 1) w w2) := I1.out.trans hi
    clear hd hi D1 I1
    go_wp2_with fail
    refine (c_next w0 w2 g a n c (T + 2) zs 2 D2.out (by omega) (by omega)).mono ?_
    rintro e w3 ⟨⟨r3, rfl, p3, q3⟩, hd, hi⟩
    have D3 : Hid (Drw w0 w3 g a n c (T + 3) zs) := hd
    have I3 : Hid (Inn g (g + 1) w w3) := I2.out.trans hi
    clear hd hi D2 I2
    go_wp2_with fail
    refine (c_next w0 w3 g a n c (T + 3) zs 4 D3.out (by omega) (by omega)).mono ?_
    rintro e w4 ⟨⟨r4, rfl, p4, q4⟩, hd, hi⟩
    have D4 : Hid (Drw w0 w4 g a n c (T + 4) zs) := hd
    have I4 : Hid (Inn g (g + 1) w w4) := I3.out.trans hi
    clear hd hi D3 I3
    have s2 : IntKind.i64.wrap (1 + r2) = 1 + r2 := by simp [IntKind.wrap_i64]; omega
    have s3 : IntKind.i64.wrap (1 + r3) = 1 + r3 := by simp [IntKind.wrap_i64]; omega
    have s4 : IntKind.i64.wrap (1 + r4) = 1 + r4 := by simp [IntKind.wrap_i64]; omega
    go_wp2
    exact bodyPost_ret (results_tmp4 Tryd.results71 _ _) rfl ⟨⟨1 + r2, 1 + r3, -1, 1 + r4, rfl, ok_drawn (by omega) (by omega) (by omega) (by omega) (.inl rfl)⟩, D4.out.mono (by omega), I4.out⟩

end Go.Proofs.YtmjacoocnkcilaaDoor
namespace Go.Proofs.YtmjacoocnkcilaaDoor
open Go Go.RowKit
attribute [local go_sem ↓] Go.wp_at_zero Go.wp_at_succ

theorem inn_fresh {g E B F : Nat} {w w1 w2 : World} (h : Inn g E w w1) (i : Inn B F w1 w2) (hB : w.heap.size ≤ B) : Inn g E w w2 :=
  ⟨i.os.trans h.os, i.tape.trans h.tape, i.output.trans h.output, Nat.le_trans h.size i.size, fun k hk ho => (i.block k (Nat.lt_of_lt_of_le hk h.size) (.inl (by omega))).trans (h.block k hk ho)⟩
set_option maxRecDepth 100000 in
set_option maxHeartbeats 8000000 in
theorem c_locks (w0 w : World) (g : Nat) (a : Option Addr) (n c T : Nat) (zs : List Int) (h : Drw w0 w g a n c T zs) (hT : T ≤ 800000) :
    Calls Tryd.prog 70 #[.pointer (some ⟨g, 0, none⟩)] w fun e w' => (∃ (h' : HL) (vs : List LK) (ws : List WK), e = .returned (.agg #[.slice h'.a0 vs.length h'.c0, .slice h'.a1 ws.length h'.c1]) ∧ okLs vs ws = true ∧ OwnL w' w.heap.size h' vs ws) ∧ Drw w0 w' g a n c (T + 100) zs ∧ Inn g (g + 1) w w' := by
  have lg : g < w.heap.size := h.src.lt
  have l00 : w0.heap.size ≤ g := h.behind
  obtain ⟨V0, hV0⟩ : ∃ V, w.alloc (.cells #[.slice none 0 0, .slice none 0 0] 34) = V := ⟨_, rfl⟩
  obtain ⟨V1, hV1⟩ : ∃ V, V0.alloc (.cells #[] 55) = V := ⟨_, rfl⟩
  obtain ⟨V2, hV2⟩ : ∃ V, V1.alloc (.cells #[] 59) = V := ⟨_, rfl⟩
  obtain ⟨V3, hV3⟩ : ∃ V, V2.alloc (.cells #[.slice (some ⟨V0.heap.size, 0, none⟩) 0 0, .slice (some ⟨V1.heap.size, 0, none⟩) 0 0] 34) = V := ⟨_, rfl⟩
  have b0 : Below w.heap.size w V0 := by rw [← hV0]; exact (Below.refl _ _).alloc (Nat.le_refl _) _
  have b1 : Below V0.heap.size V0 V1 := by rw [← hV1]; exact (Below.refl _ _).alloc (Nat.le_refl _) _
  have b2 : Below V1.heap.size V1 V2 := by rw [← hV2]; exact (Below.refl _ _).alloc (Nat.le_refl _) _
  have b3 : Below V2.heap.size V2 V3 := by rw [← hV3]; exact (Below.refl _ _).alloc (Nat.le_refl _) _
  have l0 : w.heap.size < V0.heap.size := by rw [← hV0]; simp
  have l1 : V0.heap.size < V1.heap.size := by rw [← hV1]; simp
  have l2 : V1.heap.size < V2.heap.size := by rw [← hV2]; simp
  have l3 : V2.heap.size < V3.heap.size := by rw [← hV3]; simp
  have BV : Below w.heap.size w V3 := ((b0.trans (b1.mono (by omega))).trans (b2.mono (by omega))).trans (b3.mono (by omega))
  have YV : Hid (Box V3 w.heap.size 34 #[.slice none 0 0, .slice none 0 0]) := (((show Box V0 w.heap.size 34 #[.slice none 0 0, .slice none 0 0] by rw [← hV0]; exact Box.new _ _ _).belowS b1).belowS b2).belowS b3
  have XV : Hid (Box V3 V2.heap.size 34 #[.slice (some ⟨V0.heap.size, 0, none⟩) 0 0, .slice (some ⟨V1.heap.size, 0, none⟩) 0 0]) := by unfold Hid; rw [← hV3]; exact Box.new _ _ _
  have OK0 : V3.ownsRow w.heap.size 55 4 (.slice (some ⟨V0.heap.size, 0, none⟩) 0 0) 0 (cellsK []) := own_below (own_below (show V1.ownsRow w.heap.size 55 4 (.slice (some ⟨V0.heap.size, 0, none⟩) 0 0) 0 (cellsK []) by rw [← hV1]; exact World.ownsRow_lit V0 #[] 0 (by omega) (Nat.zero_le _) rfl) b2) b3
  have OW0 : V3.ownsRow w.heap.size 59 2 (.slice (some ⟨V1.heap.size, 0, none⟩) 0 0) 0 (cellsW []) := own_below (show V2.ownsRow w.heap.size 59 2 (.slice (some ⟨V1.heap.size, 0, none⟩) 0 0) 0 (cellsW []) by rw [← hV2]; exact World.ownsRow_lit V1 #[] 0 (by omega) (Nat.zero_le _) rfl) b3
  have OV : Hid (OwnL V3 w.heap.size ⟨some ⟨V0.heap.size, 0, none⟩, 0, some ⟨V1.heap.size, 0, none⟩, 0⟩ [] []) := ⟨OK0, OW0, fun k hk hk' => by have e1 : V0.heap.size = k := Option.some.inj hk; have e2 : V1.heap.size = k := Option.some.inj hk'; omega⟩
  have DV : Hid (Drw w0 V3 g a n c T zs) := h.below BV
  have IV : Hid (Inn g (g + 1) w V3) := Inn.of_below BV
  clear h b0 b1 b2 b3 BV OK0 OW0
  go_enter Tryd.func70, Tryd.ntmps70
  go_wp2_with fail
  refine (c_next w0 V3 g a n c T zs 14 DV.out (by omega) (by omega)).mono ?_
  rintro e w1 ⟨⟨rn, rfl, p1, q1⟩, hd, hi⟩
  obtain ⟨m, hm⟩ : ∃ m : Nat, rn = (m : Int) := ⟨rn.toNat, by omega⟩
  subst hm
  have D1 : Hid (Drw w0 w1 g a n c (T + 1) zs) := hd
  have I1 : Hid (Inn g (g + 1) w w1) := IV.out.trans hi
  have X1 : Hid (Box w1 V2.heap.size 34 #[.slice (some ⟨V0.heap.size, 0, none⟩) 0 0, .slice (some ⟨V1.heap.size, 0, none⟩) 0 0]) := XV.out.innO hi (.inr (by omega))
  have Y1 : Hid (Box w1 w.heap.size 34 #[.slice none 0 0, .slice none 0 0]) := YV.out.innO hi (.inr (by omega))
  have O1 : Hid (OwnL w1 w.heap.size ⟨some ⟨V0.heap.size, 0, none⟩, 0, some ⟨V1.heap.size, 0, none⟩, 0⟩ [] []) := ⟨own_inn OV.out.1 hi (fun k hk => .inr (by have e1 : V0.heap.size = k := Option.some.inj hk; omega)), own_inn OV.out.2.1 hi (fun k hk => .inr (by have e1 : V1.heap.size = k := Option.some.inj hk; omega)), OV.out.2.2⟩
  have hm13 : m ≤ 13 := by omega
  clear hd hi DV IV XV YV OV p1 q1
  go_wp2
  go_loopw [4] (fun s wr => ∃ (i : Nat) (h : HL) (vs : List LK) (ws : List WK), i ≤ 13 ∧ s = .int .i64 (i : Int) ∧ Hid (okLs vs ws = true) ∧ Hid (Box wr V2.heap.size 34 #[.slice h.a0 vs.length h.c0, .slice h.a1 ws.length h.c1]) ∧ Hid (OwnL wr w.heap.size h vs ws) ∧ Hid (∀ b, (ob h.a0 = some b ∨ ob h.a1 = some b) → w.heap.size < b ∧ b ≠ V2.heap.size) ∧ Hid (Box wr w.heap.size 34 #[.slice none 0 0, .slice none 0 0]) ∧ Hid (Drw w0 wr g a n c (T + 1 + (13 - i) * 6) zs) ∧ Hid (Inn g (g + 1) w wr)) (fun s _ => (intOf s).toNat)
  case atStart => exact ⟨m, ⟨some ⟨V0.heap.size, 0, none⟩, 0, some ⟨V1.heap.size, 0, none⟩, 0⟩, [], [], hm13, rfl, rfl, X1, O1, (fun k hk => by
    rcases hk with hk | hk
    · have e1 : V0.heap.size = k := Option.some.inj hk
      exact ⟨by omega, by omega⟩
    · have e1 : V1.heap.size = k := Option.some.inj hk
      exact ⟨by omega, by omega⟩), Y1, D1.out.mono (by omega), I1⟩
  case round =>
    obtain ⟨i, h, vs, ws, hi13, rfl, HK, HX, HO, HF, HY, HD, HI⟩ := hrel
    obtain ⟨f0, f1, _, _⟩ := okLs_parts HK.out
    have lx : V2.heap.size < wr.heap.size := HX.out.lt
    by_cases hi0 : 0 < i
    · have ci : (0 : Int) < (i : Int) := by omega
      have cw : IntKind.i64.wrap ((i : Int) - 1) = (i : Int) - 1 := by simp [IntKind.wrap_i64]; omega
      have ce : (i : Int) - 1 = ((i - 1 : Nat) : Int) := by omega
      go_wp2_with fail
      refine (c_chance w0 wr g a n c _ zs 7 HD.out (by omega) (by omega)).mono ?_
      rintro e w2 ⟨⟨rb, rfl⟩, hd, hi⟩
      have D2 : Hid (Drw w0 w2 g a n c (T + 1 + (13 - i) * 6 + 1) zs) := hd
      have I2 : Hid (Inn g (g + 1) w w2) := HI.out.trans hi
      have X2 : Hid (Box w2 V2.heap.size 34 #[.slice h.a0 vs.length h.c0, .slice h.a1 ws.length h.c1]) := HX.out.innO hi (.inr (by omega))
      have Y2 : Hid (Box w2 w.heap.size 34 #[.slice none 0 0, .slice none 0 0]) := HY.out.innO hi (.inr (by omega))
      have O2 : Hid (OwnL w2 w.heap.size h vs ws) := ⟨own_inn HO.out.1 hi (fun k hk => .inr (by have := HF.out k (.inl hk); omega)), own_inn HO.out.2.1 hi (fun k hk => .inr (by have := HF.out k (.inr hk); omega)), HO.out.2.2⟩
      clear hd hi HD HI HX HY HO
      obtain ⟨x0, x1⟩ := box2 X2.out
      cases rb
      case true =>
        have i2d : Inn g (g + 1) w2 w2.drew := Inn.drew (Inn.refl _ _ _)
        have D2' : Hid (Drw w0 w2.drew g a n c (T + 1 + (13 - i) * 6 + 1) zs) := D2.out.inn (B := w2.heap.size) (E := w2.heap.size) (Inn.drew (Inn.refl _ _ _)) (.inl (by have := D2.out.src.lt; omega)) (by have := D2.out.src.lt; omega)
        have I2' : Hid (Inn g (g + 1) w w2.drew) := I2.out.trans i2d
        clear i2d
        go_wp2_with fail
        go_region_with (first
          | (go_at_call 96
             refine (c_next w0 _ g a n c _ zs 4 D2'.out (by omega) (by omega)).mono ?_
             rintro e w6 ⟨⟨r6, rfl, p6, q6⟩, hd, hi⟩
             have D6 : Hid (Drw w0 w6 g a n c (T + 1 + (13 - i) * 6 + 2) zs) := hd
             have I6 : Hid (Inn g (g + 1) w w6) := I2'.out.trans hi
             have X6 : Hid (Box w6 V2.heap.size 34 #[.slice h.a0 vs.length h.c0, .slice h.a1 ws.length h.c1]) := Box.innO (show Box w2.drew V2.heap.size 34 #[.slice h.a0 vs.length h.c0, .slice h.a1 ws.length h.c1] from X2.out) hi (.inr (by omega))
             have Y6 : Hid (Box w6 w.heap.size 34 #[.slice none 0 0, .slice none 0 0]) := Box.innO (show Box w2.drew w.heap.size 34 #[.slice none 0 0, .slice none 0 0] from Y2.out) hi (.inr (by omega))
             have O6 : Hid (OwnL w6 w.heap.size h vs ws) := ⟨own_inn (show w2.drew.ownsRow w.heap.size 55 4 (.slice h.a0 vs.length h.c0) vs.length (cellsK vs) from O2.out.1) hi (fun k hk => .inr (by have := HF.out k (.inl hk); omega)), own_inn (show w2.drew.ownsRow w.heap.size 59 2 (.slice h.a1 ws.length h.c1) ws.length (cellsW ws) from O2.out.2.1) hi (fun k hk => .inr (by have := HF.out k (.inr hk); omega)), O2.out.2.2⟩
             have l6 : V2.heap.size < w6.heap.size := X6.out.lt
             have s6 : IntKind.i64.wrap (1 + r6) = 1 + r6 := by simp [IntKind.wrap_i64]; omega
             clear hd hi
             obtain ⟨v0, v1⟩ := box2 X6.out)
          | (go_at_call 61
             refine (c_l06Free h vs ws (1 + r6) w6 O6.out.rd (by omega) (by omega)).mono ?_
             rintro e w7 ⟨⟨h7, rfl, o7⟩, hb⟩
             have OX : Hid (OwnL w7 w6.heap.size h7 (vs.filter (pNk (1 + r6))) (ws.filter (pNw (1 + r6)))) := o7
             have XX : Hid (Box w7 V2.heap.size 34 #[.slice h.a0 vs.length h.c0, .slice h.a1 ws.length h.c1]) := X6.out.belowS hb
             have YX : Hid (Box w7 w.heap.size 34 #[.slice none 0 0, .slice none 0 0]) := Y6.out.belowS hb
             have DX : Hid (Drw w0 w7 g a n c (T + 1 + (13 - i) * 6 + 2) zs) := D6.out.below hb
             have IX : Hid (Inn g (g + 1) w w7) := I6.out.trans (Inn.of_below hb)
             have NK : Hid (okLs (vs.filter (pNk (1 + r6))) (ws.filter (pNw (1 + r6))) = true) := ok_free vs ws _ _ HK.out
             clear hb o7
             obtain ⟨U, hU⟩ : ∃ U, vs.filter (pNk (1 + r6)) = U := ⟨_, rfl⟩
             obtain ⟨TT, hTT⟩ : ∃ U, ws.filter (pNw (1 + r6)) = U := ⟨_, rfl⟩
             rw [hU, hTT] at OX NK
             rw [hU, hTT]
             clear hU hTT
             obtain ⟨w8, hw8⟩ : ∃ Q, put2 w7 V2.heap.size (.slice h7.a0 (U).length h7.c0) (.slice h7.a1 (TT).length h7.c1) = Q := ⟨_, rfl⟩
             have i8 : Inn V2.heap.size (V2.heap.size + 1) w7 w8 := by rw [← hw8]; exact put2_inn _ _
             have ra := own_rng OX.out.1
             have rb := own_rng OX.out.2.1
             have X8 : Hid (Box w8 V2.heap.size 34 #[.slice h7.a0 (U).length h7.c0, .slice h7.a1 (TT).length h7.c1]) := by unfold Hid; rw [← hw8]; exact put2_box XX.out _ _
             have Y8 : Hid (Box w8 w.heap.size 34 #[.slice none 0 0, .slice none 0 0]) := YX.out.innO i8 (.inl (by omega))
             have D8 : Hid (Drw w0 w8 g a n c (T + 1 + (13 - i) * 6 + 2) zs) := DX.out.inn i8 (.inl (by omega)) (by have := DX.out.behind; omega)
             have I8 : Hid (Inn g (g + 1) w w8) := inn_fresh IX.out i8 (by omega)
             have O8 : Hid (OwnL w8 w.heap.size h7 (U) (TT)) := ⟨(own_inn OX.out.1 i8 (fun k hk => .inr (by have := ra k hk; omega))).down (by omega), (own_inn OX.out.2.1 i8 (fun k hk => .inr (by have := rb k hk; omega))).down (by omega), OX.out.2.2⟩
             have F8 : Hid (∀ b, (ob h7.a0 = some b ∨ ob h7.a1 = some b) → w.heap.size < b ∧ b ≠ V2.heap.size) := (fun k hk => by
               rcases hk with hk | hk
               · have := ra k hk
                 exact ⟨by omega, by omega⟩
               · have := rb k hk
                 exact ⟨by omega, by omega⟩)
             obtain ⟨u0, u1⟩ := box2 XX.out
             obtain ⟨s0, s1⟩ := thaw2 XX.out
             unfold put2 at hw8
             clear i8 ra rb OX XX YX DX IX))
        all_goals
          go_wp2
          go_roundw
          case rel => exact ⟨i - 1, h7, U, TT, by omega, by rw [← ce], NK, X8, O8, F8, Y8, D8.out.mono (by omega), I8⟩
          case measure => simp [intOf]; omega
      go_wp2_with fail
      refine (c_drawAsk w0 w2 g a n c _ zs D2.out (by omega)).mono ?_
      rintro e w3 ⟨⟨x, b, r, m', rfl, hk⟩, hd, hi⟩
      have D3 : Hid (Drw w0 w3 g a n c (T + 1 + (13 - i) * 6 + 1 + 5) zs) := hd
      have I3 : Hid (Inn g (g + 1) w w3) := I2.out.trans hi
      have X3 : Hid (Box w3 V2.heap.size 34 #[.slice h.a0 vs.length h.c0, .slice h.a1 ws.length h.c1]) := X2.out.innO hi (.inr (by omega))
      have Y3 : Hid (Box w3 w.heap.size 34 #[.slice none 0 0, .slice none 0 0]) := Y2.out.innO hi (.inr (by omega))
      have O3 : Hid (OwnL w3 w.heap.size h vs ws) := ⟨own_inn O2.out.1 hi (fun k hk => .inr (by have := HF.out k (.inl hk); omega)), own_inn O2.out.2.1 hi (fun k hk => .inr (by have := HF.out k (.inr hk); omega)), O2.out.2.2⟩
      have HQ : Hid (okK ⟨x, b, r, m'⟩ = true) := hk
      have l3 : V2.heap.size < w3.heap.size := X3.out.lt
      clear hd hi D2 I2 X2 Y2 O2 x0 x1 hk
      obtain ⟨x0, x1⟩ := box2 X3.out
      go_wp2_with fail
      refine (c_l06Take h vs ws x b r m' w3 O3.out.rd HK.out HQ.out (fun e => own_src O3.out.1 e) (fun e => own_src O3.out.2.1 e)).mono ?_
      rintro e w4 ⟨⟨h4, rfl, o4⟩, hb⟩
      have OX : Hid (OwnL w4 w3.heap.size h4 (tkV vs x b r m') (tkW vs ws x b r m')) := o4
      have XX : Hid (Box w4 V2.heap.size 34 #[.slice h.a0 vs.length h.c0, .slice h.a1 ws.length h.c1]) := X3.out.belowS hb
      have YX : Hid (Box w4 w.heap.size 34 #[.slice none 0 0, .slice none 0 0]) := Y3.out.belowS hb
      have DX : Hid (Drw w0 w4 g a n c (T + 1 + (13 - i) * 6 + 1 + 5) zs) := D3.out.below hb
      have IX : Hid (Inn g (g + 1) w w4) := I3.out.trans (Inn.of_below hb)
      have NK : Hid (okLs (tkV vs x b r m') (tkW vs ws x b r m') = true) := ok_take vs ws x b r m' HK.out HQ.out
      clear hb o4 x0 x1 X3 Y3 D3 I3 O3
      obtain ⟨U, hU⟩ : ∃ U, tkV vs x b r m' = U := ⟨_, rfl⟩
      obtain ⟨TT, hTT⟩ : ∃ U, tkW vs ws x b r m' = U := ⟨_, rfl⟩
      rw [hU, hTT] at OX NK
      rw [hU, hTT]
      clear hU hTT
      obtain ⟨w8, hw8⟩ : ∃ Q, put2 w4 V2.heap.size (.slice h4.a0 (U).length h4.c0) (.slice h4.a1 (TT).length h4.c1) = Q := ⟨_, rfl⟩
      have i8 : Inn V2.heap.size (V2.heap.size + 1) w4 w8 := by rw [← hw8]; exact put2_inn _ _
      have ra := own_rng OX.out.1
      have rb := own_rng OX.out.2.1
      have X8 : Hid (Box w8 V2.heap.size 34 #[.slice h4.a0 (U).length h4.c0, .slice h4.a1 (TT).length h4.c1]) := by unfold Hid; rw [← hw8]; exact put2_box XX.out _ _
      have Y8 : Hid (Box w8 w.heap.size 34 #[.slice none 0 0, .slice none 0 0]) := YX.out.innO i8 (.inl (by omega))
      have D8 : Hid (Drw w0 w8 g a n c (T + 1 + (13 - i) * 6 + 1 + 5) zs) := DX.out.inn i8 (.inl (by omega)) (by have := DX.out.behind; omega)
      have I8 : Hid (Inn g (g + 1) w w8) := inn_fresh IX.out i8 (by omega)
      have O8 : Hid (OwnL w8 w.heap.size h4 (U) (TT)) := ⟨(own_inn OX.out.1 i8 (fun k hk => .inr (by have := ra k hk; omega))).down (by omega), (own_inn OX.out.2.1 i8 (fun k hk => .inr (by have := rb k hk; omega))).down (by omega), OX.out.2.2⟩
      have F8 : Hid (∀ b, (ob h4.a0 = some b ∨ ob h4.a1 = some b) → w.heap.size < b ∧ b ≠ V2.heap.size) := (fun k hk => by
        rcases hk with hk | hk
        · have := ra k hk
          exact ⟨by omega, by omega⟩
        · have := rb k hk
          exact ⟨by omega, by omega⟩)
      obtain ⟨u0, u1⟩ := box2 XX.out
      obtain ⟨s0, s1⟩ := thaw2 XX.out
      unfold put2 at hw8
      clear i8 ra rb OX XX YX DX IX
      go_wp2
      go_roundw
      case rel => exact ⟨i - 1, h4, U, TT, by omega, by rw [← ce], NK, X8, O8, F8, Y8, D8.out.mono (by omega), I8⟩
      case measure => simp [intOf]; omega
    · have ci : ¬ (0 : Int) < (i : Int) := by omega
      obtain ⟨x0, x1⟩ := box2 HX.out
      go_wp2_with fail
      refine (c_l06Own h vs ws wr HO.out.rd (by omega) (by omega) (fun e => own_src HO.out.1 e) (fun e => own_src HO.out.2.1 e)).mono ?_
      rintro e w4 ⟨⟨h4, rfl, o4⟩, hb⟩
      have Y4 : Hid (Box w4 w.heap.size 34 #[.slice none 0 0, .slice none 0 0]) := HY.out.belowS hb
      have D4 : Hid (Drw w0 w4 g a n c (T + 1 + (13 - i) * 6) zs) := HD.out.below hb
      have I4 : Hid (Inn g (g + 1) w w4) := HI.out.trans (Inn.of_below hb)
      have ra := own_rng o4.1
      have rb := own_rng o4.2.1
      have O5 : Hid (OwnL (put2 w4 w.heap.size (.slice h4.a0 vs.length h4.c0) (.slice h4.a1 ws.length h4.c1)) w.heap.size h4 vs ws) := ⟨(own_inn o4.1 (put2_inn _ _) (fun k hk => .inr (by have := ra k hk; omega))).down (by omega), (own_inn o4.2.1 (put2_inn _ _) (fun k hk => .inr (by have := rb k hk; omega))).down (by omega), o4.2.2⟩
      obtain ⟨y0, y1⟩ := box2 Y4.out
      obtain ⟨t0, t1⟩ := thaw2 Y4.out
      clear ra rb o4 hb x0 x1
      go_wp2
      exact retL Tryd.results70 rfl rfl (put2_box Y4.out (.slice h4.a0 vs.length h4.c0) (.slice h4.a1 ws.length h4.c1)) ⟨⟨h4, vs, ws, rfl, HK.out, O5.out⟩, (D4.out.inn (put2_inn _ _) (.inl lg) (by omega)).mono (by omega), inn_fresh I4.out (put2_inn _ _) (Nat.le_refl _)⟩

end Go.Proofs.YtmjacoocnkcilaaDoor
namespace Go.Proofs.YtmjacoocnkcilaaDoor
open Go Go.RowKit
attribute [local go_sem ↓] Go.wp_at_zero Go.wp_at_succ

set_option maxRecDepth 100000 in
set_option maxHeartbeats 8000000 in
theorem c_locksOf (a : Option Addr) (n c : Nat) (zs : List Int) (w : World) (hr : RdV w a n (zs.map (Value.int .u8))) (hz : ∀ z ∈ zs, 0 ≤ z ∧ z < 256) (hn : n ≤ 1048576) :
    Calls Tryd.prog 35 #[.slice a n c] w fun e w' => (∃ (h' : HL) (vs : List LK) (ws : List WK), e = .returned (.agg #[.slice h'.a0 vs.length h'.c0, .slice h'.a1 ws.length h'.c1]) ∧ okLs vs ws = true ∧ OwnL w' w.heap.size h' vs ws) ∧ Below w.heap.size w w' := by
  have HZ : Hid (∀ z ∈ zs, 0 ≤ z ∧ z < 256) := hz
  obtain ⟨V, hV⟩ : ∃ V, w.alloc (.cells #[.slice none 0 0, .slice none 0 0] 34) = V := ⟨_, rfl⟩
  have hVb : Below w.heap.size w V := by rw [← hV]; exact (Below.refl _ _).alloc (Nat.le_refl _) _
  have HV : Hid (Below w.heap.size w V) := hVb
  have R0 : Hid (Box V w.heap.size 34 #[.slice none 0 0, .slice none 0 0]) := by unfold Hid; rw [← hV]; exact Box.new _ _ _
  have HR : Hid (RdV V a n (zs.map (Value.int .u8))) := hr.below hVb
  clear hr hz hVb
  go_enter Tryd.func35, Tryd.ntmps35
  go_wp2_with fail
  refine (c_source a n c zs V HR.out HZ.out hn).mono ?_
  rintro e w1 ⟨rfl, hd, hb⟩
  have B1 : Hid (Below w.heap.size w w1) := HV.out.trans (hb.mono HV.out.size)
  have R1 : Hid (Box w1 w.heap.size 34 #[.slice none 0 0, .slice none 0 0]) := R0.out.belowS hb
  have HD : Hid (Drw V w1 V.heap.size a n c 0 zs) := hd
  have lv : w.heap.size < V.heap.size := R0.out.lt
  clear hd hb
  go_wp2_with fail
  refine (c_locks V w1 V.heap.size a n c 0 zs HD.out (by omega)).mono ?_
  rintro e w2 ⟨⟨h2, vs, ws, rfl, hok, o2⟩, _, hi⟩
  have B2 : Hid (Below w.heap.size w w2) := B1.out.trans (hi.below (by omega) B1.out.size)
  have R2 : Hid (Box w2 w.heap.size 34 #[.slice none 0 0, .slice none 0 0]) := R1.out.innO hi (.inl lv)
  have HOK : Hid (okLs vs ws = true) := hok
  have l1 : w.heap.size < w1.heap.size := R1.out.lt
  have ra := own_rng o2.1
  have rb := own_rng o2.2.1
  have O3 : Hid (OwnL (put2 w2 w.heap.size (.slice h2.a0 vs.length h2.c0) (.slice h2.a1 ws.length h2.c1)) w.heap.size h2 vs ws) := ⟨(own_inn o2.1 (put2_inn _ _) (fun k hk => .inr (by have := ra k hk; omega))).down (by omega), (own_inn o2.2.1 (put2_inn _ _) (fun k hk => .inr (by have := rb k hk; omega))).down (by omega), o2.2.2⟩
  clear hi hok ra rb o2
  obtain ⟨y0, y1⟩ := box2 R2.out
  obtain ⟨t0, t1⟩ := thaw2 R2.out
  go_wp2
  exact retL Tryd.results35 rfl rfl (put2_box R2.out (.slice h2.a0 vs.length h2.c0) (.slice h2.a1 ws.length h2.c1)) ⟨⟨h2, vs, ws, rfl, HOK.out, O3.out⟩, put2_below B2.out (Nat.le_refl _) _ _⟩
set_option maxRecDepth 100000 in
set_option maxHeartbeats 8000000 in
theorem c_sameL (ha hb : HL) (vs : List LK) (ws : List WK) (w : World) (r1 : RdL w ha vs ws) (r2 : RdL w hb vs ws) (f0 : vs.length ≤ 60) (f1 : ws.length ≤ 100) :
    Calls Tryd.prog 37 #[.agg #[.slice ha.a0 vs.length ha.c0, .slice ha.a1 ws.length ha.c1], .agg #[.slice hb.a0 vs.length hb.c0, .slice hb.a1 ws.length hb.c1]] w fun e w' => e = .returned (.bool true) ∧ Below w.heap.size w w' := by
  have R1 : Hid (RdL w ha vs ws) := r1
  have R2 : Hid (RdL w hb vs ws) := r2
  obtain ⟨V0, hV0⟩ : ∃ V, w.alloc (.cells #[.slice ha.a0 vs.length ha.c0, .slice ha.a1 ws.length ha.c1] 34) = V := ⟨_, rfl⟩
  obtain ⟨V, hV⟩ : ∃ V, V0.alloc (.cells #[.slice hb.a0 vs.length hb.c0, .slice hb.a1 ws.length hb.c1] 34) = V := ⟨_, rfl⟩
  have hb0 : Below w.heap.size w V0 := by rw [← hV0]; exact (Below.refl _ _).alloc (Nat.le_refl _) _
  have hb1 : Below V0.heap.size V0 V := by rw [← hV]; exact (Below.refl _ _).alloc (Nat.le_refl _) _
  have BV : Hid (Below w.heap.size w V) := hb0.trans (hb1.mono hb0.size)
  have XV : Hid (Box V w.heap.size 34 #[.slice ha.a0 vs.length ha.c0, .slice ha.a1 ws.length ha.c1]) := (show Box V0 w.heap.size 34 #[.slice ha.a0 vs.length ha.c0, .slice ha.a1 ws.length ha.c1] by rw [← hV0]; exact Box.new _ _ _).belowS hb1
  have YV : Hid (Box V V0.heap.size 34 #[.slice hb.a0 vs.length hb.c0, .slice hb.a1 ws.length hb.c1]) := by unfold Hid; rw [← hV]; exact Box.new _ _ _
  obtain ⟨x0, x1⟩ := box2 XV.out
  obtain ⟨y0, y1⟩ := box2 YV.out
  clear r1 r2 hb0 hb1
  go_enter Tryd.func37, Tryd.ntmps37
  go_wp2
  clear x0 x1 y0 y1
  go_loopw [5] (fun s wr => ∃ k : Nat, k ≤ vs.length ∧ s = .int .i64 (k : Int) ∧ Hid (Below V.heap.size V wr)) (fun s _ => vs.length - (intOf s).toNat)
  case atStart => exact ⟨0, by omega, rfl, Below.refl _ _⟩
  case round =>
    obtain ⟨k, hk, rfl, HB⟩ := hrel
    have XR := XV.out.belowS HB.out
    have YR := YV.out.belowS HB.out
    obtain ⟨x0, x1⟩ := box2 XR
    obtain ⟨y0, y1⟩ := box2 YR
    by_cases hlt : k < vs.length
    · obtain ⟨_, hcs⟩ := (R1.out.1.below BV.out).below HB.out
      obtain ⟨ba, off, ha', hbl, hc⟩ := hcs (by omega)
      obtain ⟨_, hcs2⟩ := (R2.out.1.below BV.out).below HB.out
      obtain ⟨bb, off2, hb', hbl2, hc2⟩ := hcs2 (by omega)
      obtain ⟨⟨vx, vb, vr, vm⟩, hv⟩ : ∃ v, v = vs.getD k dK := ⟨_, rfl⟩
      obtain ⟨d0, d1, d2, d3⟩ := hc k hlt
      obtain ⟨e0, e1, e2, e3⟩ := hc2 k hlt
      rw [← hv] at d0 e0 d1 e1 d2 e2 d3 e3
      rw [ha'] at x0
      rw [hb'] at y0
      have ck : (k : Int) < (vs.length : Int) := by omega
      clear hc hcs hc2 hcs2 hv ha' hb' XR YR
      go_wp2_with fail
      go_quiet (fail)
      go_wp2
      go_roundw
      case rel => exact ⟨k + 1, by omega, by go_num, below_drewN HB.out _⟩
      case measure => simp [intOf]; omega
    · have cge : ¬ (k : Int) < (vs.length : Int) := by omega
      clear XR YR
      go_wp2
      clear x0 x1 y0 y1
      go_loopw [6] (fun s wr2 => ∃ k : Nat, k ≤ ws.length ∧ s = .int .i64 (k : Int) ∧ Hid (Below V.heap.size V wr2)) (fun s _ => ws.length - (intOf s).toNat)
      case atStart => exact ⟨0, by omega, rfl, HB⟩
      case round =>
        clear HB
        obtain ⟨k, hk, rfl, HB⟩ := hrel
        have XR := XV.out.belowS HB.out
        have YR := YV.out.belowS HB.out
        obtain ⟨x0, x1⟩ := box2 XR
        obtain ⟨y0, y1⟩ := box2 YR
        by_cases hlt : k < ws.length
        · obtain ⟨_, hcs⟩ := (R1.out.2.below BV.out).below HB.out
          obtain ⟨ba, off, ha', hbl, hc⟩ := hcs (by omega)
          obtain ⟨_, hcs2⟩ := (R2.out.2.below BV.out).below HB.out
          obtain ⟨bb, off2, hb', hbl2, hc2⟩ := hcs2 (by omega)
          obtain ⟨⟨vx, vf⟩, hv⟩ : ∃ v, v = ws.getD k dW := ⟨_, rfl⟩
          obtain ⟨d0, d1⟩ := hc k hlt
          obtain ⟨e0, e1⟩ := hc2 k hlt
          rw [← hv] at d0 e0 d1 e1
          rw [ha'] at x1
          rw [hb'] at y1
          have ck : (k : Int) < (ws.length : Int) := by omega
          clear hc hcs hc2 hcs2 hv ha' hb' XR YR
          go_wp2_with fail
          go_quiet (fail)
          go_wp2
          go_roundw
          case rel => exact ⟨k + 1, by omega, by go_num, below_drewN HB.out _⟩
          case measure => simp [intOf]; omega
        · have cge : ¬ (k : Int) < (ws.length : Int) := by omega
          clear XR YR
          go_wp2
          go_ret
          exact ⟨rfl, BV.out.trans (HB.out.mono BV.out.size)⟩

end Go.Proofs.YtmjacoocnkcilaaDoor
namespace Go.Proofs.YtmjacoocnkcilaaDoor
open Go Go.RowKit
attribute [local go_sem ↓] Go.wp_at_zero Go.wp_at_succ

theorem getD_memZ (zs : List Int) (k : Nat) (h : k < zs.length) : zs.getD k 0 ∈ zs := by rw [List.getD_eq_getElem?_getD, List.getElem?_eq_getElem h]; exact List.getElem_mem h
theorem tmod_nat (x n : Nat) (h : 0 < n) : ∃ j : Nat, ((x : Int).tmod (n : Int) = (j : Int)) ∧ j < n := by
  refine ⟨x % n, ?_, Nat.mod_lt _ h⟩
  rw [Int.tmod_eq_emod_of_nonneg (by omega)]; rfl
theorem tdiv_nat (x n : Nat) : ∃ j : Nat, ((x : Int).tdiv (n : Int) = (j : Int)) ∧ j ≤ x := by
  refine ⟨x / n, ?_, Nat.div_le_self _ _⟩
  rw [Int.tdiv_eq_ediv_of_nonneg (by omega)]; rfl
set_option maxRecDepth 100000 in
set_option maxHeartbeats 2000000 in
theorem c_atG (a : Option Addr) (n c : Nat) (zs : List Int) (i m : Nat) (w : World) (hr : RdV w a n (zs.map (Value.int .u8))) (hz : ∀ z ∈ zs, 0 ≤ z ∧ z < 256) (hn : n ≤ 1048576) (hi : i ≤ 2) (hm : 1 ≤ m ∧ m ≤ 300) :
    Calls Tryd.prog 38 #[.slice a n c, .int .i64 (i : Int), .int .i64 (m : Int)] w fun e w' => (∃ k : Nat, e = .returned (.int .i64 (k : Int)) ∧ k < m) ∧ ∃ q, w' = w.drewN q := by
  obtain ⟨hl, hcs⟩ := hr
  simp only [List.length_map] at hl
  have hm0 : ((m : Int) == 0) = false := by simp; omega
  by_cases hm1 : (m : Int) ≤ 1
  · go_enter Tryd.func38, Tryd.ntmps38
    go_wp2
    go_ret
    exact ⟨⟨0, rfl, by omega⟩, 0, rfl⟩
  by_cases h0 : n = 0
  · subst h0
    obtain ⟨j, hj, hjm⟩ := tmod_nat (i * 7) m (by omega)
    have e7 : ((i * 7 : Nat) : Int) = (i : Int) * 7 := by omega
    rw [e7] at hj
    go_enter Tryd.func38, Tryd.ntmps38
    go_wp2
    go_ret
    exact ⟨⟨j, ret_int (by rw [← hj]), hjm⟩, 0, rfl⟩
  · obtain ⟨b, off, rfl, _, hc⟩ := hcs (by omega)
    have hn0 : ((n : Int) == 0) = false := by simp; omega
    obtain ⟨j0, hj0, hjn0⟩ := tmod_nat i n (by omega)
    obtain ⟨j1, hj1, hjn1⟩ := tmod_nat (i + 1) n (by omega)
    obtain ⟨q, hq, hqi⟩ := tdiv_nat i n
    have e1 : ((i + 1 : Nat) : Int) = (i : Int) + 1 := by omega
    rw [e1] at hj1
    obtain ⟨x, hx⟩ : ∃ z, z = zs.getD j0 0 := ⟨_, rfl⟩
    obtain ⟨y, hy⟩ : ∃ z, z = zs.getD j1 0 := ⟨_, rfl⟩
    have hcx : w.cell? ⟨b, off + j0, none⟩ = some (.int .u8 x) := by rw [hx, hc j0 hjn0]; exact map_get _ _ _ _ (by omega)
    have hcy : w.cell? ⟨b, off + j1, none⟩ = some (.int .u8 y) := by rw [hy, hc j1 hjn1]; exact map_get _ _ _ _ (by omega)
    have bx : 0 ≤ x ∧ x < 256 := by rw [hx]; exact hz _ (getD_memZ zs j0 (by omega))
    have bY : 0 ≤ y ∧ y < 256 := by rw [hy]; exact hz _ (getD_memZ zs j1 (by omega))
    clear hc hx hy hcs hz e1
    go_enter Tryd.func38, Tryd.ntmps38
    go_wp2_with fail
    go_quiet (fail)
    go_wp2
    have h1 : 0 ≤ (x * 31 + y + q) % (m : Int) := Int.emod_nonneg _ (by omega)
    have h2 : (x * 31 + y + q) % (m : Int) < m := Int.emod_lt_of_pos _ (by omega)
    go_ret
    exact ⟨⟨((x * 31 + y + q) % (m : Int)).toNat, ret_int (Int.toNat_of_nonneg h1).symm, by omega⟩, nq, rfl⟩

end Go.Proofs.YtmjacoocnkcilaaDoor
namespace Go.Proofs.YtmjacoocnkcilaaDoor
open Go Go.RowKit
attribute [local go_sem ↓] Go.wp_at_zero Go.wp_at_succ

theorem rd4 (w : World) (x b r m : Int) : RdV (w.alloc (.cells #[.int .i64 x, .int .i64 b, .int .i64 r, .int .i64 m] 3)) (some ⟨w.heap.size, 0, none⟩) 4 ([x, b, r, m].map (Value.int .i64)) :=
  RdV.own (World.ownsRow_lit (base := w.heap.size) (e := 3) (size := 1) w #[.int .i64 x, .int .i64 b, .int .i64 r, .int .i64 m] 4 (Nat.le_refl _) (by unfold maxLen; omega) rfl)
def AskR (w : World) (g : Nat) (x b r m : Int) : Prop := g < w.heap.size ∧ w.cell? ⟨g, 0, none⟩ = some (.int .i64 x) ∧ w.cell? ⟨g, 1, none⟩ = some (.int .i64 b) ∧ w.cell? ⟨g, 2, none⟩ = some (.int .i64 r) ∧ w.cell? ⟨g, 3, none⟩ = some (.int .i64 m)
theorem AskR.below {w w' : World} {g : Nat} {x b r m : Int} (h : AskR w g x b r m) (hb : Below w.heap.size w w') : AskR w' g x b r m := by
  obtain ⟨h0, h1, h2, h3, h4⟩ := h
  exact ⟨Nat.lt_of_lt_of_le h0 hb.size, (hb.cell (p := ⟨g, 0, none⟩) h0).trans h1, (hb.cell (p := ⟨g, 1, none⟩) h0).trans h2, (hb.cell (p := ⟨g, 2, none⟩) h0).trans h3, (hb.cell (p := ⟨g, 3, none⟩) h0).trans h4⟩
theorem askR_new (w : World) (x b r m : Int) : AskR (w.alloc (.cells #[.int .i64 x, .int .i64 b, .int .i64 r, .int .i64 m] 3)) w.heap.size x b r m := by
  have h := Box.new w #[.int .i64 x, .int .i64 b, .int .i64 r, .int .i64 m] 3
  exact ⟨h.lt, h.cell 0, h.cell 1, h.cell 2, h.cell 3⟩
set_option maxRecDepth 100000 in
set_option maxHeartbeats 8000000 in
theorem c_askOf (a : Option Addr) (n c : Nat) (zs : List Int) (w : World) (hr : RdV w a n (zs.map (Value.int .u8))) (hz : ∀ z ∈ zs, 0 ≤ z ∧ z < 256) (hn : n ≤ 1048576) :
    Calls Tryd.prog 36 #[.slice a n c] w fun e w' => (∃ (g : Nat) (x b r m : Int), e = .returned (.slice (some ⟨g, 0, none⟩) 4 4) ∧ okK ⟨x, b, r, m⟩ = true ∧ AskR w' g x b r m) ∧ Below w.heap.size w w' := by
  have HR : Hid (RdV w a n (zs.map (Value.int .u8))) := hr
  have HZ : Hid (∀ z ∈ zs, 0 ≤ z ∧ z < 256) := hz
  clear hr hz
  go_enter Tryd.func36, Tryd.ntmps36
  go_wp2_with fail
  refine (c_source a n c zs w HR.out HZ.out hn).mono ?_
  rintro e w1 ⟨rfl, hd, hb⟩
  have B1 : Hid (Below w.heap.size w w1) := hb
  have HD : Hid (Drw w w1 w.heap.size a n c 0 zs) := hd
  clear hd hb
  go_wp2_with fail
  refine (c_drawAsk w w1 w.heap.size a n c 0 zs HD.out (by omega)).mono ?_
  rintro e w2 ⟨⟨x, b, r, m, rfl, hok⟩, _, hi⟩
  have B2 : Hid (Below w.heap.size w w2) := B1.out.trans (hi.below (Nat.le_refl _) B1.out.size)
  have HOK : Hid (okK ⟨x, b, r, m⟩ = true) := hok
  have NR : Hid (AskR (w2.alloc (.cells #[.int .i64 x, .int .i64 b, .int .i64 r, .int .i64 m] 3)) w2.heap.size x b r m) := askR_new w2 x b r m
  clear hi hok
  go_wp2
  go_ret
  exact ⟨⟨_, x, b, r, m, rfl, HOK.out, NR.out⟩, B2.out.alloc B2.out.size _⟩

end Go.Proofs.YtmjacoocnkcilaaDoor
