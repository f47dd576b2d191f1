/-
  LocksOfTx on both sides.
-/
import Derived.Test.YtmjacoocnkcilaaDoorLt
import Derived.Test.YtmjacoocnkcilaaDoorLs
namespace Go.Proofs.YtmjacoocnkcilaaDoor
open Go Go.RowKit
attribute [local go_sem ↓] Go.wp_at_zero Go.wp_at_succ

def loR (vs : List LK) (ws : List WK) (x : Int) : List LK := if okLs vs ws = true ∧ inB x 1 60 = true then vs.filter (pOwn x) else []
def loC (vs : List LK) (ws : List WK) (x : Int) : Int := if okLs vs ws = false then 1 else if inB x 1 60 = false then 4 else 0
theorem lo1 {vs : List LK} {ws : List WK} {x : Int} (h : okLs vs ws = false) : loR vs ws x = [] ∧ loC vs ws x = 1 := by unfold loR loC; rw [h]; exact ⟨rfl, rfl⟩
theorem lo4 {vs : List LK} {ws : List WK} {x : Int} (h : okLs vs ws = true) (h2 : inB x 1 60 = false) : loR vs ws x = [] ∧ loC vs ws x = 4 := by unfold loR loC; rw [h, h2]; exact ⟨rfl, rfl⟩
theorem lo0 {vs : List LK} {ws : List WK} {x : Int} (h : okLs vs ws = true) (h2 : inB x 1 60 = true) : loR vs ws x = vs.filter (pOwn x) ∧ loC vs ws x = 0 := by unfold loR loC; rw [h, h2]; exact ⟨rfl, rfl⟩
theorem lo_len (vs : List LK) (ws : List WK) (x : Int) : (loR vs ws x).length ≤ vs.length := by
  unfold loR
  split
  · exact List.length_filter_le _ _
  · exact Nat.zero_le _
set_option maxRecDepth 100000 in
set_option maxHeartbeats 8000000 in
theorem c_implLT (h : HL) (vs : List LK) (ws : List WK) (x : Int) (w : World) (rd : RdL w h vs ws) (f0 : vs.length ≤ 1048576) (f1 : ws.length ≤ 1048576) (ht : FitH w) :
    Calls Tryd.prog 23 #[.agg #[.slice h.a0 vs.length h.c0, .slice h.a1 ws.length h.c1], .int .i64 x] w fun e w' => (∃ ha hc, e = .returned (.tuple #[.slice ha (loR vs ws x).length hc, .int .i64 (loC vs ws x)]) ∧ w'.ownsRow w.heap.size 55 4 (.slice ha (loR vs ws x).length hc) (loR vs ws x).length (cellsK (loR vs ws x)) ∧ ∀ b, ob ha = some b → w.heap.size ≤ b) ∧ Below w.heap.size w w' := by
  have R : Hid (RdL w h vs ws) := rd
  obtain ⟨V0, hV0⟩ : ∃ V, w.alloc (.cells #[.slice h.a0 vs.length h.c0, .slice h.a1 ws.length h.c1] 34) = V := ⟨_, rfl⟩
  obtain ⟨V, hV⟩ : ∃ V, V0.alloc (.cells #[.int .i64 x] 3) = V := ⟨_, rfl⟩
  have hb0 : Below w.heap.size w V0 := by rw [← hV0]; exact (Below.refl _ _).alloc (Nat.le_refl _) _
  have hb1 : Below V0.heap.size V0 V := by rw [← hV]; exact (Below.refl _ _).alloc (Nat.le_refl _) _
  have B : Hid (Below w.heap.size w V) := hb0.trans (hb1.mono hb0.size)
  have X : Hid (Box V w.heap.size 34 #[.slice h.a0 vs.length h.c0, .slice h.a1 ws.length h.c1]) := (show Box V0 w.heap.size 34 #[.slice h.a0 vs.length h.c0, .slice h.a1 ws.length h.c1] by rw [← hV0]; exact Box.new _ _ _).belowS hb1
  have G : Hid (Box V V0.heap.size 3 #[.int .i64 x]) := by unfold Hid; rw [← hV]; exact Box.new _ _ _
  obtain ⟨x0, x1⟩ := box2 X.out
  obtain ⟨p, hp⟩ : ∃ p, okLs vs ws = p := ⟨_, rfl⟩
  obtain ⟨q, hq⟩ : ∃ q, inB x 1 60 = q := ⟨_, rfl⟩
  have C : Hid (Calls Tryd.prog 18 #[.agg #[.slice h.a0 vs.length h.c0, .slice h.a1 ws.length h.c1]] V fun e w' => e = .returned (.bool p) ∧ Below V.heap.size V w') := by unfold Hid; rw [← hp]; exact c_implLO h vs ws V (R.out.below B.out) f0 f1 (ht.below B.out)
  have CX : Hid (∀ W : World, Calls Tryd.prog 56 #[.int .i64 x] W fun e w' => e = .returned (.bool q) ∧ w' = W) := fun W => by rw [← hq]; exact c_isTx x W
  clear rd ht hb0 hb1
  go_enter Tryd.func23, Tryd.ntmps23
  go_wp2_with fail
  refine C.out.mono ?_
  rintro e w1 ⟨rfl, hb⟩
  have B1 : Hid (Below w.heap.size w w1) := B.out.trans (hb.mono B.out.size)
  have X1 : Hid (Box w1 w.heap.size 34 #[.slice h.a0 vs.length h.c0, .slice h.a1 ws.length h.c1]) := X.out.belowS hb
  have G1 : Hid (Box w1 V0.heap.size 3 #[.int .i64 x]) := G.out.belowS hb
  clear hb x0 x1 C X G B
  obtain ⟨x0, x1⟩ := box2 X1.out
  have g0 := G1.out.cell 0
  simp only [List.getElem?_toArray, List.getElem?_cons_zero] at g0
  cases p
  · have E : Hid (_ ∧ _) := lo1 (x := x) hp
    clear hp hq
    go_wp2
    go_ret2
    exact ⟨⟨none, 0, by rw [E.out.1, E.out.2]; rfl, by rw [E.out.1]; exact World.ownsRow_nil _ _ _ _, fun _ h => by cases h⟩, B1.out⟩
  go_wp2_with fail
  refine (CX.out w1).mono ?_
  rintro e wq ⟨rfl, hwq⟩; rw [hwq]; clear hwq
  cases q
  · have E : Hid (_ ∧ _) := lo4 hp hq
    clear hp hq
    go_wp2
    go_ret2
    exact ⟨⟨none, 0, by rw [E.out.1, E.out.2]; rfl, by rw [E.out.1]; exact World.ownsRow_nil _ _ _ _, fun _ h => by cases h⟩, B1.out⟩
  have E : Hid (_ ∧ _) := lo0 hp hq
  clear hp hq
  go_wp2_with fail
  refine (c_thoseOwn h.a0 _ h.c0 vs V0.heap.size x w1 (R.out.1.below B1.out) f0 G1.out).mono ?_
  rintro e w2 ⟨⟨ha, hc, rfl, o2, l2⟩, hb⟩
  have B2 : Hid (Below w.heap.size w w2) := B1.out.trans (hb.mono B1.out.size)
  have O2 : Hid (w2.ownsRow w.heap.size 55 4 (.slice ha (vs.filter (pOwn x)).length hc) (vs.filter (pOwn x)).length (cellsK (vs.filter (pOwn x)))) := o2.down B1.out.size
  have L2 : Hid (∀ b, ob ha = some b → w.heap.size ≤ b) := fun b hb => Nat.le_trans B1.out.size (l2 b hb)
  clear hb o2 l2 x0 x1 g0
  go_wp2
  go_ret2
  exact ⟨⟨ha, hc, by rw [E.out.1, E.out.2]; rfl, by rw [E.out.1]; exact O2.out, L2.out⟩, B2.out⟩
set_option maxRecDepth 100000 in
set_option maxHeartbeats 8000000 in
theorem c_specLT (h : HL) (vs : List LK) (ws : List WK) (x : Int) (w : World) (rd : RdL w h vs ws) (f0 : vs.length ≤ 1048576) (f1 : ws.length ≤ 1048576) :
    Calls Tryd.prog 22 #[.agg #[.slice h.a0 vs.length h.c0, .slice h.a1 ws.length h.c1], .int .i64 x] w fun e w' => (∃ ha hc, e = .returned (.tuple #[.slice ha (loR vs ws x).length hc, .int .i64 (loC vs ws x)]) ∧ w'.ownsRow w.heap.size 55 4 (.slice ha (loR vs ws x).length hc) (loR vs ws x).length (cellsK (loR vs ws x)) ∧ ∀ b, ob ha = some b → w.heap.size ≤ b) ∧ Below w.heap.size w w' := by
  have R : Hid (RdL w h vs ws) := rd
  obtain ⟨i0, hi, hz0, hz1, hz2⟩ := info_parts infoK
  obtain ⟨V, hV⟩ : ∃ V, w.alloc (.cells #[.slice h.a0 vs.length h.c0, .slice h.a1 ws.length h.c1] 34) = V := ⟨_, rfl⟩
  have B : Hid (Below w.heap.size w V) := by unfold Hid; rw [← hV]; exact (Below.refl _ _).alloc (Nat.le_refl _) _
  have X : Hid (Box V w.heap.size 34 #[.slice h.a0 vs.length h.c0, .slice h.a1 ws.length h.c1]) := by unfold Hid; rw [← hV]; exact Box.new _ _ _
  obtain ⟨x0, x1⟩ := box2 X.out
  obtain ⟨p, hp⟩ : ∃ p, okLs vs ws = p := ⟨_, rfl⟩
  obtain ⟨q, hq⟩ : ∃ q, inB x 1 60 = q := ⟨_, rfl⟩
  have C : Hid (Calls Tryd.prog 16 #[.agg #[.slice h.a0 vs.length h.c0, .slice h.a1 ws.length h.c1]] V fun e w' => e = .returned (.bool p) ∧ Below V.heap.size V w') := by unfold Hid; rw [← hp]; exact c_specLO h vs ws V (R.out.below B.out) f0 f1
  have CX : Hid (∀ W : World, Calls Tryd.prog 39 #[.int .i64 x, .int .i64 1, .int .i64 60] W fun e w' => e = .returned (.bool q) ∧ w' = W) := fun W => by rw [← hq]; exact c_in x 1 60 W
  clear rd
  go_enter Tryd.func22, Tryd.ntmps22
  go_wp2_with fail
  refine C.out.mono ?_
  rintro e w1 ⟨rfl, hb⟩
  have B1 : Hid (Below w.heap.size w w1) := B.out.trans (hb.mono B.out.size)
  have X1 : Hid (Box w1 w.heap.size 34 #[.slice h.a0 vs.length h.c0, .slice h.a1 ws.length h.c1]) := X.out.belowS hb
  clear hb x0 x1 C X B hV
  have EMP : Hid ((w1.alloc (.cells #[] 55)).ownsRow w.heap.size 55 4 (.slice (some ⟨w1.heap.size, 0, none⟩) 0 0) 0 (cellsK [])) := World.ownsRow_lit w1 #[] 0 B1.out.size (Nat.zero_le _) rfl
  have BE : Hid (Below w.heap.size w (w1.alloc (.cells #[] 55))) := B1.out.alloc B1.out.size _
  cases p
  · have E : Hid (_ ∧ _) := lo1 (x := x) hp
    clear hp hq
    go_wp2
    go_ret2
    exact ⟨⟨some ⟨w1.heap.size, 0, none⟩, 0, by rw [E.out.1, E.out.2]; rfl, by rw [E.out.1]; exact EMP.out, fun b hb => by cases hb; exact B1.out.size⟩, BE.out⟩
  go_wp2_with fail
  refine (CX.out w1).mono ?_
  rintro e wq ⟨rfl, hwq⟩; rw [hwq]; clear hwq
  cases q
  · have E : Hid (_ ∧ _) := lo4 hp hq
    clear hp hq
    go_wp2
    go_ret2
    exact ⟨⟨some ⟨w1.heap.size, 0, none⟩, 0, by rw [E.out.1, E.out.2]; rfl, by rw [E.out.1]; exact EMP.out, fun b hb => by cases hb; exact B1.out.size⟩, BE.out⟩
  have E : Hid (_ ∧ _) := lo0 hp hq
  clear hp hq
  obtain ⟨V2, hV2⟩ : ∃ W, w1.alloc (.cells #[] 55) = W := ⟨_, rfl⟩
  rw [hV2] at EMP BE
  have X2 : Hid (Box V2 w.heap.size 34 #[.slice h.a0 vs.length h.c0, .slice h.a1 ws.length h.c1]) := by unfold Hid; rw [← hV2]; exact X1.out.alloc _
  have X1L : Hid (w.heap.size < w1.heap.size) := X1.out.lt
  clear X1 B1 CX
  go_wp2
  go_loopw [6, 7] (fun s i wr => ∃ (k : Nat) (av : Option Addr) (cv : Nat), k ≤ vs.length ∧ i = .int .i64 (k : Int) ∧ s = .slice av ((vs.take k).filter (pOwn x)).length cv ∧ Hid (wr.ownsRow w.heap.size 55 4 (.slice av ((vs.take k).filter (pOwn x)).length cv) ((vs.take k).filter (pOwn x)).length (cellsK ((vs.take k).filter (pOwn x)))) ∧ Hid (Box wr w.heap.size 34 #[.slice h.a0 vs.length h.c0, .slice h.a1 ws.length h.c1]) ∧ Hid (∀ b, ob av = some b → w.heap.size < b) ∧ Hid (Below w.heap.size w wr)) (fun _ i _ => vs.length - (intOf i).toNat)
  case atStart => exact ⟨0, some ⟨w1.heap.size, 0, none⟩, 0, by omega, rfl, rfl, EMP, X2, fun b hb => by cases hb; exact X1L.out, BE⟩
  case round =>
    obtain ⟨k, av, cv, hk, rfl, rfl, HO, HX, HL, HB⟩ := hrel
    obtain ⟨x0, x1⟩ := box2 HX.out
    by_cases hlt : k < vs.length
    · obtain ⟨hl, hcs⟩ := R.out.1
      obtain ⟨ba, off, ha, hbl, hc⟩ := hcs (by omega)
      rw [ha] at x0
      clear ha
      have hst := filt_stepK (pOwn x) vs k hlt
      have hfl : ((vs.take k).filter (pOwn x)).length ≤ k := Nat.le_trans (List.length_filter_le _ _) (by simp; omega)
      obtain ⟨⟨vx, vb, vr, vm⟩, hv⟩ : ∃ v, v = vs.getD k dK := ⟨_, rfl⟩
      obtain ⟨d0, d1, d2, d3⟩ := hc k hlt
      rw [← hv] at d0 d1 d2 d3 hst
      have e0 : wr.cell? ⟨ba, off + k * 4, none⟩ = some (.int .i64 vx) := by rw [HB.out.cell (p := ⟨ba, off + k * 4, none⟩) hbl, d0]
      have e1 : wr.cell? ⟨ba, off + k * 4 + 1, none⟩ = some (.int .i64 vb) := by rw [HB.out.cell (p := ⟨ba, off + k * 4 + 1, none⟩) hbl, d1]
      have e2 : wr.cell? ⟨ba, off + k * 4 + 2, none⟩ = some (.int .i64 vr) := by rw [HB.out.cell (p := ⟨ba, off + k * 4 + 2, none⟩) hbl, d2]
      have e3 : wr.cell? ⟨ba, off + k * 4 + 3, none⟩ = some (.int .i64 vm) := by rw [HB.out.cell (p := ⟨ba, off + k * 4 + 3, none⟩) hbl, d3]
      have HST : Hid ((vs.take (k + 1)).filter (pOwn x) = (vs.take k).filter (pOwn x) ++ (if pOwn x ⟨vx, vb, vr, vm⟩ = true then [⟨vx, vb, vr, vm⟩] else [])) := hst
      clear hc hcs d0 d1 d2 d3 hv hst
      by_cases ex : vx = x
      case neg =>
        have cx : (vx == x) = false := by simpa using ex
        have HF : Hid ((vs.take (k + 1)).filter (pOwn x) = (vs.take k).filter (pOwn x)) := by unfold Hid; rw [HST.out]; simp [pOwn, ex]
        clear ex HST
        go_wp2
        go_roundw
        case rel => exact ⟨k + 1, av, cv, by omega, by go_num, by rw [HF.out], by unfold Hid; rw [HF.out]; exact HO.out, HX, HL, HB⟩
        case measure => simp [intOf]; omega
      have cx : (vx == x) = true := by simpa using ex
      have HF : Hid ((vs.take (k + 1)).filter (pOwn x) = (vs.take k).filter (pOwn x) ++ [⟨vx, vb, vr, vm⟩]) := by unfold Hid; rw [HST.out]; simp [pOwn, ex]
      obtain ⟨w4, hw4⟩ : ∃ W, wr.alloc (.cells #[.int .i64 vx, .int .i64 vb, .int .i64 vr, .int .i64 vm] 55) = W := ⟨_, rfl⟩
      have hb4 : Below wr.heap.size wr w4 := by rw [← hw4]; exact (Below.refl _ _).alloc (Nat.le_refl _) _
      have K4 : Hid (Box w4 wr.heap.size 55 #[.int .i64 vx, .int .i64 vb, .int .i64 vr, .int .i64 vm]) := by unfold Hid; rw [← hw4]; exact Box.new _ _ _
      have HO4 : Hid (w4.ownsRow w.heap.size 55 4 (.slice av ((vs.take k).filter (pOwn x)).length cv) ((vs.take k).filter (pOwn x)).length (cellsK ((vs.take k).filter (pOwn x)))) := own_below HO.out hb4
      have X4 : Hid (Box w4 w.heap.size 34 #[.slice h.a0 vs.length h.c0, .slice h.a1 ws.length h.c1]) := HX.out.belowS hb4
      have B4 : Hid (Below w.heap.size w w4) := HB.out.trans (hb4.mono HB.out.size)
      have l4 : wr.heap.size < w4.heap.size := K4.out.lt
      have lw : w.heap.size < wr.heap.size := HX.out.lt
      clear hb4 HO ex HST HX HB
      go_wp2_with (at_builtin; refine app_any _ rfl (.tmp 32) (.tmp 38) 31 rfl w.heap.size 55 i0 (.agg #[.int .i64 0, .int .i64 0, .int .i64 0, .int .i64 0]) 4 32 Tryd.underlying31 hi hz0 hz1 hz2 rfl (by omega) (.slice av ((vs.take k).filter (pOwn x)).length cv) ((vs.take k).filter (pOwn x)).length (cellsK ((vs.take k).filter (pOwn x))) rfl HO4.out (some ⟨wr.heap.size, 0, none⟩) 1 1 (cK ⟨vx, vb, vr, vm⟩) rfl (fun h => by cases h) rfl (box_newsK K4.out) (cK_one _) (by unfold maxLen; omega) (by omega) B4.out.size ?_; intro a5 c5 w5 hown5 hgr5 hat5)
      have hown5' : w5.ownsRow w.heap.size 55 4 (.slice a5 (((vs.take k).filter (pOwn x)).length + 1) c5) (((vs.take k).filter (pOwn x)).length + 1) (cellsK ((vs.take k).filter (pOwn x) ++ [⟨vx, vb, vr, vm⟩])) := by rw [cellsK_append]; exact hown5
      have H5 : Hid (w5.ownsRow w.heap.size 55 4 (.slice a5 ((vs.take (k + 1)).filter (pOwn x)).length c5) ((vs.take (k + 1)).filter (pOwn x)).length (cellsK ((vs.take (k + 1)).filter (pOwn x)))) := by unfold Hid; rw [HF.out, List.length_append, List.length_singleton]; exact hown5'
      have B5 : Hid (Below w.heap.size w w5) := B4.out.grown hgr5 B4.out.size (fun j hj => by rw [ob_slice] at hj; exact Nat.le_of_lt (HL.out j hj))
      have X5 : Hid (Box w5 w.heap.size 34 #[.slice h.a0 vs.length h.c0, .slice h.a1 ws.length h.c1]) := X4.out.grown hgr5 (fun hj => by rw [ob_slice] at hj; exact absurd (HL.out _ hj) (Nat.lt_irrefl _))
      have L5 : Hid (∀ b, ob a5 = some b → w.heap.size < b) := fun b hb => by
        rcases hat5 b hb with h1 | h1
        · rw [ob_slice] at h1; exact HL.out b h1
        · omega
      clear hown5 hown5' hgr5 hat5 HO4 B4 X4 e0 e1 e2 e3
      go_wp2
      go_roundw
      case rel => exact ⟨k + 1, a5, c5, by omega, by go_num, by rw [HF.out, List.length_append, List.length_singleton], H5, X5, L5, B5⟩
      case measure => simp [intOf]; omega
    · have e : k = vs.length := by omega
      rw [e, List.take_length] at HO ⊢
      have cge : ¬ (k : Int) < (vs.length : Int) := by omega
      clear e
      go_wp2
      go_ret2
      exact ⟨⟨av, cv, by rw [E.out.1, E.out.2]; rfl, by rw [E.out.1]; exact HO.out, fun b hb => Nat.le_of_lt (HL.out b hb)⟩, HB.out⟩

end Go.Proofs.YtmjacoocnkcilaaDoor
