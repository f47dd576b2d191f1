/-
  The waits but one's own: the specification's walk.
-/
import Derived.Test.YtmjacoocnkcilaaDoorLce
import Derived.Deep.RegionWith
namespace Go.Proofs.YtmjacoocnkcilaaDoor
open Go Go.RowKit
attribute [local go_sem ↓] Go.wp_at_zero Go.wp_at_succ

def pCal (x : Int) (v : WK) : Bool := decide (v.x ≠ x)
theorem calm_eq (ws : List WK) (x : Int) : ws.filter (pCal x) = callW ws x := rfl
set_option maxRecDepth 100000 in
set_option maxHeartbeats 8000000 in
theorem c_l06Calm (h : HL) (vs : List LK) (ws : List WK) (x : Int) (w : World) (rd : RdL w h vs ws) (f1 : ws.length ≤ 1048576) :
    Calls Tryd.prog 90 #[.agg #[.slice h.a0 vs.length h.c0, .slice h.a1 ws.length h.c1], .int .i64 x] w fun e w' => (∃ wa wc, e = .returned (.agg #[.slice h.a0 vs.length h.c0, .slice wa (callW ws x).length wc]) ∧ w'.ownsRow w.heap.size 59 2 (.slice wa (callW ws x).length wc) (callW ws x).length (cellsW (callW ws x))) ∧ Below w.heap.size w w' := by
  have R : Hid (RdW w h.a1 ws.length ws) := rd.2
  obtain ⟨i0, hi, hz0, hz1, hz2⟩ := info_parts infoW
  obtain ⟨V0, hV0⟩ : ∃ V, w.alloc (.cells #[.slice h.a0 vs.length h.c0, .slice h.a1 ws.length h.c1] 34) = V := ⟨_, rfl⟩
  obtain ⟨V, hV⟩ : ∃ V, V0.alloc (.cells #[.slice none 0 0, .slice none 0 0] 34) = V := ⟨_, rfl⟩
  obtain ⟨V2, hV2⟩ : ∃ Q, V.alloc (.cells #[] 59) = Q := ⟨_, rfl⟩
  have hb0 : Below w.heap.size w V0 := by rw [← hV0]; exact (Below.refl _ _).alloc (Nat.le_refl _) _
  have hb1 : Below V0.heap.size V0 V := by rw [← hV]; exact (Below.refl _ _).alloc (Nat.le_refl _) _
  have hb2 : Below V.heap.size V V2 := by rw [← hV2]; exact (Below.refl _ _).alloc (Nat.le_refl _) _
  have BV : Hid (Below w.heap.size w V) := hb0.trans (hb1.mono hb0.size)
  have XV : Hid (Box V w.heap.size 34 #[.slice h.a0 vs.length h.c0, .slice h.a1 ws.length h.c1]) := (show Box V0 w.heap.size 34 #[.slice h.a0 vs.length h.c0, .slice h.a1 ws.length h.c1] by rw [← hV0]; exact Box.new _ _ _).belowS hb1
  have YV : Hid (Box V V0.heap.size 34 #[.slice none 0 0, .slice none 0 0]) := by unfold Hid; rw [← hV]; exact Box.new _ _ _
  have l0 : w.heap.size < V0.heap.size := by rw [← hV0]; simp
  have l1 : V0.heap.size < V.heap.size := YV.out.lt
  have BE : Hid (Below w.heap.size w V2) := BV.out.trans (hb2.mono BV.out.size)
  have X2 : Hid (Box V2 w.heap.size 34 #[.slice h.a0 vs.length h.c0, .slice h.a1 ws.length h.c1]) := XV.out.belowS hb2
  have Y2 : Hid (Box V2 V0.heap.size 34 #[.slice none 0 0, .slice none 0 0]) := YV.out.belowS hb2
  have EMP : Hid (V2.ownsRow w.heap.size 59 2 (.slice (some ⟨V.heap.size, 0, none⟩) 0 0) 0 (cellsW [])) := by unfold Hid; rw [← hV2]; exact World.ownsRow_lit V #[] 0 BV.out.size (Nat.zero_le _) rfl
  obtain ⟨x0, x1⟩ := box2 XV.out
  clear rd hb0 hb1 hb2
  go_enter Tryd.func90, Tryd.ntmps90
  go_wp2
  clear x0 x1
  go_loopw [5, 6] (fun s i wr => ∃ (k : Nat) (av : Option Addr) (cv : Nat), k ≤ ws.length ∧ i = .int .i64 (k : Int) ∧ s = .slice av ((ws.take k).filter (pCal x)).length cv ∧ Hid (wr.ownsRow w.heap.size 59 2 (.slice av ((ws.take k).filter (pCal x)).length cv) ((ws.take k).filter (pCal x)).length (cellsW ((ws.take k).filter (pCal x)))) ∧ Hid (Box wr w.heap.size 34 #[.slice h.a0 vs.length h.c0, .slice h.a1 ws.length h.c1]) ∧ Hid (Box wr V0.heap.size 34 #[.slice none 0 0, .slice none 0 0]) ∧ Hid (∀ b, ob av = some b → V0.heap.size < b) ∧ Hid (Below w.heap.size w wr)) (fun _ i _ => ws.length - (intOf i).toNat)
  case atStart => exact ⟨0, some ⟨V.heap.size, 0, none⟩, 0, by omega, rfl, rfl, EMP, X2, Y2, fun b hb => by cases hb; exact l1, BE⟩
  case round =>
    obtain ⟨k, av, cv, hk, rfl, rfl, HO, HX, HY, HL, HB⟩ := hrel
    obtain ⟨x0, x1⟩ := box2 HX.out
    by_cases hlt : k < ws.length
    · obtain ⟨hl, hcs⟩ := R.out
      obtain ⟨ba, off, ha, hbl, hc⟩ := hcs (by omega)
      rw [ha] at x1
      clear ha
      have hst := filt_stepW (pCal x) ws k hlt
      have hfl : ((ws.take k).filter (pCal x)).length ≤ k := Nat.le_trans (List.length_filter_le _ _) (by simp; omega)
      obtain ⟨⟨vx, vf⟩, hv⟩ : ∃ v, v = ws.getD k dW := ⟨_, rfl⟩
      obtain ⟨d0, d1⟩ := hc k hlt
      rw [← hv] at d0 d1 hst
      have e0 : wr.cell? ⟨ba, off + k * 2, none⟩ = some (.int .i64 vx) := by rw [HB.out.cell (p := ⟨ba, off + k * 2, none⟩) hbl, d0]
      have e1 : wr.cell? ⟨ba, off + k * 2 + 1, none⟩ = some (.int .i64 vf) := by rw [HB.out.cell (p := ⟨ba, off + k * 2 + 1, none⟩) hbl, d1]
      have HST : Hid (((ws.take (k + 1)).filter (pCal x)) = ((ws.take k).filter (pCal x)) ++ (if pCal x ⟨vx, vf⟩ = true then [⟨vx, vf⟩] else [])) := hst
      clear hc hcs d0 d1 hv hst
      by_cases ex : vx = x
      case pos =>
        have cx : (vx != x) = false := by simpa using ex
        have HF : Hid (((ws.take (k + 1)).filter (pCal x)) = ((ws.take k).filter (pCal x))) := by unfold Hid; rw [HST.out]; simp [pCal, ex]
        clear ex HST
        go_wp2
        go_roundw
        case rel => exact ⟨k + 1, av, cv, by omega, by go_num, by rw [HF.out], by unfold Hid; rw [HF.out]; exact HO.out, HX, HY, HL, HB⟩
        case measure => simp [intOf]; omega
      have cx : (vx != x) = true := by simpa using ex
      have HF : Hid (((ws.take (k + 1)).filter (pCal x)) = ((ws.take k).filter (pCal x)) ++ [⟨vx, vf⟩]) := by unfold Hid; rw [HST.out]; simp [pCal, ex]
      obtain ⟨w4, hw4⟩ : ∃ W, wr.alloc (.cells #[.int .i64 vx, .int .i64 vf] 59) = W := ⟨_, rfl⟩
      have hb4 : Below wr.heap.size wr w4 := by rw [← hw4]; exact (Below.refl _ _).alloc (Nat.le_refl _) _
      have K4 : Hid (Box w4 wr.heap.size 59 #[.int .i64 vx, .int .i64 vf]) := by unfold Hid; rw [← hw4]; exact Box.new _ _ _
      have HO4 : Hid (w4.ownsRow w.heap.size 59 2 (.slice av ((ws.take k).filter (pCal x)).length cv) ((ws.take k).filter (pCal x)).length (cellsW ((ws.take k).filter (pCal x)))) := own_below HO.out hb4
      have X4 : Hid (Box w4 w.heap.size 34 #[.slice h.a0 vs.length h.c0, .slice h.a1 ws.length h.c1]) := HX.out.belowS hb4
      have Y4 : Hid (Box w4 V0.heap.size 34 #[.slice none 0 0, .slice none 0 0]) := HY.out.belowS hb4
      have B4 : Hid (Below w.heap.size w w4) := HB.out.trans (hb4.mono HB.out.size)
      have l4 : wr.heap.size < w4.heap.size := K4.out.lt
      have lw : V0.heap.size < wr.heap.size := HY.out.lt
      clear hb4 HO ex HST HX HY HB
      go_wp2_with (at_builtin; refine app_any _ rfl (.tmp 23) (.tmp 29) 32 rfl w.heap.size 59 i0 (.agg #[.int .i64 0, .int .i64 0]) 2 16 Tryd.underlying32 hi hz0 hz1 hz2 rfl (by omega) (.slice av ((ws.take k).filter (pCal x)).length cv) ((ws.take k).filter (pCal x)).length (cellsW ((ws.take k).filter (pCal x))) rfl HO4.out (some ⟨wr.heap.size, 0, none⟩) 1 1 (cW ⟨vx, vf⟩) rfl (fun h => by cases h) rfl (box_newsW K4.out) (cW_one _) (by unfold maxLen; omega) (by omega) B4.out.size ?_; intro a5 c5 w5 hown5 hgr5 hat5)
      have hown5' : w5.ownsRow w.heap.size 59 2 (.slice a5 (((ws.take k).filter (pCal x)).length + 1) c5) (((ws.take k).filter (pCal x)).length + 1) (cellsW (((ws.take k).filter (pCal x)) ++ [⟨vx, vf⟩])) := by rw [cellsW_append]; exact hown5
      have H5 : Hid (w5.ownsRow w.heap.size 59 2 (.slice a5 ((ws.take (k + 1)).filter (pCal x)).length c5) ((ws.take (k + 1)).filter (pCal x)).length (cellsW ((ws.take (k + 1)).filter (pCal x)))) := by unfold Hid; rw [HF.out, List.length_append, List.length_singleton]; exact hown5'
      rw [ob_slice] at hgr5 hat5
      have B5 : Hid (Below w.heap.size w w5) := B4.out.grown hgr5 B4.out.size (fun j hj => by have := HL.out j hj; omega)
      have X5 : Hid (Box w5 w.heap.size 34 #[.slice h.a0 vs.length h.c0, .slice h.a1 ws.length h.c1]) := X4.out.grown hgr5 (fun hj => by have := HL.out _ hj; omega)
      have Y5 : Hid (Box w5 V0.heap.size 34 #[.slice none 0 0, .slice none 0 0]) := Y4.out.grown hgr5 (fun hj => by have := HL.out _ hj; omega)
      have L5 : Hid (∀ b, ob a5 = some b → V0.heap.size < b) := fun b hb => by
        rcases hat5 b hb with h1 | h1
        · exact HL.out b h1
        · omega
      clear hown5 hown5' hgr5 hat5 HO4 X4 Y4 B4 K4
      go_wp2
      go_roundw
      case rel => exact ⟨k + 1, a5, c5, by omega, by go_num, by rw [HF.out, List.length_append]; rfl, H5, X5, Y5, L5, B5⟩
      case measure => simp [intOf]; omega
    · have e : k = ws.length := by omega
      rw [e, List.take_length, calm_eq] at HO
      rw [e, List.take_length, calm_eq]
      have cge : ¬ ((ws.length : Nat) : Int) < (ws.length : Int) := by omega
      clear e hlt hk
      have X6 : Hid (Box (wr.setCell ⟨w.heap.size, 1, none⟩ (.slice av (callW ws x).length cv)) w.heap.size 34 #[.slice h.a0 vs.length h.c0, .slice av (callW ws x).length cv]) := HX.out.set 1 _
      obtain ⟨w6, hw6⟩ : ∃ Q, wr.setCell ⟨w.heap.size, 1, none⟩ (.slice av (callW ws x).length cv) = Q := ⟨_, rfl⟩
      have i6 : Inn w.heap.size (w.heap.size + 1) wr w6 := by rw [← hw6]; exact set_inn _
      rw [hw6] at X6
      have Y6 : Hid (Box w6 V0.heap.size 34 #[.slice none 0 0, .slice none 0 0]) := HY.out.innO i6 (.inr (by omega))
      have O6 : Hid (w6.ownsRow w.heap.size 59 2 (.slice av (callW ws x).length cv) (callW ws x).length (cellsW (callW ws x))) := own_inn HO.out i6 (fun b hb => .inr (by have := HL.out b hb; omega))
      have B6 : Hid (Below w.heap.size w w6) := HB.out.trans (i6.below (Nat.le_refl _) HB.out.size)
      obtain ⟨t0, t1⟩ := thaw2 HX.out
      obtain ⟨z0, z1⟩ := box2 X6.out
      obtain ⟨y0, y1⟩ := box2 Y6.out
      obtain ⟨u0, u1⟩ := thaw2 Y6.out
      clear i6 HO HX HY HB
      have O7 : Hid ((put2 w6 V0.heap.size (.slice h.a0 vs.length h.c0) (.slice av (callW ws x).length cv)).ownsRow w.heap.size 59 2 (.slice av (callW ws x).length cv) (callW ws x).length (cellsW (callW ws x))) := own_inn O6.out (put2_inn _ _) (fun b hb => .inr (by have := HL.out b hb; omega))
      have Y7 := put2_box Y6.out (.slice h.a0 vs.length h.c0) (.slice av (callW ws x).length cv)
      have B7 := put2_below B6.out (show w.heap.size ≤ V0.heap.size by omega) (.slice h.a0 vs.length h.c0) (.slice av (callW ws x).length cv)
      go_wp2
      exact retL Tryd.results90 rfl rfl Y7 ⟨⟨av, cv, rfl, O7.out⟩, B7⟩

end Go.Proofs.YtmjacoocnkcilaaDoor
