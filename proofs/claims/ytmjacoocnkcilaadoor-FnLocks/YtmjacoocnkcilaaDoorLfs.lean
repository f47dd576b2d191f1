/-
  FreeLocks: the specification's walk.
-/
import Derived.Test.YtmjacoocnkcilaaDoorLfr
import Derived.Deep.RegionWith
import Derived.Deep.AppendLies
import Derived.Deep.RegionLawGrows
namespace Go.Proofs.YtmjacoocnkcilaaDoor
open Go Go.RowKit
attribute [local go_sem ↓] Go.wp_at_zero Go.wp_at_succ

set_option maxRecDepth 100000 in
set_option maxHeartbeats 8000000 in
theorem c_l06Free (h : HL) (vs : List LK) (ws : List WK) (x : Int) (w : World) (rd : RdL w h vs ws) (f0 : vs.length ≤ 1048576) (f1 : ws.length ≤ 1048576) :
    Calls Tryd.prog 61 #[.agg #[.slice h.a0 vs.length h.c0, .slice h.a1 ws.length h.c1], .int .i64 x] w fun e w' => (∃ h' : HL, e = .returned (.agg #[.slice h'.a0 (vs.filter (pNk x)).length h'.c0, .slice h'.a1 (ws.filter (pNw x)).length h'.c1]) ∧ OwnL w' w.heap.size h' (vs.filter (pNk x)) (ws.filter (pNw x))) ∧ Below w.heap.size w w' := by
  have R : Hid (RdL w h vs ws) := rd
  clear rd
  obtain ⟨i0, hi, hz0, hz1, hz2⟩ := info_parts infoK
  obtain ⟨j0, hj, jz0, jz1, jz2⟩ := info_parts infoW
  obtain ⟨V0, hV0⟩ : ∃ V, w.alloc (.cells #[.slice h.a0 vs.length h.c0, .slice h.a1 ws.length h.c1] 34) = V := ⟨_, rfl⟩
  obtain ⟨V1, hV1⟩ : ∃ V, V0.alloc (.cells #[.slice none 0 0, .slice none 0 0] 34) = V := ⟨_, rfl⟩
  obtain ⟨V2, hV2⟩ : ∃ V, V1.alloc (.cells #[] 55) = V := ⟨_, rfl⟩
  obtain ⟨V3, hV3⟩ : ∃ V, V2.alloc (.cells #[] 59) = V := ⟨_, rfl⟩
  obtain ⟨V4, hV4⟩ : ∃ V, V3.alloc (.cells #[.slice (some ⟨V1.heap.size, 0, none⟩) 0 0, .slice (some ⟨V2.heap.size, 0, none⟩) 0 0] 34) = V := ⟨_, rfl⟩
  have b0 : Below w.heap.size w V0 := by rw [← hV0]; exact (Below.refl _ _).alloc (Nat.le_refl _) _
  have b1 : Below V0.heap.size V0 V1 := by rw [← hV1]; exact (Below.refl _ _).alloc (Nat.le_refl _) _
  have b2 : Below V1.heap.size V1 V2 := by rw [← hV2]; exact (Below.refl _ _).alloc (Nat.le_refl _) _
  have b3 : Below V2.heap.size V2 V3 := by rw [← hV3]; exact (Below.refl _ _).alloc (Nat.le_refl _) _
  have b4 : Below V3.heap.size V3 V4 := by rw [← hV4]; exact (Below.refl _ _).alloc (Nat.le_refl _) _
  have l0 : w.heap.size < V0.heap.size := by rw [← hV0]; simp
  have l1 : V0.heap.size < V1.heap.size := by rw [← hV1]; simp
  have l2 : V1.heap.size < V2.heap.size := by rw [← hV2]; simp
  have l3 : V2.heap.size < V3.heap.size := by rw [← hV3]; simp
  have b14 : Below V1.heap.size V1 V4 := (b2.trans (b3.mono b2.size)).trans (b4.mono (Nat.le_trans b2.size b3.size))
  have b04 : Below V0.heap.size V0 V4 := b1.trans (b14.mono b1.size)
  have B : Hid (Below w.heap.size w V4) := b0.trans (b04.mono b0.size)
  have X : Hid (Box V4 w.heap.size 34 #[.slice h.a0 vs.length h.c0, .slice h.a1 ws.length h.c1]) := (show Box V0 w.heap.size 34 #[.slice h.a0 vs.length h.c0, .slice h.a1 ws.length h.c1] by rw [← hV0]; exact Box.new _ _ _).belowS b04
  have Y : Hid (Box V4 V0.heap.size 34 #[.slice none 0 0, .slice none 0 0]) := (show Box V1 V0.heap.size 34 #[.slice none 0 0, .slice none 0 0] by rw [← hV1]; exact Box.new _ _ _).belowS b14
  have G : Hid (Box V4 V3.heap.size 34 #[.slice (some ⟨V1.heap.size, 0, none⟩) 0 0, .slice (some ⟨V2.heap.size, 0, none⟩) 0 0]) := by unfold Hid; rw [← hV4]; exact Box.new _ _ _
  have OK : Hid (V4.ownsRow w.heap.size 55 4 (.slice (some ⟨V1.heap.size, 0, none⟩) 0 0) 0 (cellsK [])) := own_below (own_below (show V2.ownsRow w.heap.size 55 4 (.slice (some ⟨V1.heap.size, 0, none⟩) 0 0) 0 (cellsK []) by rw [← hV2]; exact World.ownsRow_lit V1 #[] 0 (by omega) (Nat.zero_le _) rfl) b3) b4
  have OW : Hid (V4.ownsRow w.heap.size 59 2 (.slice (some ⟨V2.heap.size, 0, none⟩) 0 0) 0 (cellsW [])) := own_below (show V3.ownsRow w.heap.size 59 2 (.slice (some ⟨V2.heap.size, 0, none⟩) 0 0) 0 (cellsW []) by rw [← hV3]; exact World.ownsRow_lit V2 #[] 0 (by omega) (Nat.zero_le _) rfl) b4
  obtain ⟨g5, hg5⟩ : ∃ g, V3.heap.size = g := ⟨_, rfl⟩
  obtain ⟨e1, he1⟩ : ∃ g, V2.heap.size = g := ⟨_, rfl⟩
  rw [hg5, he1] at G
  rw [he1] at OW
  have l3' : e1 < g5 := by omega
  have l2' : V1.heap.size < e1 := by omega
  rw [he1] at hV4
  have OBG0 : Hid (∀ b, (some e1 : Option Nat) = some b → b < g5 ∨ g5 + 1 ≤ b) := fun b hb => by have h1 : e1 = b := Option.some.inj hb; omega
  clear b0 b1 b2 b3 b4 b14 b04
  go_enter Tryd.func61, Tryd.ntmps61
  go_wp2
  go_loopw [6] (fun i wr => ∃ (k : Nat) (av : Option Addr) (cv : Nat), k ≤ vs.length ∧ i = .int .i64 (k : Int) ∧ Hid (wr.ownsRow w.heap.size 55 4 (.slice av ((vs.take k).filter (pNk x)).length cv) ((vs.take k).filter (pNk x)).length (cellsK ((vs.take k).filter (pNk x)))) ∧ Hid (wr.ownsRow w.heap.size 59 2 (.slice (some ⟨e1, 0, none⟩) 0 0) 0 (cellsW [])) ∧ Hid (Box wr w.heap.size 34 #[.slice h.a0 vs.length h.c0, .slice h.a1 ws.length h.c1]) ∧ Hid (Box wr V0.heap.size 34 #[.slice none 0 0, .slice none 0 0]) ∧ Hid (Box wr g5 34 #[.slice av ((vs.take k).filter (pNk x)).length cv, .slice (some ⟨e1, 0, none⟩) 0 0]) ∧ Hid (∀ b, ob av = some b → V0.heap.size < b ∧ b ≠ g5 ∧ some e1 ≠ some b) ∧ Hid (Below w.heap.size w wr)) (fun i _ => vs.length - (intOf i).toNat)
  case atStart => exact ⟨0, some ⟨V1.heap.size, 0, none⟩, 0, by omega, rfl, OK, OW, X, Y, G, fun b hb => by have hb1 : V1.heap.size = b := Option.some.inj hb; exact ⟨by omega, by omega, fun h => by have h1 : e1 = b := Option.some.inj h; omega⟩, B⟩
  case round =>
    obtain ⟨k, av, cv, hk, rfl, HO, HQ, HX, HY, HG, HL, HB⟩ := hrel
    obtain ⟨x0, x1⟩ := box2 HX.out
    by_cases hlt : k < vs.length
    · obtain ⟨hl, hcs⟩ := R.out.1
      obtain ⟨ba, off, ha, hbl, hc⟩ := hcs (by omega)
      rw [ha] at x0
      clear ha
      have hst := filt_stepK (pNk x) vs k hlt
      have hfl : ((vs.take k).filter (pNk x)).length ≤ k := Nat.le_trans (List.length_filter_le _ _) (by simp; omega)
      obtain ⟨⟨vx, vb, vr, vm⟩, hv⟩ : ∃ v, v = vs.getD k dK := ⟨_, rfl⟩
      obtain ⟨d0, d1, d2, d3⟩ := hc k hlt
      rw [← hv] at d0 d1 d2 d3 hst
      have e0c : wr.cell? ⟨ba, off + k * 4, none⟩ = some (.int .i64 vx) := by rw [HB.out.cell (p := ⟨ba, off + k * 4, none⟩) hbl, d0]
      have e1c : wr.cell? ⟨ba, off + k * 4 + 1, none⟩ = some (.int .i64 vb) := by rw [HB.out.cell (p := ⟨ba, off + k * 4 + 1, none⟩) hbl, d1]
      have e2c : wr.cell? ⟨ba, off + k * 4 + 2, none⟩ = some (.int .i64 vr) := by rw [HB.out.cell (p := ⟨ba, off + k * 4 + 2, none⟩) hbl, d2]
      have e3c : wr.cell? ⟨ba, off + k * 4 + 3, none⟩ = some (.int .i64 vm) := by rw [HB.out.cell (p := ⟨ba, off + k * 4 + 3, none⟩) hbl, d3]
      have HST : Hid (((vs.take (k + 1)).filter (pNk x)) = ((vs.take k).filter (pNk x)) ++ (if (pNk x) ⟨vx, vb, vr, vm⟩ = true then [⟨vx, vb, vr, vm⟩] else [])) := hst
      clear hc hcs d0 d1 d2 d3 hv hst
      by_cases ex : vx = x
      case pos =>
        have cx : (vx != x) = false := by simpa using ex
        have HF : Hid (((vs.take (k + 1)).filter (pNk x)) = ((vs.take k).filter (pNk x))) := by unfold Hid; rw [HST.out]; simp [pNk, ex]
        clear ex HST
        go_wp2
        go_roundw
        case rel => exact ⟨k + 1, av, cv, by omega, by go_num, by unfold Hid; rw [HF.out]; exact HO.out, HQ, HX, HY, by unfold Hid; rw [HF.out]; exact HG.out, HL, HB⟩
        case measure => simp [intOf]; omega
      have cx : (vx != x) = true := by simpa using ex
      have HF : Hid (((vs.take (k + 1)).filter (pNk x)) = ((vs.take k).filter (pNk x)) ++ [⟨vx, vb, vr, vm⟩]) := by unfold Hid; rw [HST.out]; simp [pNk, ex]
      clear ex HST
      obtain ⟨w4, hw4⟩ : ∃ W, wr.alloc (.cells #[.int .i64 vx, .int .i64 vb, .int .i64 vr, .int .i64 vm] 55) = W := ⟨_, rfl⟩
      have hb4 : Below wr.heap.size wr w4 := by rw [← hw4]; exact (Below.refl _ _).alloc (Nat.le_refl _) _
      have K4 : Hid (Box w4 wr.heap.size 55 #[.int .i64 vx, .int .i64 vb, .int .i64 vr, .int .i64 vm]) := by unfold Hid; rw [← hw4]; exact Box.new _ _ _
      have HO4 : Hid (w4.ownsRow w.heap.size 55 4 (.slice av ((vs.take k).filter (pNk x)).length cv) ((vs.take k).filter (pNk x)).length (cellsK ((vs.take k).filter (pNk x)))) := own_below HO.out hb4
      have HQ4 : Hid (w4.ownsRow w.heap.size 59 2 (.slice (some ⟨e1, 0, none⟩) 0 0) 0 (cellsW [])) := own_below HQ.out hb4
      have X4 : Hid (Box w4 w.heap.size 34 #[.slice h.a0 vs.length h.c0, .slice h.a1 ws.length h.c1]) := HX.out.belowS hb4
      have Y4 : Hid (Box w4 V0.heap.size 34 #[.slice none 0 0, .slice none 0 0]) := HY.out.belowS hb4
      have G4 : Hid (Box w4 g5 34 #[.slice av ((vs.take k).filter (pNk x)).length cv, .slice (some ⟨e1, 0, none⟩) 0 0]) := HG.out.belowS hb4
      have B4 : Hid (Below w.heap.size w w4) := HB.out.trans (hb4.mono HB.out.size)
      have l4 : wr.heap.size < w4.heap.size := K4.out.lt
      have lY : V0.heap.size < wr.heap.size := HY.out.lt
      have lG : g5 < wr.heap.size := HG.out.lt
      have ob4 : Hid (∀ b, some e1 = some b → b < wr.heap.size) := fun b hb => (own_rng HQ.out b hb).2
      obtain ⟨g0, g1⟩ := box2 HG.out
      obtain ⟨u0, u1⟩ := box2 G4.out
      clear hb4 HO HQ HX HY HG HB
      go_wp2_with fail
      go_region_law (refine step_append_lies _ (by rfl) (.tmp 27) (.tmp 33) 31 (by rfl) w.heap.size 55 i0 (.agg #[.int .i64 0, .int .i64 0, .int .i64 0, .int .i64 0]) 4 32 Tryd.underlying31 hi hz0 hz1 hz2 rfl (by omega) (.slice av ((vs.take k).filter (pNk x)).length cv) ((vs.take k).filter (pNk x)).length (cellsK ((vs.take k).filter (pNk x))) (by rfl) (by exact HO4.out) ⟨wr.heap.size, 0, none⟩ 1 1 (cK ⟨vx, vb, vr, vm⟩) (by rfl) (by rfl) (by exact box_newsK K4.out _ rfl) (cK_one _) (by omega) (by unfold maxLen; omega) (by omega) (by exact B4.out.size) _ rfl ?_; intro g2 c2 w5 o2 hg2 ha2 hl2; have G5 : Box w5 g5 34 #[.slice av ((vs.take k).filter (pNk x)).length cv, .slice (some ⟨e1, 0, none⟩) 0 0] := Box.grown (show Box w4.drew g5 34 #[.slice av ((vs.take k).filter (pNk x)).length cv, .slice (some ⟨e1, 0, none⟩) 0 0] from G4.out) hg2 (fun e => by rw [ob_slice] at e; exact (HL.out g5 e).2.1 rfl); have th5 := G5.thaw 0; obtain ⟨z0, z1⟩ := box2 G5)
      all_goals
        rw [ob_slice] at hg2 ha2
        have X5 := Box.grown (show Box w4.drew w.heap.size 34 #[.slice h.a0 vs.length h.c0, .slice h.a1 ws.length h.c1] from X4.out) hg2 (fun e => by have := (HL.out _ e).1; omega)
        have Y5 := Box.grown (show Box w4.drew V0.heap.size 34 #[.slice none 0 0, .slice none 0 0] from Y4.out) hg2 (fun e => by have := (HL.out _ e).1; omega)
        have Q5 := own_same (w' := w5) (show w4.drew.ownsRow w.heap.size 59 2 (.slice (some ⟨e1, 0, none⟩) 0 0) 0 (cellsW []) from HQ4.out) (fun b hb => hg2.block b (by rw [ob_slice] at hb; have := ob4.out b hb; show b < w4.heap.size; omega) (fun e => by rw [ob_slice] at hb; exact (HL.out b e.symm).2.2 hb))
        have B5 : Below w.heap.size w w5 := (Below.drew B4.out).grown hg2 B4.out.size (fun j hj => by have := (HL.out j hj).1; omega)
        have lg2 : V0.heap.size < g2 ∧ g2 ≠ g5 ∧ some e1 ≠ some g2 := by
          rcases ha2 with e | e
          · exact HL.out g2 e
          · have e' : g2 = w4.heap.size := e
            exact ⟨by omega, by omega, fun h => by have := ob4.out g2 h; omega⟩
        have o2' : w5.ownsRow w.heap.size 55 4 (.slice (some ⟨g2, 0, none⟩) ((vs.take (k + 1)).filter (pNk x)).length c2) ((vs.take (k + 1)).filter (pNk x)).length (cellsK ((vs.take (k + 1)).filter (pNk x))) := by
          rw [HF.out, List.length_append, List.length_singleton, cellsK_append]; exact o2
        rw [show ((vs.take k).filter (pNk x)).length + 1 = ((vs.take (k + 1)).filter (pNk x)).length by rw [HF.out]; simp] at *
        have i6 : Inn g5 (g5 + 1) w5 (w5.setCell ⟨g5, 0, none⟩ (.slice (some ⟨g2, 0, none⟩) ((vs.take (k + 1)).filter (pNk x)).length c2)) := set_inn _
        have O6 : Hid ((w5.setCell ⟨g5, 0, none⟩ (.slice (some ⟨g2, 0, none⟩) ((vs.take (k + 1)).filter (pNk x)).length c2)).ownsRow w.heap.size 55 4 (.slice (some ⟨g2, 0, none⟩) ((vs.take (k + 1)).filter (pNk x)).length c2) ((vs.take (k + 1)).filter (pNk x)).length (cellsK ((vs.take (k + 1)).filter (pNk x)))) := own_inn o2' i6 (fun b hb => by have e' : g2 = b := Option.some.inj hb; omega)
        have Q6 : Hid ((w5.setCell ⟨g5, 0, none⟩ (.slice (some ⟨g2, 0, none⟩) ((vs.take (k + 1)).filter (pNk x)).length c2)).ownsRow w.heap.size 59 2 (.slice (some ⟨e1, 0, none⟩) 0 0) 0 (cellsW [])) := own_inn Q5 i6 (fun b hb => by have := OBG0.out b hb; omega)
        have X6 : Hid (Box (w5.setCell ⟨g5, 0, none⟩ (.slice (some ⟨g2, 0, none⟩) ((vs.take (k + 1)).filter (pNk x)).length c2)) w.heap.size 34 #[.slice h.a0 vs.length h.c0, .slice h.a1 ws.length h.c1]) := X5.innO i6 (.inl (by omega))
        have Y6 : Hid (Box (w5.setCell ⟨g5, 0, none⟩ (.slice (some ⟨g2, 0, none⟩) ((vs.take (k + 1)).filter (pNk x)).length c2)) V0.heap.size 34 #[.slice none 0 0, .slice none 0 0]) := Y5.innO i6 (.inl (by omega))
        have G6 : Hid (Box (w5.setCell ⟨g5, 0, none⟩ (.slice (some ⟨g2, 0, none⟩) ((vs.take (k + 1)).filter (pNk x)).length c2)) g5 34 #[.slice (some ⟨g2, 0, none⟩) ((vs.take (k + 1)).filter (pNk x)).length c2, .slice (some ⟨e1, 0, none⟩) 0 0]) := G5.set 0 _
        have B6 : Hid (Below w.heap.size w (w5.setCell ⟨g5, 0, none⟩ (.slice (some ⟨g2, 0, none⟩) ((vs.take (k + 1)).filter (pNk x)).length c2))) := B5.setCell (by show w.heap.size ≤ g5; omega) _
        have L6 : Hid (∀ b, ob (some (⟨g2, 0, none⟩ : Addr)) = some b → V0.heap.size < b ∧ b ≠ g5 ∧ some e1 ≠ some b) := fun b hb => by have e' : g2 = b := Option.some.inj hb; rw [← e']; exact lg2
        clear X5 Y5 Q5 B5 lg2 o2 o2' i6 hg2 ha2 hl2 G5 HO4 HQ4 X4 Y4 G4 B4 K4
        go_wp2
        go_roundw
        case rel => exact ⟨k + 1, some ⟨g2, 0, none⟩, c2, by omega, by go_num, O6, Q6, X6, Y6, G6, L6, B6⟩
        case measure => simp [intOf]; omega
    · have e : k = vs.length := by omega
      rw [e, List.take_length] at HO HG
      have cge : ¬ (k : Int) < (vs.length : Int) := by omega
      clear e
      obtain ⟨ka, hka⟩ : ∃ a, av = a := ⟨_, rfl⟩
      obtain ⟨kc, hkc⟩ : ∃ a, cv = a := ⟨_, rfl⟩
      rw [hka, hkc] at HO HG
      rw [hka] at HL
      have HO1 := HO
      have HQ1 := HQ
      have HX1 := HX
      have HY1 := HY
      have HG1 := HG
      have HB1 := HB
      have HL1 : Hid (∀ b, ob ka = some b → V0.heap.size < b ∧ b ≠ g5 ∧ (some e1 : Option Nat) ≠ some b) := HL
      have HKA : Hid (∀ b, ob ka = some b → V0.heap.size < b) := fun b hb => (HL1.out b hb).1
      have OBG : Hid (∀ b, ob ka = some b → b < g5 ∨ g5 + 1 ≤ b) := fun b hb => by have := (HL1.out b hb).2.1; omega
      clear HO HQ HX HY HG HB HL hka hkc
      go_wp2
      clear x0 x1
      go_loopw [7] (fun i wr => ∃ (k : Nat) (av : Option Addr) (cv : Nat), k ≤ ws.length ∧ i = .int .i64 (k : Int) ∧ Hid (wr.ownsRow w.heap.size 59 2 (.slice av ((ws.take k).filter (pNw x)).length cv) ((ws.take k).filter (pNw x)).length (cellsW ((ws.take k).filter (pNw x)))) ∧ Hid (wr.ownsRow w.heap.size 55 4 (.slice ka (vs.filter (pNk x)).length kc) (vs.filter (pNk x)).length (cellsK (vs.filter (pNk x)))) ∧ Hid (Box wr w.heap.size 34 #[.slice h.a0 vs.length h.c0, .slice h.a1 ws.length h.c1]) ∧ Hid (Box wr V0.heap.size 34 #[.slice none 0 0, .slice none 0 0]) ∧ Hid (Box wr g5 34 #[.slice ka (vs.filter (pNk x)).length kc, .slice av ((ws.take k).filter (pNw x)).length cv]) ∧ Hid (∀ b, ob av = some b → V0.heap.size < b ∧ b ≠ g5 ∧ ob ka ≠ some b) ∧ Hid (Below w.heap.size w wr)) (fun i _ => ws.length - (intOf i).toNat)
      case atStart => exact ⟨0, some ⟨e1, 0, none⟩, 0, by omega, rfl, HQ1, HO1, HX1, HY1, HG1, fun b hb => by have hb1 : e1 = b := Option.some.inj hb; subst hb1; exact ⟨by omega, by omega, fun h => (HL1.out _ h).2.2 rfl⟩, HB1⟩
      case round =>
        obtain ⟨k, av, cv, hk, rfl, HO, HQ, HX, HY, HG, HL, HB⟩ := hrel
        obtain ⟨x0, x1⟩ := box2 HX.out
        by_cases hlt : k < ws.length
        · obtain ⟨hl, hcs⟩ := R.out.2
          obtain ⟨ba, off, ha, hbl, hc⟩ := hcs (by omega)
          rw [ha] at x1
          clear ha
          have hst := filt_stepW (pNw x) ws k hlt
          have hfl : ((ws.take k).filter (pNw x)).length ≤ k := Nat.le_trans (List.length_filter_le _ _) (by simp; omega)
          obtain ⟨⟨vx, vf⟩, hv⟩ : ∃ v, v = ws.getD k dW := ⟨_, rfl⟩
          obtain ⟨d0, d1⟩ := hc k hlt
          rw [← hv] at d0 d1 hst
          have e0c : wr.cell? ⟨ba, off + k * 2, none⟩ = some (.int .i64 vx) := by rw [HB.out.cell (p := ⟨ba, off + k * 2, none⟩) hbl, d0]
          have e1c : wr.cell? ⟨ba, off + k * 2 + 1, none⟩ = some (.int .i64 vf) := by rw [HB.out.cell (p := ⟨ba, off + k * 2 + 1, none⟩) hbl, d1]
          have HST : Hid (((ws.take (k + 1)).filter (pNw x)) = ((ws.take k).filter (pNw x)) ++ (if (pNw x) ⟨vx, vf⟩ = true then [⟨vx, vf⟩] else [])) := hst
          clear hc hcs d0 d1 hv hst
          by_cases ex : vx = x
          case pos =>
            have cx : (vx != x) = false := by simpa using ex
            have HF : Hid (((ws.take (k + 1)).filter (pNw x)) = ((ws.take k).filter (pNw x))) := by unfold Hid; rw [HST.out]; simp [pNw, ex]
            clear ex HST
            go_wp2
            go_roundw
            case rel => exact ⟨k + 1, av, cv, by omega, by go_num, by unfold Hid; rw [HF.out]; exact HO.out, HQ, HX, HY, by unfold Hid; rw [HF.out]; exact HG.out, HL, HB⟩
            case measure => simp [intOf]; omega
          have cx : (vx != x) = true := by simpa using ex
          by_cases ef : vf = x
          case pos =>
            have cf : (vf != x) = false := by simpa using ef
            have HF : Hid (((ws.take (k + 1)).filter (pNw x)) = ((ws.take k).filter (pNw x))) := by unfold Hid; rw [HST.out]; simp [pNw, ef]
            clear ex ef HST
            go_wp2
            go_roundw
            case rel => exact ⟨k + 1, av, cv, by omega, by go_num, by unfold Hid; rw [HF.out]; exact HO.out, HQ, HX, HY, by unfold Hid; rw [HF.out]; exact HG.out, HL, HB⟩
            case measure => simp [intOf]; omega
          have cf : (vf != x) = true := by simpa using ef
          have HF : Hid (((ws.take (k + 1)).filter (pNw x)) = ((ws.take k).filter (pNw x)) ++ [⟨vx, vf⟩]) := by unfold Hid; rw [HST.out]; simp [pNw, ex, ef]
          clear ex ef HST
          obtain ⟨w4, hw4⟩ : ∃ W, wr.alloc (.cells #[.int .i64 vx, .int .i64 vf] 59) = W := ⟨_, rfl⟩
          have hb4 : Below wr.heap.size wr w4 := by rw [← hw4]; exact (Below.refl _ _).alloc (Nat.le_refl _) _
          have K4 : Hid (Box w4 wr.heap.size 59 #[.int .i64 vx, .int .i64 vf]) := by unfold Hid; rw [← hw4]; exact Box.new _ _ _
          have HO4 : Hid (w4.ownsRow w.heap.size 59 2 (.slice av ((ws.take k).filter (pNw x)).length cv) ((ws.take k).filter (pNw x)).length (cellsW ((ws.take k).filter (pNw x)))) := own_below HO.out hb4
          have HQ4 : Hid (w4.ownsRow w.heap.size 55 4 (.slice ka (vs.filter (pNk x)).length kc) (vs.filter (pNk x)).length (cellsK (vs.filter (pNk x)))) := own_below HQ.out hb4
          have X4 : Hid (Box w4 w.heap.size 34 #[.slice h.a0 vs.length h.c0, .slice h.a1 ws.length h.c1]) := HX.out.belowS hb4
          have Y4 : Hid (Box w4 V0.heap.size 34 #[.slice none 0 0, .slice none 0 0]) := HY.out.belowS hb4
          have G4 : Hid (Box w4 g5 34 #[.slice ka (vs.filter (pNk x)).length kc, .slice av ((ws.take k).filter (pNw x)).length cv]) := HG.out.belowS hb4
          have B4 : Hid (Below w.heap.size w w4) := HB.out.trans (hb4.mono HB.out.size)
          have l4 : wr.heap.size < w4.heap.size := K4.out.lt
          have lY : V0.heap.size < wr.heap.size := HY.out.lt
          have lG : g5 < wr.heap.size := HG.out.lt
          have ob4 : Hid (∀ b, ob ka = some b → b < wr.heap.size) := fun b hb => (own_rng HQ.out b hb).2
          obtain ⟨g0, g1⟩ := box2 HG.out
          obtain ⟨u0, u1⟩ := box2 G4.out
          clear hb4 HO HQ HX HY HG HB
          go_wp2_with fail
          go_region_law (refine step_append_lies _ (by rfl) (.tmp 62) (.tmp 68) 32 (by rfl) w.heap.size 59 j0 (.agg #[.int .i64 0, .int .i64 0]) 2 16 Tryd.underlying32 hj jz0 jz1 jz2 rfl (by omega) (.slice av ((ws.take k).filter (pNw x)).length cv) ((ws.take k).filter (pNw x)).length (cellsW ((ws.take k).filter (pNw x))) (by rfl) (by exact HO4.out) ⟨wr.heap.size, 0, none⟩ 1 1 (cW ⟨vx, vf⟩) (by rfl) (by rfl) (by exact box_newsW K4.out _ rfl) (cW_one _) (by omega) (by unfold maxLen; omega) (by omega) (by exact B4.out.size) _ rfl ?_; intro g2 c2 w5 o2 hg2 ha2 hl2; have G5 : Box w5 g5 34 #[.slice ka (vs.filter (pNk x)).length kc, .slice av ((ws.take k).filter (pNw x)).length cv] := Box.grown (show Box w4.drew g5 34 #[.slice ka (vs.filter (pNk x)).length kc, .slice av ((ws.take k).filter (pNw x)).length cv] from G4.out) hg2 (fun e => by rw [ob_slice] at e; exact (HL.out g5 e).2.1 rfl); have th5 := G5.thaw 1; obtain ⟨z0, z1⟩ := box2 G5)
          all_goals
            rw [ob_slice] at hg2 ha2
            have X5 := Box.grown (show Box w4.drew w.heap.size 34 #[.slice h.a0 vs.length h.c0, .slice h.a1 ws.length h.c1] from X4.out) hg2 (fun e => by have := (HL.out _ e).1; omega)
            have Y5 := Box.grown (show Box w4.drew V0.heap.size 34 #[.slice none 0 0, .slice none 0 0] from Y4.out) hg2 (fun e => by have := (HL.out _ e).1; omega)
            have Q5 := own_same (w' := w5) (show w4.drew.ownsRow w.heap.size 55 4 (.slice ka (vs.filter (pNk x)).length kc) (vs.filter (pNk x)).length (cellsK (vs.filter (pNk x))) from HQ4.out) (fun b hb => hg2.block b (by rw [ob_slice] at hb; have := ob4.out b hb; show b < w4.heap.size; omega) (fun e => by rw [ob_slice] at hb; exact (HL.out b e.symm).2.2 hb))
            have B5 : Below w.heap.size w w5 := (Below.drew B4.out).grown hg2 B4.out.size (fun j hj => by have := (HL.out j hj).1; omega)
            have lg2 : V0.heap.size < g2 ∧ g2 ≠ g5 ∧ ob ka ≠ some g2 := by
              rcases ha2 with e | e
              · exact HL.out g2 e
              · have e' : g2 = w4.heap.size := e
                exact ⟨by omega, by omega, fun h => by have := ob4.out g2 h; omega⟩
            have o2' : w5.ownsRow w.heap.size 59 2 (.slice (some ⟨g2, 0, none⟩) ((ws.take (k + 1)).filter (pNw x)).length c2) ((ws.take (k + 1)).filter (pNw x)).length (cellsW ((ws.take (k + 1)).filter (pNw x))) := by
              rw [HF.out, List.length_append, List.length_singleton, cellsW_append]; exact o2
            rw [show ((ws.take k).filter (pNw x)).length + 1 = ((ws.take (k + 1)).filter (pNw x)).length by rw [HF.out]; simp] at *
            have i6 : Inn g5 (g5 + 1) w5 (w5.setCell ⟨g5, 1, none⟩ (.slice (some ⟨g2, 0, none⟩) ((ws.take (k + 1)).filter (pNw x)).length c2)) := set_inn _
            have O6 : Hid ((w5.setCell ⟨g5, 1, none⟩ (.slice (some ⟨g2, 0, none⟩) ((ws.take (k + 1)).filter (pNw x)).length c2)).ownsRow w.heap.size 59 2 (.slice (some ⟨g2, 0, none⟩) ((ws.take (k + 1)).filter (pNw x)).length c2) ((ws.take (k + 1)).filter (pNw x)).length (cellsW ((ws.take (k + 1)).filter (pNw x)))) := own_inn o2' i6 (fun b hb => by have e' : g2 = b := Option.some.inj hb; omega)
            have Q6 : Hid ((w5.setCell ⟨g5, 1, none⟩ (.slice (some ⟨g2, 0, none⟩) ((ws.take (k + 1)).filter (pNw x)).length c2)).ownsRow w.heap.size 55 4 (.slice ka (vs.filter (pNk x)).length kc) (vs.filter (pNk x)).length (cellsK (vs.filter (pNk x)))) := own_inn Q5 i6 (fun b hb => by have := OBG.out b hb; omega)
            have X6 : Hid (Box (w5.setCell ⟨g5, 1, none⟩ (.slice (some ⟨g2, 0, none⟩) ((ws.take (k + 1)).filter (pNw x)).length c2)) w.heap.size 34 #[.slice h.a0 vs.length h.c0, .slice h.a1 ws.length h.c1]) := X5.innO i6 (.inl (by omega))
            have Y6 : Hid (Box (w5.setCell ⟨g5, 1, none⟩ (.slice (some ⟨g2, 0, none⟩) ((ws.take (k + 1)).filter (pNw x)).length c2)) V0.heap.size 34 #[.slice none 0 0, .slice none 0 0]) := Y5.innO i6 (.inl (by omega))
            have G6 : Hid (Box (w5.setCell ⟨g5, 1, none⟩ (.slice (some ⟨g2, 0, none⟩) ((ws.take (k + 1)).filter (pNw x)).length c2)) g5 34 #[.slice ka (vs.filter (pNk x)).length kc, .slice (some ⟨g2, 0, none⟩) ((ws.take (k + 1)).filter (pNw x)).length c2]) := G5.set 1 _
            have B6 : Hid (Below w.heap.size w (w5.setCell ⟨g5, 1, none⟩ (.slice (some ⟨g2, 0, none⟩) ((ws.take (k + 1)).filter (pNw x)).length c2))) := B5.setCell (by show w.heap.size ≤ g5; omega) _
            have L6 : Hid (∀ b, ob (some (⟨g2, 0, none⟩ : Addr)) = some b → V0.heap.size < b ∧ b ≠ g5 ∧ ob ka ≠ some b) := fun b hb => by have e' : g2 = b := Option.some.inj hb; rw [← e']; exact lg2
            clear X5 Y5 Q5 B5 lg2 o2 o2' i6 hg2 ha2 hl2 G5 HO4 HQ4 X4 Y4 G4 B4 K4
            go_wp2
            go_roundw
            case rel => exact ⟨k + 1, some ⟨g2, 0, none⟩, c2, by omega, by go_num, O6, Q6, X6, Y6, G6, L6, B6⟩
            case measure => simp [intOf]; omega
        · have e : k = ws.length := by omega
          rw [e, List.take_length] at HO HG
          have cge : ¬ (k : Int) < (ws.length : Int) := by omega
          clear e
          have ra := own_rng HQ.out
          have rb := own_rng HO.out
          obtain ⟨g0, g1⟩ := box2 HG.out
          obtain ⟨y0, y1⟩ := box2 HY.out
          obtain ⟨t0, t1⟩ := thaw2 HY.out
          have Y6 := put2_box HY.out (.slice ka (vs.filter (pNk x)).length kc) (.slice av (ws.filter (pNw x)).length cv)
          have O6 : Hid (OwnL (put2 wr V0.heap.size (.slice ka (vs.filter (pNk x)).length kc) (.slice av (ws.filter (pNw x)).length cv)) w.heap.size ⟨ka, kc, av, cv⟩ (vs.filter (pNk x)) (ws.filter (pNw x))) := ⟨own_inn HQ.out (put2_inn _ _) (fun b hb => by have := HKA.out b hb; omega), own_inn HO.out (put2_inn _ _) (fun b hb => by have := HL.out b hb; omega), fun b hb hb' => (HL.out b hb').2.2 hb⟩
          have B6 := put2_below HB.out (show w.heap.size ≤ V0.heap.size by omega) (.slice ka (vs.filter (pNk x)).length kc) (.slice av (ws.filter (pNw x)).length cv)
          clear ra rb
          go_wp2
          exact retL Tryd.results61 rfl rfl Y6 ⟨⟨⟨ka, kc, av, cv⟩, rfl, O6.out⟩, B6⟩

end Go.Proofs.YtmjacoocnkcilaaDoor
