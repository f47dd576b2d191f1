/-
  The specification's l09Build, of no keys.
-/
import Derived.Test.YthnggpjgajkaeaaQl
namespace Go.Proofs.Ythnggpjgajkaeaa
open Go Go.RowKit
attribute [local go_sem ↓] Go.wp_at_zero Go.wp_at_succ

set_option maxRecDepth 100000 in
set_option maxHeartbeats 8000000 in
theorem c_build0n (w : World) :
    Calls Try.prog 50 #[.slice none 0 0] w fun e w' => AnsTr w [] e w' ∧ Below w.heap.size w w' := by
  obtain ⟨iN, hi, hz0, hz1, hz2⟩ := info_parts infoN
  have HI : Hid (Try.prog.info? 72 = some iN) := hi
  have HZ0 : Hid (iN.zero = some (Value.agg #[.bool false, .slice none 0 0, .slice none 0 0])) := hz0
  have HZ1 : Hid (iN.size = 3) := hz1
  have HZ2 : Hid (iN.bytes = 56) := hz2
  clear hi hz0 hz1 hz2
  obtain ⟨iS, hi, hz0, hz1, hz2⟩ := info_parts infoS1
  have JI : Hid (Try.prog.info? 9 = some iS) := hi
  have JZ0 : Hid (iS.zero = some (.string ⟨#[]⟩)) := hz0
  have JZ1 : Hid (iS.size = 1) := hz1
  have JZ2 : Hid (iS.bytes = 16) := hz2
  clear hi hz0 hz1 hz2
  obtain ⟨iI, hi, hz0, hz1, hz2⟩ := info_parts infoI1
  have II : Hid (Try.prog.info? 3 = some iI) := hi
  have IZ0 : Hid (iI.zero = some (.int .i64 0)) := hz0
  have IZ1 : Hid (iI.size = 1) := hz1
  have IZ2 : Hid (iI.bytes = 8) := hz2
  clear hi hz0 hz1 hz2
  obtain ⟨V0, hV0⟩ : ∃ Q, w.alloc (.cells #[.int .i64 0, .slice none 0 0] 27) = Q := ⟨_, rfl⟩
  have S0 : V0.heap.size = w.heap.size + 1 := by rw [← hV0]; simp
  have b0 : Below w.heap.size w V0 := by rw [← hV0]; exact (Below.refl _ _).alloc (Nat.le_refl _) _
  have x0 : Box V0 w.heap.size 27 #[.int .i64 0, .slice none 0 0] := by rw [← hV0]; exact Box.new _ _ _
  obtain ⟨V1, hV1⟩ : ∃ Q, V0.alloc (.cells #[] 72) = Q := ⟨_, rfl⟩
  have S1 : V1.heap.size = w.heap.size + 2 := by rw [← hV1]; simp [S0]
  have b1 : Below V0.heap.size V0 V1 := by rw [← hV1]; exact (Below.refl _ _).alloc (Nat.le_refl _) _
  have o1 : V1.ownsRow w.heap.size 72 3 (.slice (some ⟨w.heap.size + 1, 0, none⟩) 0 0) 0 [] := by rw [← hV1, ← S0]; exact own_emptyE b0.size 3
  obtain ⟨V2, hV2⟩ : ∃ Q, V1.alloc (.cells #[.int .i64 0, .slice (some ⟨w.heap.size + 1, 0, none⟩) 0 0] 27) = Q := ⟨_, rfl⟩
  have S2 : V2.heap.size = w.heap.size + 3 := by rw [← hV2]; simp [S1]
  have b2 : Below V1.heap.size V1 V2 := by rw [← hV2]; exact (Below.refl _ _).alloc (Nat.le_refl _) _
  have x2 : Box V2 (w.heap.size + 2) 27 #[.int .i64 0, .slice (some ⟨w.heap.size + 1, 0, none⟩) 0 0] := by rw [← hV2, ← S1]; exact Box.new _ _ _
  obtain ⟨V3, hV3⟩ : ∃ Q, V2.alloc (.cells #[] 3) = Q := ⟨_, rfl⟩
  have S3 : V3.heap.size = w.heap.size + 4 := by rw [← hV3]; simp [S2]
  have b3 : Below V2.heap.size V2 V3 := by rw [← hV3]; exact (Below.refl _ _).alloc (Nat.le_refl _) _
  have o3 : V3.ownsRow w.heap.size 3 1 (.slice (some ⟨w.heap.size + 3, 0, none⟩) 0 0) 0 [] := by rw [← hV3, ← S2]; exact own_emptyE (by omega)
  obtain ⟨V4, hV4⟩ : ∃ Q, V3.alloc (.cells #[] 9) = Q := ⟨_, rfl⟩
  have b4 : Below V3.heap.size V3 V4 := by rw [← hV4]; exact (Below.refl _ _).alloc (Nat.le_refl _) _
  have o4 : V4.ownsRow w.heap.size 9 1 (.slice (some ⟨w.heap.size + 4, 0, none⟩) 0 0) 0 [] := by rw [← hV4, ← S3]; exact own_emptyE (by omega)
  have S4 : V4.heap.size = w.heap.size + 5 := by rw [← hV4]; simp [S3]
  have BE4 : Below w.heap.size w V4 := b0.trans ((b1.trans ((b2.trans ((b3.trans (b4.mono b3.size)).mono b2.size)).mono b1.size)).mono b0.size)
  have BT : Hid (BuSt w V4 w.heap.size (w.heap.size + 2) 0 (some ⟨w.heap.size + 1, 0, none⟩) 0 [] (fun _ => w.heap.size) []) :=
    ⟨rfl, (x2.belowS b3).belowS b4, own_below (own_below (own_below o1 b2) b3) b4, ⟨fun i h => absurd h (by simp), fun i h => absurd h (by simp)⟩, Nat.le_refl _, BE4.size, rfl, (((x0.belowS b1).belowS b2).belowS b3).belowS b4, BE4⟩
  have L3 : Hid (LsT V4 w.heap.size 3 (some ⟨w.heap.size + 3, 0, none⟩) 0 0 [] []) := ⟨own_below o3 b4, fun v hv => by cases hv⟩
  have L4 : Hid (LsT V4 w.heap.size 9 (some ⟨w.heap.size + 4, 0, none⟩) 0 0 [] []) := ⟨o4, fun v hv => by cases hv⟩
  clear b0 b1 b2 b3 b4 x0 x2 o1 o3 o4 BE4
  go_enter Try.func50, Try.ntmps50
  go_wp2_with fail
  obtain ⟨tb, htb⟩ : ∃ tb, w.heap.size + 2 = tb := ⟨_, rfl⟩
  have TB : Hid (w.heap.size + 2 = tb) := htb
  rw [htb] at BT
  rw [htb]
  clear hV0 hV1 hV2 hV3 hV4 S0 S1 S2 S3 S4 htb
  go_loopw [4, 5, 6] (fun lv ls i wr => ∃ (vs : List TNode) (na : Option Addr) (nc : Nat) (bs : Nat → Nat) (la : Option Addr) (lc : Nat) (sa : Option Addr) (sc : Nat), i = .int .i64 0 ∧ lv = .slice la 0 lc ∧ ls = .slice sa 0 sc ∧ Hid (BuSt w wr w.heap.size tb 0 na nc vs bs []) ∧ Hid (LsT wr w.heap.size 3 la 0 lc [] vs) ∧ Hid (LsT wr w.heap.size 9 sa 0 sc [] vs)) (fun _ _ _ _ => 0)
  case atStart => exact ⟨[], _, 0, _, _, 0, _, 0, rfl, rfl, rfl, BT.out, L3.out, L4.out⟩
  case round =>
    obtain ⟨vs, na, nc, bs, la, lc, sa, sc, rfl, rfl, rfl, HB, HL, HS⟩ := hrel
    rename World => wr
    have CP : ∀ W, Calls Try.prog 78 #[.int .i64 0, .int .i64 4] W fun e w' => e = .returned (.int .i64 0) ∧ w' = W := fun W => c_part 0 4 W (by omega) (by omega) (by omega)
    have tb1 : wr.cell? ⟨tb, 1, none⟩ = some (.slice na 0 nc) := HB.out.box.cell 1
    have q5 : IntKind.i64.wrap 0 = 0 := by rw [IntKind.wrap_i64]; rfl
    have q6 : (0 : Int) ≤ (((0 : Nat)) : Int) := by omega
    clear BT L3 L4
    go_wp2_with fail
    refine (CP wr).mono ?_
    rintro e w' ⟨rfl, hq⟩; have hq' := hq.symm; subst hq'; clear hq CP
    go_wp2_with fail
    go_cut [] from 29 to 42 (fun W => ∃ (l2 : Option Addr) (lc2 : Nat) (v : TNode) (bs' : Nat → Nat), Hid (BuSt w W w.heap.size tb 1 l2 lc2 (vs ++ [v]) bs' [sayB ([], [])]) ∧ Hid (LsT W w.heap.size 3 la 0 lc [] (vs ++ [v])) ∧ Hid (LsT W w.heap.size 9 sa 0 sc [] (vs ++ [v])))
    case first =>
      obtain ⟨U1, hU1⟩ : ∃ U, wr.drew.alloc (.cells #[] 9) = U := ⟨_, rfl⟩
      obtain ⟨U2, hU2⟩ : ∃ U, wr.drew.alloc (.cells #[] 3) = U := ⟨_, rfl⟩
      have S1 : U1.heap.size = wr.heap.size + 1 := by rw [← hU1]; simp
      have S2 : U2.heap.size = wr.heap.size + 1 := by rw [← hU2]; simp
      obtain ⟨U12, hU12⟩ : ∃ U, U1.alloc (.cells #[] 3) = U := ⟨_, rfl⟩
      obtain ⟨U21, hU21⟩ : ∃ U, U2.alloc (.cells #[] 9) = U := ⟨_, rfl⟩
      have b1 : Below wr.heap.size wr U1 := by rw [← hU1]; exact (Below.refl _ _).drew.alloc (Nat.le_refl _) _
      have b2 : Below wr.heap.size wr U2 := by rw [← hU2]; exact (Below.refl _ _).drew.alloc (Nat.le_refl _) _
      have b12 : Below wr.heap.size wr U12 := by rw [← hU12]; exact b1.alloc b1.size _
      have b21 : Below wr.heap.size wr U21 := by rw [← hU21]; exact b2.alloc b2.size _
      have O1 : Hid (U1.ownsRow wr.heap.size 9 1 (.slice (some ⟨wr.heap.size, 0, none⟩) 0 0) 0 []) := by unfold Hid; rw [← hU1]; exact own_emptyE (V := wr.drew) (Nat.le_refl _)
      have O12 : Hid (U12.ownsRow wr.heap.size 9 1 (.slice (some ⟨wr.heap.size, 0, none⟩) 0 0) 0 []) := by unfold Hid; rw [← hU12]; exact own_below O1.out ((Below.refl _ _).alloc (Nat.le_refl _) _)
      have K12 : Hid (U12.ownsRow wr.heap.size 3 1 (.slice (some ⟨wr.heap.size + 1, 0, none⟩) 0 0) 0 []) := by unfold Hid; rw [← hU12, ← S1]; exact own_emptyE b1.size
      have K2 : Hid (U2.ownsRow wr.heap.size 3 1 (.slice (some ⟨wr.heap.size, 0, none⟩) 0 0) 0 []) := by unfold Hid; rw [← hU2]; exact own_emptyE (V := wr.drew) (Nat.le_refl _)
      have K21 : Hid (U21.ownsRow wr.heap.size 3 1 (.slice (some ⟨wr.heap.size, 0, none⟩) 0 0) 0 []) := by unfold Hid; rw [← hU21]; exact own_below K2.out ((Below.refl _ _).alloc (Nat.le_refl _) _)
      have O21 : Hid (U21.ownsRow wr.heap.size 9 1 (.slice (some ⟨wr.heap.size + 1, 0, none⟩) 0 0) 0 []) := by unfold Hid; rw [← hU21, ← S2]; exact own_emptyE b2.size
      have c1 : U1.cell? ⟨tb, 1, none⟩ = some (.slice na 0 nc) := far6 b1 tb1
      have c2 : U2.cell? ⟨tb, 1, none⟩ = some (.slice na 0 nc) := far6 b2 tb1
      have c12 : U12.cell? ⟨tb, 1, none⟩ = some (.slice na 0 nc) := far6 b12 tb1
      have c21 : U21.cell? ⟨tb, 1, none⟩ = some (.slice na 0 nc) := far6 b21 tb1
      have B1 : Hid (Below wr.heap.size wr U1) := b1
      have B12 : Hid (Below wr.heap.size wr U12) := b12
      have B21 : Hid (Below wr.heap.size wr U21) := b21
      clear b1 b2 b12 b21 K2
      go_region_law (first
        | (refine step_app_any _ (by rfl) (.tmp 31) (.tmp 37) 23 (by rfl) wr.heap.size 9 iS (.string ⟨#[]⟩) 1 16 Try.underlying23 JI.out JZ0.out JZ1.out JZ2.out rfl (by omega) (.slice (some ⟨wr.heap.size, 0, none⟩) 0 0) 0 [] (by rfl) O1.out none 0 0 [] (by rfl) (fun _ => ⟨rfl, rfl⟩) rfl (fun ad e i u hu => by simp at hu) (fun u hu => by simp at hu) (by unfold maxLen; omega) (by omega) B1.out.size ?_
           intro l5 c5 w5 ho5 hg5 hx5
           rw [ob_slice] at hg5
           have b5 : Below wr.heap.size wr w5 := B1.out.grown hg5 B1.out.size (fun g e => (own_blk O1.out g e).1)
           obtain ⟨Y, hY⟩ : ∃ Y, w5.alloc (.cells #[] 3) = Y := ⟨_, rfl⟩
           have b5Y : Below w5.heap.size w5 Y := by rw [← hY]; exact (Below.refl _ _).alloc (Nat.le_refl _) _
           have bY : Below wr.heap.size wr Y := b5.trans (b5Y.mono b5.size)
           have oK : Y.ownsRow wr.heap.size 3 1 (.slice (some ⟨w5.heap.size, 0, none⟩) 0 0) 0 [] := by rw [← hY]; exact own_emptyE b5.size
           have oS : Y.ownsRow wr.heap.size 9 1 (.slice l5 0 c5) 0 [] := own_below ho5 b5Y
           have c5Y : w5.cell? ⟨tb, 1, none⟩ = some (.slice na 0 nc) := far6 b5 tb1
           obtain ⟨v, hv⟩ : ∃ v : TNode, v = ⟨true, l5, 0, c5, [], some ⟨w5.heap.size, 0, none⟩, 0, 0, []⟩ := ⟨_, rfl⟩
           obtain ⟨VA, hVA⟩ : ∃ VA, Y.alloc (.cells #[.bool true, .slice l5 0 c5, .slice (some ⟨w5.heap.size, 0, none⟩) 0 0] 72) = VA := ⟨_, rfl⟩
           have bYA : Below Y.heap.size Y VA := by rw [← hVA]; exact (Below.refl _ _).alloc (Nat.le_refl _) _
           have XA : Hid (Box VA Y.heap.size 72 #[.bool v.lf, .slice v.ka v.kn v.kc, .slice v.ia v.im v.ic]) := by unfold Hid; rw [hv, ← hVA]; exact Box.new _ _ _
           have BA : Hid (Below wr.heap.size wr VA) := bY.trans (bYA.mono bY.size)
           have OV : Hid (OwnN1 VA wr.heap.size VA.heap.size v) := by
             rw [hv]
             have o1 := own_below oS bYA
             have o2 := own_below oK bYA
             exact ⟨o1, o2, own_blk o1, own_blk o2⟩
           have SVV : Hid (saysN v = (true, ([] : List ByteArray), ([] : List Int))) := by rw [hv]; rfl
           have OA : Hid (VA.ownsRow w.heap.size 72 3 (.slice na 0 nc) 0 (cellsN vs)) := (HB.out.below BA.out).row
           have SA : w.heap.size ≤ VA.heap.size := (HB.out.below BA.out).bel.size
           have cY : Y.cell? ⟨tb, 1, none⟩ = some (.slice na 0 nc) := far6 bY tb1
           have cA : VA.cell? ⟨tb, 1, none⟩ = some (.slice na 0 nc) := far6 BA.out tb1
           clear hv oK oS bYA bY ho5 hg5 hx5 b5)
        | (refine step_app_any _ (by rfl) (.tmp 31) (.tmp 37) 23 (by rfl) wr.heap.size 9 iS (.string ⟨#[]⟩) 1 16 Try.underlying23 JI.out JZ0.out JZ1.out JZ2.out rfl (by omega) (.slice (some ⟨wr.heap.size, 0, none⟩) 0 0) 0 [] (by rfl) O12.out none 0 0 [] (by rfl) (fun _ => ⟨rfl, rfl⟩) rfl (fun ad e i u hu => by simp at hu) (fun u hu => by simp at hu) (by unfold maxLen; omega) (by omega) B12.out.size ?_
           intro l5 c5 Y ho5 hg5 hx5
           rw [ob_slice] at hg5
           have b5 : Below wr.heap.size wr Y := B12.out.grown hg5 B12.out.size (fun g e => (own_blk O12.out g e).1)
           have bY := b5
           have oK : Y.ownsRow wr.heap.size 3 1 (.slice (some ⟨wr.heap.size + 1, 0, none⟩) 0 0) 0 [] := own_cross K12.out O12.out hg5 (by decide)
           have oS : Y.ownsRow wr.heap.size 9 1 (.slice l5 0 c5) 0 [] := ho5
           obtain ⟨v, hv⟩ : ∃ v : TNode, v = ⟨true, l5, 0, c5, [], some ⟨wr.heap.size + 1, 0, none⟩, 0, 0, []⟩ := ⟨_, rfl⟩
           obtain ⟨VA, hVA⟩ : ∃ VA, Y.alloc (.cells #[.bool true, .slice l5 0 c5, .slice (some ⟨wr.heap.size + 1, 0, none⟩) 0 0] 72) = VA := ⟨_, rfl⟩
           have bYA : Below Y.heap.size Y VA := by rw [← hVA]; exact (Below.refl _ _).alloc (Nat.le_refl _) _
           have XA : Hid (Box VA Y.heap.size 72 #[.bool v.lf, .slice v.ka v.kn v.kc, .slice v.ia v.im v.ic]) := by unfold Hid; rw [hv, ← hVA]; exact Box.new _ _ _
           have BA : Hid (Below wr.heap.size wr VA) := bY.trans (bYA.mono bY.size)
           have OV : Hid (OwnN1 VA wr.heap.size VA.heap.size v) := by
             rw [hv]
             have o1 := own_below oS bYA
             have o2 := own_below oK bYA
             exact ⟨o1, o2, own_blk o1, own_blk o2⟩
           have SVV : Hid (saysN v = (true, ([] : List ByteArray), ([] : List Int))) := by rw [hv]; rfl
           have OA : Hid (VA.ownsRow w.heap.size 72 3 (.slice na 0 nc) 0 (cellsN vs)) := (HB.out.below BA.out).row
           have SA : w.heap.size ≤ VA.heap.size := (HB.out.below BA.out).bel.size
           have cY : Y.cell? ⟨tb, 1, none⟩ = some (.slice na 0 nc) := far6 bY tb1
           have cA : VA.cell? ⟨tb, 1, none⟩ = some (.slice na 0 nc) := far6 BA.out tb1
           clear hv oK oS bYA bY ho5 hg5 hx5 b5)
        | (refine step_app_any _ (by rfl) (.tmp 31) (.tmp 37) 23 (by rfl) wr.heap.size 9 iS (.string ⟨#[]⟩) 1 16 Try.underlying23 JI.out JZ0.out JZ1.out JZ2.out rfl (by omega) (.slice (some ⟨wr.heap.size + 1, 0, none⟩) 0 0) 0 [] (by rfl) O21.out none 0 0 [] (by rfl) (fun _ => ⟨rfl, rfl⟩) rfl (fun ad e i u hu => by simp at hu) (fun u hu => by simp at hu) (by unfold maxLen; omega) (by omega) B21.out.size ?_
           intro l5 c5 Y ho5 hg5 hx5
           rw [ob_slice] at hg5
           have b5 : Below wr.heap.size wr Y := B21.out.grown hg5 B21.out.size (fun g e => (own_blk O21.out g e).1)
           have bY := b5
           have oK : Y.ownsRow wr.heap.size 3 1 (.slice (some ⟨wr.heap.size, 0, none⟩) 0 0) 0 [] := own_cross K21.out O21.out hg5 (by decide)
           have oS : Y.ownsRow wr.heap.size 9 1 (.slice l5 0 c5) 0 [] := ho5
           obtain ⟨v, hv⟩ : ∃ v : TNode, v = ⟨true, l5, 0, c5, [], some ⟨wr.heap.size, 0, none⟩, 0, 0, []⟩ := ⟨_, rfl⟩
           obtain ⟨VA, hVA⟩ : ∃ VA, Y.alloc (.cells #[.bool true, .slice l5 0 c5, .slice (some ⟨wr.heap.size, 0, none⟩) 0 0] 72) = VA := ⟨_, rfl⟩
           have bYA : Below Y.heap.size Y VA := by rw [← hVA]; exact (Below.refl _ _).alloc (Nat.le_refl _) _
           have XA : Hid (Box VA Y.heap.size 72 #[.bool v.lf, .slice v.ka v.kn v.kc, .slice v.ia v.im v.ic]) := by unfold Hid; rw [hv, ← hVA]; exact Box.new _ _ _
           have BA : Hid (Below wr.heap.size wr VA) := bY.trans (bYA.mono bY.size)
           have OV : Hid (OwnN1 VA wr.heap.size VA.heap.size v) := by
             rw [hv]
             have o1 := own_below oS bYA
             have o2 := own_below oK bYA
             exact ⟨o1, o2, own_blk o1, own_blk o2⟩
           have SVV : Hid (saysN v = (true, ([] : List ByteArray), ([] : List Int))) := by rw [hv]; rfl
           have OA : Hid (VA.ownsRow w.heap.size 72 3 (.slice na 0 nc) 0 (cellsN vs)) := (HB.out.below BA.out).row
           have SA : w.heap.size ≤ VA.heap.size := (HB.out.below BA.out).bel.size
           have cY : Y.cell? ⟨tb, 1, none⟩ = some (.slice na 0 nc) := far6 bY tb1
           have cA : VA.cell? ⟨tb, 1, none⟩ = some (.slice na 0 nc) := far6 BA.out tb1
           clear hv oK oS bYA bY ho5 hg5 hx5 b5)
        | (refine step_app_any _ (by rfl) (.tmp 30) (.tmp 41) 25 (by rfl) w.heap.size 72 iN (.agg #[.bool false, .slice none 0 0, .slice none 0 0]) 3 56 Try.underlying25 HI.out HZ0.out HZ1.out HZ2.out rfl (by omega) (.slice na 0 nc) 0 (cellsN vs) (by rfl) OA.out (some ⟨Y.heap.size, 0, none⟩) 1 1 (cN v) (by rfl) (fun ex => by cases ex) rfl (by exact newsV XA.out) (oneV v) (by unfold maxLen; omega) (by omega) SA ?_
           intro l2 lc2 w6 ho hgx hax
           rw [ob_slice] at hgx
           have HO6 : Hid (w6.ownsRow w.heap.size 72 3 (.slice l2 (0 + 1) lc2) (0 + 1) (cellsN (vs ++ [v]))) := by unfold Hid; rw [cellsN_app]; exact ho
           have HG6 : Hid (VA.grownBy w6 (ob na)) := hgx
           have X6 : Box w6 tb 27 #[.int .i64 0, .slice na 0 nc] := (HB.out.below BA.out).box.grown hgx (own_neT OA.out (HB.out.below BA.out).box)
           have c61 : w6.cell? ⟨tb, 1, none⟩ = some (.slice na 0 nc) := X6.cell 1
           have t61 := X6.thaw 1
           clear ho hgx hax X6))
      all_goals
        obtain ⟨W, hW⟩ : ∃ W, w6.setCell ⟨tb, 1, none⟩ (.slice l2 (0 + 1) lc2) = W := ⟨_, rfl⟩
        have HWW : Hid (w6.setCell ⟨tb, 1, none⟩ (.slice l2 (0 + 1) lc2) = W) := hW
        have NB : Hid (∃ bs' : Nat → Nat, BuSt w W w.heap.size tb (0 + 1) l2 lc2 (vs ++ [v]) bs' [sayB ([], [])]) := by
          obtain ⟨bs', q⟩ := HB.out.push BA.out OV.out (Nat.le_refl _) BA.out.size HG6.out HO6.out hW (Nat.le_refl _) (by have := TB.out; omega)
          rw [SVV.out] at q
          exact ⟨bs', q⟩
        have NL : Hid (LsT W w.heap.size 3 la 0 lc [] (vs ++ [v])) := HL.out.push HB.out BA.out OV.out HG6.out hW
        have NS : Hid (LsT W w.heap.size 9 sa 0 sc [] (vs ++ [v])) := HS.out.push HB.out BA.out OV.out HG6.out hW
        clear hW
        go_wp2
        go_meet
        case rel =>
          obtain ⟨bs', q⟩ := NB.out
          rw [HWW.out]
          exact ⟨l2, lc2, v, bs', q, NL.out, NS.out⟩
    case rest =>
      obtain ⟨l2, lc2, v, bs', HB2, HL2, HS2⟩ := hcut
      rename World => wc
      have tb2 : wc.cell? ⟨tb, 1, none⟩ = some (.slice l2 1 lc2) := HB2.out.box.cell 1
      obtain ⟨VA, hVA⟩ : ∃ VA, wc.alloc (.cells #[.int .i64 0] 3) = VA := ⟨_, rfl⟩
      have bA : Below wc.heap.size wc VA := by rw [← hVA]; exact (Below.refl _ _).alloc (Nat.le_refl _) _
      have XA : Box VA wc.heap.size 3 #[.int .i64 0] := by rw [← hVA]; exact Box.new _ _ _
      have NA : Hid (∀ ad, some (⟨wc.heap.size, 0, none⟩ : Addr) = some ad → ∀ k u, ([.int .i64 0] : List Value)[k]? = some u → VA.cell? (ad.add k) = some u) := by
        intro ad ea k u hu
        cases ea
        cases k with
        | zero => cases hu; exact XA.cell 0
        | succ k => simp at hu
      have HBA : Hid (BuSt w VA w.heap.size tb 1 l2 lc2 (vs ++ [v]) bs' [sayB ([], [])]) := HB2.out.below bA
      have HLA : Hid (LsT VA w.heap.size 3 la 0 lc [] (vs ++ [v])) := HL2.out.below bA
      have sA : w.heap.size ≤ VA.heap.size := HBA.out.bel.size
      clear bA XA HB2 HL2 HS2 HB HL HS tb1
      go_wp2_with (at_builtin; refine app_any _ rfl (.tmp 44) (.tmp 49) 70 rfl w.heap.size 3 iI (.int .i64 0) 1 8 Try.underlying70 II.out IZ0.out IZ1.out IZ2.out rfl (by omega) (.slice la 0 lc) 0 [] rfl HLA.out.own (some ⟨wc.heap.size, 0, none⟩) 1 1 [.int .i64 0] rfl (fun ex => by cases ex) rfl NA.out (by intro u hu; simp at hu; subst hu; rfl) (by unfold maxLen; omega) (by omega) sA ?_
                   intro l3 c3 w3 ho3 hg3 hx3
                   rw [ob_slice] at hg3
                   have B3 : Hid (BuSt w w3 w.heap.size tb 1 l2 lc2 (vs ++ [v]) bs' [sayB ([], [])]) := HBA.out.app HLA.out hg3 (Nat.le_refl _)
                   have O3 : Hid (w3.ownsRow w.heap.size 3 1 (.slice l3 1 c3) 1 [.int .i64 0]) := ho3
                   clear ho3 hg3 hx3)
      go_loopw [4] (fun lv wq => lv = .slice l3 1 c3 ∧ wq = w3) (fun _ _ => 0)
      case atStart => exact ⟨rfl, rfl⟩
      case round =>
        obtain ⟨rfl, hw⟩ := hrel
        subst hw
        rename World => wq
        rcases own_form O3.out with ⟨e, h0⟩ | ⟨lb, lcap, e, hlb, hlbs⟩
        · omega
        simp only [Value.slice.injEq] at e
        obtain ⟨rfl, _, rfl⟩ := e
        have k0 : wq.cell? ⟨lb, 0, none⟩ = some (.int .i64 0) := (O3.out.cellAt 0 (by omega)).trans rfl
        have z0 := B3.out.box.cell 0
        have z1 := B3.out.box.cell 1
        have zt := B3.out.box.thaw 0
        have HTW : tb ≠ w.heap.size := by have := TB.out; omega
        obtain ⟨W1, hW1⟩ : ∃ W1, wq.setCell ⟨tb, 0, none⟩ (.int .i64 0) = W1 := ⟨_, rfl⟩
        have XT : Hid (Box W1 tb 27 #[.int .i64 0, .slice l2 1 lc2]) := by unfold Hid; rw [← hW1]; exact B3.out.box.set 0 _
        have XR : Hid (Box W1 w.heap.size 27 #[.int .i64 0, .slice none 0 0]) := by unfold Hid; rw [← hW1]; exact B3.out.res.setOther _ _ HTW.symm
        have HT : Hid (OwnTr W1 w.heap.size l2 lc2 bs' (vs ++ [v])) := by unfold Hid; rw [← hW1]; exact (B3.out.tree (by omega) (Nat.le_refl _)).set B3.out.box
        have BW : Hid (Below w.heap.size w W1) := by unfold Hid; rw [← hW1]; exact B3.out.bel.setCell (by show w.heap.size ≤ tb; have := TB.out; omega) _
        have HVL : Hid ((vs ++ [v]).length = 1) := B3.out.len
        have HSY : Hid (TreeIs [] ((vs ++ [v]).map saysN)) := ⟨[], [], .one rfl, rfl, by rw [B3.out.is]; rfl⟩
        have y0 := XT.out.cell 0
        have y1 := XT.out.cell 1
        have r0 := XR.out.cell 0
        have r1 := XR.out.cell 1
        have t0 := XR.out.thaw 0
        have t1 := XR.out.thaw 1
        clear hlb hlbs
        go_wp2
        refine retT Try.results50 rfl rfl (put2_box XR.out _ _) ⟨⟨l2, lc2, vs ++ [v], bs', ?_, (HT.out.set XR.out).set (XR.out.set 0 _), HSY.out⟩, put2_below BW.out (Nat.le_refl _) _ _⟩
        rw [HVL.out]; rfl
set_option maxRecDepth 100000 in
set_option maxHeartbeats 8000000 in
theorem c_build0s (gb gc : Nat) (w : World) :
    Calls Try.prog 50 #[.slice (some ⟨gb, 0, none⟩) 0 gc] w fun e w' => AnsTr w [] e w' ∧ Below w.heap.size w w' := by
  obtain ⟨iN, hi, hz0, hz1, hz2⟩ := info_parts infoN
  have HI : Hid (Try.prog.info? 72 = some iN) := hi
  have HZ0 : Hid (iN.zero = some (Value.agg #[.bool false, .slice none 0 0, .slice none 0 0])) := hz0
  have HZ1 : Hid (iN.size = 3) := hz1
  have HZ2 : Hid (iN.bytes = 56) := hz2
  clear hi hz0 hz1 hz2
  obtain ⟨iS, hi, hz0, hz1, hz2⟩ := info_parts infoS1
  have JI : Hid (Try.prog.info? 9 = some iS) := hi
  have JZ0 : Hid (iS.zero = some (.string ⟨#[]⟩)) := hz0
  have JZ1 : Hid (iS.size = 1) := hz1
  have JZ2 : Hid (iS.bytes = 16) := hz2
  clear hi hz0 hz1 hz2
  obtain ⟨iI, hi, hz0, hz1, hz2⟩ := info_parts infoI1
  have II : Hid (Try.prog.info? 3 = some iI) := hi
  have IZ0 : Hid (iI.zero = some (.int .i64 0)) := hz0
  have IZ1 : Hid (iI.size = 1) := hz1
  have IZ2 : Hid (iI.bytes = 8) := hz2
  clear hi hz0 hz1 hz2
  obtain ⟨V0, hV0⟩ : ∃ Q, w.alloc (.cells #[.int .i64 0, .slice none 0 0] 27) = Q := ⟨_, rfl⟩
  have S0 : V0.heap.size = w.heap.size + 1 := by rw [← hV0]; simp
  have b0 : Below w.heap.size w V0 := by rw [← hV0]; exact (Below.refl _ _).alloc (Nat.le_refl _) _
  have x0 : Box V0 w.heap.size 27 #[.int .i64 0, .slice none 0 0] := by rw [← hV0]; exact Box.new _ _ _
  obtain ⟨V1, hV1⟩ : ∃ Q, V0.alloc (.cells #[] 72) = Q := ⟨_, rfl⟩
  have S1 : V1.heap.size = w.heap.size + 2 := by rw [← hV1]; simp [S0]
  have b1 : Below V0.heap.size V0 V1 := by rw [← hV1]; exact (Below.refl _ _).alloc (Nat.le_refl _) _
  have o1 : V1.ownsRow w.heap.size 72 3 (.slice (some ⟨w.heap.size + 1, 0, none⟩) 0 0) 0 [] := by rw [← hV1, ← S0]; exact own_emptyE b0.size 3
  obtain ⟨V2, hV2⟩ : ∃ Q, V1.alloc (.cells #[.int .i64 0, .slice (some ⟨w.heap.size + 1, 0, none⟩) 0 0] 27) = Q := ⟨_, rfl⟩
  have S2 : V2.heap.size = w.heap.size + 3 := by rw [← hV2]; simp [S1]
  have b2 : Below V1.heap.size V1 V2 := by rw [← hV2]; exact (Below.refl _ _).alloc (Nat.le_refl _) _
  have x2 : Box V2 (w.heap.size + 2) 27 #[.int .i64 0, .slice (some ⟨w.heap.size + 1, 0, none⟩) 0 0] := by rw [← hV2, ← S1]; exact Box.new _ _ _
  obtain ⟨V3, hV3⟩ : ∃ Q, V2.alloc (.cells #[] 3) = Q := ⟨_, rfl⟩
  have S3 : V3.heap.size = w.heap.size + 4 := by rw [← hV3]; simp [S2]
  have b3 : Below V2.heap.size V2 V3 := by rw [← hV3]; exact (Below.refl _ _).alloc (Nat.le_refl _) _
  have o3 : V3.ownsRow w.heap.size 3 1 (.slice (some ⟨w.heap.size + 3, 0, none⟩) 0 0) 0 [] := by rw [← hV3, ← S2]; exact own_emptyE (by omega)
  obtain ⟨V4, hV4⟩ : ∃ Q, V3.alloc (.cells #[] 9) = Q := ⟨_, rfl⟩
  have b4 : Below V3.heap.size V3 V4 := by rw [← hV4]; exact (Below.refl _ _).alloc (Nat.le_refl _) _
  have o4 : V4.ownsRow w.heap.size 9 1 (.slice (some ⟨w.heap.size + 4, 0, none⟩) 0 0) 0 [] := by rw [← hV4, ← S3]; exact own_emptyE (by omega)
  have S4 : V4.heap.size = w.heap.size + 5 := by rw [← hV4]; simp [S3]
  have BE4 : Below w.heap.size w V4 := b0.trans ((b1.trans ((b2.trans ((b3.trans (b4.mono b3.size)).mono b2.size)).mono b1.size)).mono b0.size)
  have BT : Hid (BuSt w V4 w.heap.size (w.heap.size + 2) 0 (some ⟨w.heap.size + 1, 0, none⟩) 0 [] (fun _ => w.heap.size) []) :=
    ⟨rfl, (x2.belowS b3).belowS b4, own_below (own_below (own_below o1 b2) b3) b4, ⟨fun i h => absurd h (by simp), fun i h => absurd h (by simp)⟩, Nat.le_refl _, BE4.size, rfl, (((x0.belowS b1).belowS b2).belowS b3).belowS b4, BE4⟩
  have L3 : Hid (LsT V4 w.heap.size 3 (some ⟨w.heap.size + 3, 0, none⟩) 0 0 [] []) := ⟨own_below o3 b4, fun v hv => by cases hv⟩
  have L4 : Hid (LsT V4 w.heap.size 9 (some ⟨w.heap.size + 4, 0, none⟩) 0 0 [] []) := ⟨o4, fun v hv => by cases hv⟩
  clear b0 b1 b2 b3 b4 x0 x2 o1 o3 o4 BE4
  go_enter Try.func50, Try.ntmps50
  go_wp2_with fail
  obtain ⟨tb, htb⟩ : ∃ tb, w.heap.size + 2 = tb := ⟨_, rfl⟩
  have TB : Hid (w.heap.size + 2 = tb) := htb
  rw [htb] at BT
  rw [htb]
  clear hV0 hV1 hV2 hV3 hV4 S0 S1 S2 S3 S4 htb
  go_loopw [4, 5, 6] (fun lv ls i wr => ∃ (vs : List TNode) (na : Option Addr) (nc : Nat) (bs : Nat → Nat) (la : Option Addr) (lc : Nat) (sa : Option Addr) (sc : Nat), i = .int .i64 0 ∧ lv = .slice la 0 lc ∧ ls = .slice sa 0 sc ∧ Hid (BuSt w wr w.heap.size tb 0 na nc vs bs []) ∧ Hid (LsT wr w.heap.size 3 la 0 lc [] vs) ∧ Hid (LsT wr w.heap.size 9 sa 0 sc [] vs)) (fun _ _ _ _ => 0)
  case atStart => exact ⟨[], _, 0, _, _, 0, _, 0, rfl, rfl, rfl, BT.out, L3.out, L4.out⟩
  case round =>
    obtain ⟨vs, na, nc, bs, la, lc, sa, sc, rfl, rfl, rfl, HB, HL, HS⟩ := hrel
    rename World => wr
    have CP : ∀ W, Calls Try.prog 78 #[.int .i64 0, .int .i64 4] W fun e w' => e = .returned (.int .i64 0) ∧ w' = W := fun W => c_part 0 4 W (by omega) (by omega) (by omega)
    have tb1 : wr.cell? ⟨tb, 1, none⟩ = some (.slice na 0 nc) := HB.out.box.cell 1
    have q5 : IntKind.i64.wrap 0 = 0 := by rw [IntKind.wrap_i64]; rfl
    have q6 : (0 : Int) ≤ (((gc : Nat)) : Int) := by omega
    clear BT L3 L4
    go_wp2_with fail
    refine (CP wr).mono ?_
    rintro e w' ⟨rfl, hq⟩; have hq' := hq.symm; subst hq'; clear hq CP
    go_wp2_with fail
    go_cut [] from 29 to 42 (fun W => ∃ (l2 : Option Addr) (lc2 : Nat) (v : TNode) (bs' : Nat → Nat), Hid (BuSt w W w.heap.size tb 1 l2 lc2 (vs ++ [v]) bs' [sayB ([], [])]) ∧ Hid (LsT W w.heap.size 3 la 0 lc [] (vs ++ [v])) ∧ Hid (LsT W w.heap.size 9 sa 0 sc [] (vs ++ [v])))
    case first =>
      obtain ⟨U1, hU1⟩ : ∃ U, wr.drew.alloc (.cells #[] 9) = U := ⟨_, rfl⟩
      obtain ⟨U2, hU2⟩ : ∃ U, wr.drew.alloc (.cells #[] 3) = U := ⟨_, rfl⟩
      have S1 : U1.heap.size = wr.heap.size + 1 := by rw [← hU1]; simp
      have S2 : U2.heap.size = wr.heap.size + 1 := by rw [← hU2]; simp
      obtain ⟨U12, hU12⟩ : ∃ U, U1.alloc (.cells #[] 3) = U := ⟨_, rfl⟩
      obtain ⟨U21, hU21⟩ : ∃ U, U2.alloc (.cells #[] 9) = U := ⟨_, rfl⟩
      have b1 : Below wr.heap.size wr U1 := by rw [← hU1]; exact (Below.refl _ _).drew.alloc (Nat.le_refl _) _
      have b2 : Below wr.heap.size wr U2 := by rw [← hU2]; exact (Below.refl _ _).drew.alloc (Nat.le_refl _) _
      have b12 : Below wr.heap.size wr U12 := by rw [← hU12]; exact b1.alloc b1.size _
      have b21 : Below wr.heap.size wr U21 := by rw [← hU21]; exact b2.alloc b2.size _
      have O1 : Hid (U1.ownsRow wr.heap.size 9 1 (.slice (some ⟨wr.heap.size, 0, none⟩) 0 0) 0 []) := by unfold Hid; rw [← hU1]; exact own_emptyE (V := wr.drew) (Nat.le_refl _)
      have O12 : Hid (U12.ownsRow wr.heap.size 9 1 (.slice (some ⟨wr.heap.size, 0, none⟩) 0 0) 0 []) := by unfold Hid; rw [← hU12]; exact own_below O1.out ((Below.refl _ _).alloc (Nat.le_refl _) _)
      have K12 : Hid (U12.ownsRow wr.heap.size 3 1 (.slice (some ⟨wr.heap.size + 1, 0, none⟩) 0 0) 0 []) := by unfold Hid; rw [← hU12, ← S1]; exact own_emptyE b1.size
      have K2 : Hid (U2.ownsRow wr.heap.size 3 1 (.slice (some ⟨wr.heap.size, 0, none⟩) 0 0) 0 []) := by unfold Hid; rw [← hU2]; exact own_emptyE (V := wr.drew) (Nat.le_refl _)
      have K21 : Hid (U21.ownsRow wr.heap.size 3 1 (.slice (some ⟨wr.heap.size, 0, none⟩) 0 0) 0 []) := by unfold Hid; rw [← hU21]; exact own_below K2.out ((Below.refl _ _).alloc (Nat.le_refl _) _)
      have O21 : Hid (U21.ownsRow wr.heap.size 9 1 (.slice (some ⟨wr.heap.size + 1, 0, none⟩) 0 0) 0 []) := by unfold Hid; rw [← hU21, ← S2]; exact own_emptyE b2.size
      have c1 : U1.cell? ⟨tb, 1, none⟩ = some (.slice na 0 nc) := far6 b1 tb1
      have c2 : U2.cell? ⟨tb, 1, none⟩ = some (.slice na 0 nc) := far6 b2 tb1
      have c12 : U12.cell? ⟨tb, 1, none⟩ = some (.slice na 0 nc) := far6 b12 tb1
      have c21 : U21.cell? ⟨tb, 1, none⟩ = some (.slice na 0 nc) := far6 b21 tb1
      have B1 : Hid (Below wr.heap.size wr U1) := b1
      have B12 : Hid (Below wr.heap.size wr U12) := b12
      have B21 : Hid (Below wr.heap.size wr U21) := b21
      clear b1 b2 b12 b21 K2
      go_region_law (first
        | (refine step_app_any _ (by rfl) (.tmp 31) (.tmp 37) 23 (by rfl) wr.heap.size 9 iS (.string ⟨#[]⟩) 1 16 Try.underlying23 JI.out JZ0.out JZ1.out JZ2.out rfl (by omega) (.slice (some ⟨wr.heap.size, 0, none⟩) 0 0) 0 [] (by rfl) O1.out (some ⟨gb, 0, none⟩) 0 gc [] (by rfl) (fun ex => by cases ex) rfl (fun ad e i u hu => by simp at hu) (fun u hu => by simp at hu) (by unfold maxLen; omega) (by omega) B1.out.size ?_
           intro l5 c5 w5 ho5 hg5 hx5
           rw [ob_slice] at hg5
           have b5 : Below wr.heap.size wr w5 := B1.out.grown hg5 B1.out.size (fun g e => (own_blk O1.out g e).1)
           obtain ⟨Y, hY⟩ : ∃ Y, w5.alloc (.cells #[] 3) = Y := ⟨_, rfl⟩
           have b5Y : Below w5.heap.size w5 Y := by rw [← hY]; exact (Below.refl _ _).alloc (Nat.le_refl _) _
           have bY : Below wr.heap.size wr Y := b5.trans (b5Y.mono b5.size)
           have oK : Y.ownsRow wr.heap.size 3 1 (.slice (some ⟨w5.heap.size, 0, none⟩) 0 0) 0 [] := by rw [← hY]; exact own_emptyE b5.size
           have oS : Y.ownsRow wr.heap.size 9 1 (.slice l5 0 c5) 0 [] := own_below ho5 b5Y
           have c5Y : w5.cell? ⟨tb, 1, none⟩ = some (.slice na 0 nc) := far6 b5 tb1
           obtain ⟨v, hv⟩ : ∃ v : TNode, v = ⟨true, l5, 0, c5, [], some ⟨w5.heap.size, 0, none⟩, 0, 0, []⟩ := ⟨_, rfl⟩
           obtain ⟨VA, hVA⟩ : ∃ VA, Y.alloc (.cells #[.bool true, .slice l5 0 c5, .slice (some ⟨w5.heap.size, 0, none⟩) 0 0] 72) = VA := ⟨_, rfl⟩
           have bYA : Below Y.heap.size Y VA := by rw [← hVA]; exact (Below.refl _ _).alloc (Nat.le_refl _) _
           have XA : Hid (Box VA Y.heap.size 72 #[.bool v.lf, .slice v.ka v.kn v.kc, .slice v.ia v.im v.ic]) := by unfold Hid; rw [hv, ← hVA]; exact Box.new _ _ _
           have BA : Hid (Below wr.heap.size wr VA) := bY.trans (bYA.mono bY.size)
           have OV : Hid (OwnN1 VA wr.heap.size VA.heap.size v) := by
             rw [hv]
             have o1 := own_below oS bYA
             have o2 := own_below oK bYA
             exact ⟨o1, o2, own_blk o1, own_blk o2⟩
           have SVV : Hid (saysN v = (true, ([] : List ByteArray), ([] : List Int))) := by rw [hv]; rfl
           have OA : Hid (VA.ownsRow w.heap.size 72 3 (.slice na 0 nc) 0 (cellsN vs)) := (HB.out.below BA.out).row
           have SA : w.heap.size ≤ VA.heap.size := (HB.out.below BA.out).bel.size
           have cY : Y.cell? ⟨tb, 1, none⟩ = some (.slice na 0 nc) := far6 bY tb1
           have cA : VA.cell? ⟨tb, 1, none⟩ = some (.slice na 0 nc) := far6 BA.out tb1
           clear hv oK oS bYA bY ho5 hg5 hx5 b5)
        | (refine step_app_any _ (by rfl) (.tmp 31) (.tmp 37) 23 (by rfl) wr.heap.size 9 iS (.string ⟨#[]⟩) 1 16 Try.underlying23 JI.out JZ0.out JZ1.out JZ2.out rfl (by omega) (.slice (some ⟨wr.heap.size, 0, none⟩) 0 0) 0 [] (by rfl) O12.out (some ⟨gb, 0, none⟩) 0 gc [] (by rfl) (fun ex => by cases ex) rfl (fun ad e i u hu => by simp at hu) (fun u hu => by simp at hu) (by unfold maxLen; omega) (by omega) B12.out.size ?_
           intro l5 c5 Y ho5 hg5 hx5
           rw [ob_slice] at hg5
           have b5 : Below wr.heap.size wr Y := B12.out.grown hg5 B12.out.size (fun g e => (own_blk O12.out g e).1)
           have bY := b5
           have oK : Y.ownsRow wr.heap.size 3 1 (.slice (some ⟨wr.heap.size + 1, 0, none⟩) 0 0) 0 [] := own_cross K12.out O12.out hg5 (by decide)
           have oS : Y.ownsRow wr.heap.size 9 1 (.slice l5 0 c5) 0 [] := ho5
           obtain ⟨v, hv⟩ : ∃ v : TNode, v = ⟨true, l5, 0, c5, [], some ⟨wr.heap.size + 1, 0, none⟩, 0, 0, []⟩ := ⟨_, rfl⟩
           obtain ⟨VA, hVA⟩ : ∃ VA, Y.alloc (.cells #[.bool true, .slice l5 0 c5, .slice (some ⟨wr.heap.size + 1, 0, none⟩) 0 0] 72) = VA := ⟨_, rfl⟩
           have bYA : Below Y.heap.size Y VA := by rw [← hVA]; exact (Below.refl _ _).alloc (Nat.le_refl _) _
           have XA : Hid (Box VA Y.heap.size 72 #[.bool v.lf, .slice v.ka v.kn v.kc, .slice v.ia v.im v.ic]) := by unfold Hid; rw [hv, ← hVA]; exact Box.new _ _ _
           have BA : Hid (Below wr.heap.size wr VA) := bY.trans (bYA.mono bY.size)
           have OV : Hid (OwnN1 VA wr.heap.size VA.heap.size v) := by
             rw [hv]
             have o1 := own_below oS bYA
             have o2 := own_below oK bYA
             exact ⟨o1, o2, own_blk o1, own_blk o2⟩
           have SVV : Hid (saysN v = (true, ([] : List ByteArray), ([] : List Int))) := by rw [hv]; rfl
           have OA : Hid (VA.ownsRow w.heap.size 72 3 (.slice na 0 nc) 0 (cellsN vs)) := (HB.out.below BA.out).row
           have SA : w.heap.size ≤ VA.heap.size := (HB.out.below BA.out).bel.size
           have cY : Y.cell? ⟨tb, 1, none⟩ = some (.slice na 0 nc) := far6 bY tb1
           have cA : VA.cell? ⟨tb, 1, none⟩ = some (.slice na 0 nc) := far6 BA.out tb1
           clear hv oK oS bYA bY ho5 hg5 hx5 b5)
        | (refine step_app_any _ (by rfl) (.tmp 31) (.tmp 37) 23 (by rfl) wr.heap.size 9 iS (.string ⟨#[]⟩) 1 16 Try.underlying23 JI.out JZ0.out JZ1.out JZ2.out rfl (by omega) (.slice (some ⟨wr.heap.size + 1, 0, none⟩) 0 0) 0 [] (by rfl) O21.out (some ⟨gb, 0, none⟩) 0 gc [] (by rfl) (fun ex => by cases ex) rfl (fun ad e i u hu => by simp at hu) (fun u hu => by simp at hu) (by unfold maxLen; omega) (by omega) B21.out.size ?_
           intro l5 c5 Y ho5 hg5 hx5
           rw [ob_slice] at hg5
           have b5 : Below wr.heap.size wr Y := B21.out.grown hg5 B21.out.size (fun g e => (own_blk O21.out g e).1)
           have bY := b5
           have oK : Y.ownsRow wr.heap.size 3 1 (.slice (some ⟨wr.heap.size, 0, none⟩) 0 0) 0 [] := own_cross K21.out O21.out hg5 (by decide)
           have oS : Y.ownsRow wr.heap.size 9 1 (.slice l5 0 c5) 0 [] := ho5
           obtain ⟨v, hv⟩ : ∃ v : TNode, v = ⟨true, l5, 0, c5, [], some ⟨wr.heap.size, 0, none⟩, 0, 0, []⟩ := ⟨_, rfl⟩
           obtain ⟨VA, hVA⟩ : ∃ VA, Y.alloc (.cells #[.bool true, .slice l5 0 c5, .slice (some ⟨wr.heap.size, 0, none⟩) 0 0] 72) = VA := ⟨_, rfl⟩
           have bYA : Below Y.heap.size Y VA := by rw [← hVA]; exact (Below.refl _ _).alloc (Nat.le_refl _) _
           have XA : Hid (Box VA Y.heap.size 72 #[.bool v.lf, .slice v.ka v.kn v.kc, .slice v.ia v.im v.ic]) := by unfold Hid; rw [hv, ← hVA]; exact Box.new _ _ _
           have BA : Hid (Below wr.heap.size wr VA) := bY.trans (bYA.mono bY.size)
           have OV : Hid (OwnN1 VA wr.heap.size VA.heap.size v) := by
             rw [hv]
             have o1 := own_below oS bYA
             have o2 := own_below oK bYA
             exact ⟨o1, o2, own_blk o1, own_blk o2⟩
           have SVV : Hid (saysN v = (true, ([] : List ByteArray), ([] : List Int))) := by rw [hv]; rfl
           have OA : Hid (VA.ownsRow w.heap.size 72 3 (.slice na 0 nc) 0 (cellsN vs)) := (HB.out.below BA.out).row
           have SA : w.heap.size ≤ VA.heap.size := (HB.out.below BA.out).bel.size
           have cY : Y.cell? ⟨tb, 1, none⟩ = some (.slice na 0 nc) := far6 bY tb1
           have cA : VA.cell? ⟨tb, 1, none⟩ = some (.slice na 0 nc) := far6 BA.out tb1
           clear hv oK oS bYA bY ho5 hg5 hx5 b5)
        | (refine step_app_any _ (by rfl) (.tmp 30) (.tmp 41) 25 (by rfl) w.heap.size 72 iN (.agg #[.bool false, .slice none 0 0, .slice none 0 0]) 3 56 Try.underlying25 HI.out HZ0.out HZ1.out HZ2.out rfl (by omega) (.slice na 0 nc) 0 (cellsN vs) (by rfl) OA.out (some ⟨Y.heap.size, 0, none⟩) 1 1 (cN v) (by rfl) (fun ex => by cases ex) rfl (by exact newsV XA.out) (oneV v) (by unfold maxLen; omega) (by omega) SA ?_
           intro l2 lc2 w6 ho hgx hax
           rw [ob_slice] at hgx
           have HO6 : Hid (w6.ownsRow w.heap.size 72 3 (.slice l2 (0 + 1) lc2) (0 + 1) (cellsN (vs ++ [v]))) := by unfold Hid; rw [cellsN_app]; exact ho
           have HG6 : Hid (VA.grownBy w6 (ob na)) := hgx
           have X6 : Box w6 tb 27 #[.int .i64 0, .slice na 0 nc] := (HB.out.below BA.out).box.grown hgx (own_neT OA.out (HB.out.below BA.out).box)
           have c61 : w6.cell? ⟨tb, 1, none⟩ = some (.slice na 0 nc) := X6.cell 1
           have t61 := X6.thaw 1
           clear ho hgx hax X6))
      all_goals
        obtain ⟨W, hW⟩ : ∃ W, w6.setCell ⟨tb, 1, none⟩ (.slice l2 (0 + 1) lc2) = W := ⟨_, rfl⟩
        have HWW : Hid (w6.setCell ⟨tb, 1, none⟩ (.slice l2 (0 + 1) lc2) = W) := hW
        have NB : Hid (∃ bs' : Nat → Nat, BuSt w W w.heap.size tb (0 + 1) l2 lc2 (vs ++ [v]) bs' [sayB ([], [])]) := by
          obtain ⟨bs', q⟩ := HB.out.push BA.out OV.out (Nat.le_refl _) BA.out.size HG6.out HO6.out hW (Nat.le_refl _) (by have := TB.out; omega)
          rw [SVV.out] at q
          exact ⟨bs', q⟩
        have NL : Hid (LsT W w.heap.size 3 la 0 lc [] (vs ++ [v])) := HL.out.push HB.out BA.out OV.out HG6.out hW
        have NS : Hid (LsT W w.heap.size 9 sa 0 sc [] (vs ++ [v])) := HS.out.push HB.out BA.out OV.out HG6.out hW
        clear hW
        go_wp2
        go_meet
        case rel =>
          obtain ⟨bs', q⟩ := NB.out
          rw [HWW.out]
          exact ⟨l2, lc2, v, bs', q, NL.out, NS.out⟩
    case rest =>
      obtain ⟨l2, lc2, v, bs', HB2, HL2, HS2⟩ := hcut
      rename World => wc
      have tb2 : wc.cell? ⟨tb, 1, none⟩ = some (.slice l2 1 lc2) := HB2.out.box.cell 1
      obtain ⟨VA, hVA⟩ : ∃ VA, wc.alloc (.cells #[.int .i64 0] 3) = VA := ⟨_, rfl⟩
      have bA : Below wc.heap.size wc VA := by rw [← hVA]; exact (Below.refl _ _).alloc (Nat.le_refl _) _
      have XA : Box VA wc.heap.size 3 #[.int .i64 0] := by rw [← hVA]; exact Box.new _ _ _
      have NA : Hid (∀ ad, some (⟨wc.heap.size, 0, none⟩ : Addr) = some ad → ∀ k u, ([.int .i64 0] : List Value)[k]? = some u → VA.cell? (ad.add k) = some u) := by
        intro ad ea k u hu
        cases ea
        cases k with
        | zero => cases hu; exact XA.cell 0
        | succ k => simp at hu
      have HBA : Hid (BuSt w VA w.heap.size tb 1 l2 lc2 (vs ++ [v]) bs' [sayB ([], [])]) := HB2.out.below bA
      have HLA : Hid (LsT VA w.heap.size 3 la 0 lc [] (vs ++ [v])) := HL2.out.below bA
      have sA : w.heap.size ≤ VA.heap.size := HBA.out.bel.size
      clear bA XA HB2 HL2 HS2 HB HL HS tb1
      go_wp2_with (at_builtin; refine app_any _ rfl (.tmp 44) (.tmp 49) 70 rfl w.heap.size 3 iI (.int .i64 0) 1 8 Try.underlying70 II.out IZ0.out IZ1.out IZ2.out rfl (by omega) (.slice la 0 lc) 0 [] rfl HLA.out.own (some ⟨wc.heap.size, 0, none⟩) 1 1 [.int .i64 0] rfl (fun ex => by cases ex) rfl NA.out (by intro u hu; simp at hu; subst hu; rfl) (by unfold maxLen; omega) (by omega) sA ?_
                   intro l3 c3 w3 ho3 hg3 hx3
                   rw [ob_slice] at hg3
                   have B3 : Hid (BuSt w w3 w.heap.size tb 1 l2 lc2 (vs ++ [v]) bs' [sayB ([], [])]) := HBA.out.app HLA.out hg3 (Nat.le_refl _)
                   have O3 : Hid (w3.ownsRow w.heap.size 3 1 (.slice l3 1 c3) 1 [.int .i64 0]) := ho3
                   clear ho3 hg3 hx3)
      go_loopw [4] (fun lv wq => lv = .slice l3 1 c3 ∧ wq = w3) (fun _ _ => 0)
      case atStart => exact ⟨rfl, rfl⟩
      case round =>
        obtain ⟨rfl, hw⟩ := hrel
        subst hw
        rename World => wq
        rcases own_form O3.out with ⟨e, h0⟩ | ⟨lb, lcap, e, hlb, hlbs⟩
        · omega
        simp only [Value.slice.injEq] at e
        obtain ⟨rfl, _, rfl⟩ := e
        have k0 : wq.cell? ⟨lb, 0, none⟩ = some (.int .i64 0) := (O3.out.cellAt 0 (by omega)).trans rfl
        have z0 := B3.out.box.cell 0
        have z1 := B3.out.box.cell 1
        have zt := B3.out.box.thaw 0
        have HTW : tb ≠ w.heap.size := by have := TB.out; omega
        obtain ⟨W1, hW1⟩ : ∃ W1, wq.setCell ⟨tb, 0, none⟩ (.int .i64 0) = W1 := ⟨_, rfl⟩
        have XT : Hid (Box W1 tb 27 #[.int .i64 0, .slice l2 1 lc2]) := by unfold Hid; rw [← hW1]; exact B3.out.box.set 0 _
        have XR : Hid (Box W1 w.heap.size 27 #[.int .i64 0, .slice none 0 0]) := by unfold Hid; rw [← hW1]; exact B3.out.res.setOther _ _ HTW.symm
        have HT : Hid (OwnTr W1 w.heap.size l2 lc2 bs' (vs ++ [v])) := by unfold Hid; rw [← hW1]; exact (B3.out.tree (by omega) (Nat.le_refl _)).set B3.out.box
        have BW : Hid (Below w.heap.size w W1) := by unfold Hid; rw [← hW1]; exact B3.out.bel.setCell (by show w.heap.size ≤ tb; have := TB.out; omega) _
        have HVL : Hid ((vs ++ [v]).length = 1) := B3.out.len
        have HSY : Hid (TreeIs [] ((vs ++ [v]).map saysN)) := ⟨[], [], .one rfl, rfl, by rw [B3.out.is]; rfl⟩
        have y0 := XT.out.cell 0
        have y1 := XT.out.cell 1
        have r0 := XR.out.cell 0
        have r1 := XR.out.cell 1
        have t0 := XR.out.thaw 0
        have t1 := XR.out.thaw 1
        clear hlb hlbs
        go_wp2
        refine retT Try.results50 rfl rfl (put2_box XR.out _ _) ⟨⟨l2, lc2, vs ++ [v], bs', ?_, (HT.out.set XR.out).set (XR.out.set 0 _), HSY.out⟩, put2_below BW.out (Nat.le_refl _) _ _⟩
        rw [HVL.out]; rfl

end Go.Proofs.Ythnggpjgajkaeaa
