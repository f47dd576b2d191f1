/-
  DiskPending: the specification's.
-/
import Derived.Test.YtiinhcffpgchoaaPd
namespace Go.Proofs.Ytiinhcffpgchoaa
open Go Go.RowKit
attribute [local go_sem ↓] Go.wp_at_zero Go.wp_at_succ


set_option maxHeartbeats 8000000 in
theorem c_specPend (D : DD) (hf : Fit D) (w : World) (h : HD) (r : RdD w h D) :
    Calls Try.prog 39 #[.agg #[.slice h.a0 h.n0 h.c0, .slice h.a1 h.n1 h.c1, .bool h.b, .slice h.a2 h.n2 h.c2]] w fun e w' => (∃ a' c', e = .returned (.tuple #[.slice a' (pendR D).length c', .int .i64 (pendC D)]) ∧ w'.ownsRow w.heap.size 3 1 (.slice a' (pendR D).length c') (pendR D).length ((pendR D).map (Value.int .i64))) ∧ Below w.heap.size w w' := by
  have k0 := r.l0
  have k1 := r.l1
  have F : Hid (Fit D) := hf
  have R : Hid (RdD w h D) := r
  obtain ⟨i3, hi3, hz30, hz31, hz32⟩ := info_parts infoI
  have HB : Hid (Below w.heap.size w (w.alloc (.cells #[.slice h.a0 h.n0 h.c0, .slice h.a1 h.n1 h.c1, .bool h.b, .slice h.a2 h.n2 h.c2] 27))) := (Below.refl _ _).alloc (Nat.le_refl _) _
  have BX : Hid (Box (w.alloc (.cells #[.slice h.a0 h.n0 h.c0, .slice h.a1 h.n1 h.c1, .bool h.b, .slice h.a2 h.n2 h.c2] 27)) w.heap.size 27 #[.slice h.a0 h.n0 h.c0, .slice h.a1 h.n1 h.c1, .bool h.b, .slice h.a2 h.n2 h.c2]) := Box.new _ _ _
  clear r hf
  go_enter Try.func39, Try.ntmps39
  go_wp2_with fail
  refine (c_specOK h D _ (R.out.below HB.out) F.out).mono ?_
  rintro e w1 ⟨rfl, hb⟩
  have B1 : Hid (Below w.heap.size w w1) := HB.out.trans (hb.mono HB.out.size)
  have x1 := BX.out.belowS hb
  have R1 : Hid (RdD w1 h D) := R.out.below B1.out
  have X1 : Hid (Box w1 w.heap.size 27 #[.slice h.a0 h.n0 h.c0, .slice h.a1 h.n1 h.c1, .bool h.b, .slice h.a2 h.n2 h.c2]) := x1
  obtain ⟨v0, v1, v2, v3⟩ := box4 x1
  have s1 : w.heap.size < w1.heap.size := x1.lt
  clear hb HB BX R x1
  cases hok : okD D
  · have E1 : Hid (pendR D = []) := by unfold Hid pendR; rw [if_neg (by rw [hok]; decide)]
    have E2 : Hid (pendC D = 1) := by unfold Hid pendC; rw [if_neg (by rw [hok]; decide)]
    clear hok
    go_wp2
    go_ret2
    rw [E1.out, E2.out]
    exact ⟨⟨_, 0, rfl, World.ownsRow_lit w1 #[] 0 (Nat.le_of_lt s1) (Nat.zero_le _) rfl⟩, B1.out.alloc (Nat.le_of_lt s1) _⟩
  · have E1 : Hid (pendR D = pendL D.C D.C.length D.S.length) := by unfold Hid pendR; rw [if_pos hok]
    have E2 : Hid (pendC D = 0) := by unfold Hid pendC; rw [if_pos hok]
    have hlen := ok_len' hok
    have G : Hid (goodD D) := ok_good hok
    clear hok
    have O0 : Hid ((w1.alloc (.cells #[] 3)).ownsRow w1.heap.size 3 1 (.slice (some ⟨w1.heap.size, 0, none⟩) 0 0) 0 []) := World.ownsRow_lit w1 #[] 0 (Nat.le_refl _) (Nat.zero_le _) rfl
    have BA : Hid (Below w1.heap.size w1 (w1.alloc (.cells #[] 3))) := (Below.refl _ _).alloc (Nat.le_refl _) _
    go_wp2
    go_loopw [4, 5] (fun x i wr => ∃ (k : Nat) (ak : Option Addr) (ck : Nat), k ≤ h.n0 ∧ i = .int .i64 k ∧ x = .slice ak (pendL D.C h.n1 k).length ck ∧ wr.ownsRow w1.heap.size 3 1 (.slice ak (pendL D.C h.n1 k).length ck) (pendL D.C h.n1 k).length ((pendL D.C h.n1 k).map (Value.int .i64)) ∧ Below w1.heap.size w1 wr) (fun _ i _ => h.n0 - (intOf i).toNat)
    case atStart => exact ⟨0, _, 0, by omega, rfl, rfl, O0.out, BA.out⟩
    case round =>
      obtain ⟨k, ak, ck, hk, rfl, rfl, hown, hbr⟩ := hrel
      have hL := pendL_len D.C h.n1 k
      have y0 := far6 hbr v0
      have y1 := far6 hbr v1
      have swr : w1.heap.size ≤ wr.heap.size := hbr.size
      by_cases hlt : k < h.n0
      · have HOW : Hid (wr.ownsRow w1.heap.size 3 1 (.slice ak (pendL D.C h.n1 k).length ck) (pendL D.C h.n1 k).length ((pendL D.C h.n1 k).map (Value.int .i64))) := hown
        have HBR : Hid (Below w1.heap.size w1 wr) := hbr
        have HRP : Hid (RdP wr h.a1 h.n1 D.C) := R1.out.2.2.1.below hbr
        clear hown hbr v0 v1 v2 v3
        go_wp2
        go_loop [6, 7] (fun t i => ∃ (q : Nat) (bt : Bool), q ≤ h.n1 ∧ i = .int .i64 q ∧ t = .bool bt ∧ Hid (bt = decide (0 < cnt D.C k q))) (fun _ i => h.n1 - (intOf i).toNat)
        case atStart => exact ⟨0, false, by omega, rfl, rfl, by unfold Hid; rw [cnt_zero]; rfl⟩
        case round =>
          obtain ⟨q, bt, hq, rfl, rfl, HT⟩ := hrel
          by_cases hqlt : q < h.n1
          · obtain ⟨bb, off, ha, hbl, hc⟩ := HRP.out.2 (by omega)
            obtain ⟨⟨xa, xt⟩, hx⟩ : ∃ x, x = D.C.getD q dP := ⟨_, rfl⟩
            obtain ⟨d0, d1⟩ := hc q hqlt
            rw [← hx] at d0 d1
            rw [ha] at y1
            have HX : Hid ((xa, xt) = D.C.getD q dP) := hx
            clear hc hx ha d1
            cases bt
            · by_cases heq : xa = (k : Int)
              · have hb1 : (xa == (k : Int)) = true := by simpa using heq
                have HT2 : Hid (true = decide (0 < cnt D.C k (q + 1))) := by unfold Hid; rw [cnt_yes (by omega) (by rw [← HX.out]; exact heq)]; simp
                clear heq
                go_wp2
                go_round
                case rel => exact ⟨q + 1, true, by omega, by go_num, rfl, HT2.out⟩
                case measure => simp [intOf]; omega
              · have hb1 : (xa == (k : Int)) = false := by simpa using heq
                have HT2 : Hid (false = decide (0 < cnt D.C k (q + 1))) := by unfold Hid; rw [cnt_no (by omega) (by rw [← HX.out]; exact heq)]; exact HT.out
                clear heq
                go_wp2
                go_round
                case rel => exact ⟨q + 1, false, by omega, by go_num, rfl, HT2.out⟩
                case measure => simp [intOf]; omega
            · have HT2 : Hid (true = decide (0 < cnt D.C k (q + 1))) := by
                have hp : 0 < cnt D.C k q := of_decide_eq_true HT.out.symm
                unfold Hid
                by_cases heq : (D.C.getD q dP).1 = (k : Int)
                · rw [cnt_yes (by omega) heq]; simp
                · rw [cnt_no (by omega) heq]; exact HT.out
              go_wp2
              go_round
              case rel => exact ⟨q + 1, true, by omega, by go_num, rfl, HT2.out⟩
              case measure => simp [intOf]; omega
          · have e : q = h.n1 := by omega
            subst e
            have hown := HOW.out
            have hbr := HBR.out
            cases bt
            · have HK : Hid (pendL D.C h.n1 (k + 1) = pendL D.C h.n1 k) := pendL_no (of_decide_eq_false HT.out.symm)
              go_wp2
              go_roundw
              case rel => exact ⟨k + 1, ak, ck, by omega, by go_num, by rw [HK.out], by rw [HK.out]; exact hown, hbr⟩
              case measure => simp [intOf]; omega
            · have HK : Hid (pendL D.C h.n1 (k + 1) = pendL D.C h.n1 k ++ [(k : Int)]) := pendL_yes (of_decide_eq_true HT.out.symm)
              go_wp2_with (at_builtin; refine app_any _ rfl (.tmp 39) (.tmp 41) 25 rfl w1.heap.size 3 i3 (.int .i64 0) 1 8 Try.underlying25 hi3 hz30 hz31 hz32 rfl (by omega) (.slice ak (pendL D.C h.n1 k).length ck) (pendL D.C h.n1 k).length ((pendL D.C h.n1 k).map (Value.int .i64)) rfl (hown.alloc _) (some ⟨wr.heap.size, 0, none⟩) 1 1 [.int .i64 k] rfl (fun h => by cases h) rfl (fun ad e => by cases e; exact cell_num _ _ _) (by intro u hu; simp at hu; subst hu; rfl) (by unfold maxLen; omega) (by omega) (by simp; omega) ?_; intro a' c' w5 ho hg hkk)
              have hb5 : Below w1.heap.size w1 w5 := (hbr.alloc swr _).grown hg (by simp; omega) (fun x e => (hown.lt x e).1)
              have HL : Hid ((pendL D.C h.n1 (k + 1)).length = (pendL D.C h.n1 k).length + 1) := by unfold Hid; rw [HK.out, List.length_append]; rfl
              have ho5 : w5.ownsRow w1.heap.size 3 1 (.slice a' (pendL D.C h.n1 (k + 1)).length c') (pendL D.C h.n1 (k + 1)).length ((pendL D.C h.n1 (k + 1)).map (Value.int .i64)) := by
                rw [HK.out, List.map_append, List.length_append]; exact ho
              clear ho hg hkk
              go_roundw
              case rel => exact ⟨k + 1, a', c', by omega, by go_num, by rw [HL.out], ho5, hb5⟩
              case measure => simp [intOf]; omega
      · have e : h.n0 = k := by omega
        have HQ : Hid (pendL D.C h.n1 k = pendL D.C D.C.length D.S.length) := by unfold Hid; rw [k0, k1, e]
        have HO : Hid (wr.ownsRow w1.heap.size 3 1 (.slice ak (pendL D.C h.n1 k).length ck) (pendL D.C h.n1 k).length ((pendL D.C h.n1 k).map (Value.int .i64))) := hown
        have HBR : Hid (Below w1.heap.size w1 wr) := hbr
        have s3 : w.heap.size ≤ w1.heap.size := by omega
        clear hown hbr
        go_wp2
        go_ret2
        rw [E1.out, E2.out, ← HQ.out]
        exact ⟨⟨ak, ck, rfl, HO.out.down s3⟩, B1.out.trans (HBR.out.mono s3)⟩
end Go.Proofs.Ytiinhcffpgchoaa
