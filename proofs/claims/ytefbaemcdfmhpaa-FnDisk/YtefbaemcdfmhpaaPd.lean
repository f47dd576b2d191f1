/-
  DiskPending: the program's.
-/
import Derived.Test.YtefbaemcdfmhpaaWb
namespace Go.Proofs.Ytefbaemcdfmhpaa
open Go Go.RowKit
attribute [local go_sem ↓] Go.wp_at_zero Go.wp_at_succ

/-- The first k sectors with writes, rising. -/
def pendL (C : List PP) (m k : Nat) : List Int := ((List.range k).filter fun i => decide (0 < cnt C i m)).map fun i : Nat => (i : Int)
theorem pendL_zero (C : List PP) (m : Nat) : pendL C m 0 = [] := rfl
theorem pendL_yes {C : List PP} {m k : Nat} (h : 0 < cnt C k m) : pendL C m (k + 1) = pendL C m k ++ [(k : Int)] := by
  unfold pendL; rw [List.range_succ, List.filter_append]; simp [h]
theorem pendL_no {C : List PP} {m k : Nat} (h : ¬ 0 < cnt C k m) : pendL C m (k + 1) = pendL C m k := by
  unfold pendL; rw [List.range_succ, List.filter_append]; simp [h]
theorem pendL_len (C : List PP) (m k : Nat) : (pendL C m k).length ≤ k := by
  unfold pendL; rw [List.length_map]; exact Nat.le_trans (List.length_filter_le _ _) (by simp)
def pendR (D : DD) : List Int := if okD D = true then pendL D.C D.C.length D.S.length else []
def pendC (D : DD) : Int := if okD D = true then 0 else 1
theorem pendR_len (D : DD) (hf : Fit D) : (pendR D).length ≤ 1048576 := by
  unfold pendR
  split
  · exact Nat.le_trans (pendL_len _ _ _) hf.1
  · exact Nat.zero_le _
theorem cell_num (w : World) (x : Value) (t : TypeId) : ∀ j u, [x][j]? = some u → (w.alloc (.cells #[x] t)).cell? ((⟨w.heap.size, 0, none⟩ : Addr).add j) = some u := by
  intro j u hj
  have hb := Box.new w #[x] t
  rw [addr_add, Nat.zero_add, hb.cell j]
  rw [← hj]
  simp
theorem ok_len' {D : DD} (h : okD D = true) : 1 ≤ D.S.length ∧ D.S.length ≤ 100 ∧ D.C.length ≤ 500 ∧ D.K.length ≤ 500 := by
  unfold okD at h
  simp only [Bool.and_eq_true, decide_eq_true_eq] at h
  exact h.1

set_option maxHeartbeats 8000000 in
theorem c_implPend (D : DD) (hf : Fit D) (w : World) (h : HD) (r : RdD w h D) :
    Calls Try.prog 22 #[.agg #[.slice h.a0 h.n0 h.c0, .slice h.a1 h.n1 h.c1, .bool h.b, .slice h.a2 h.n2 h.c2]] w fun e w' => (∃ a' c', e = .returned (.tuple #[.slice a' (pendR D).length c', .int .i64 (pendC D)]) ∧ w'.ownsRow w.heap.size 3 1 (.slice a' (pendR D).length c') (pendR D).length ((pendR D).map (Value.int .i64))) ∧ Below w.heap.size w w' := by
  have k0 := r.l0
  have k1 := r.l1
  have F : Hid (Fit D) := hf
  have R : Hid (RdD w h D) := r
  obtain ⟨i3, hi3, hz30, hz31, hz32⟩ := info_parts infoI
  have HB : Hid (Below w.heap.size w (w.alloc (.cells #[.slice h.a0 h.n0 h.c0, .slice h.a1 h.n1 h.c1, .bool h.b, .slice h.a2 h.n2 h.c2] 27))) := (Below.refl _ _).alloc (Nat.le_refl _) _
  have BX : Hid (Box (w.alloc (.cells #[.slice h.a0 h.n0 h.c0, .slice h.a1 h.n1 h.c1, .bool h.b, .slice h.a2 h.n2 h.c2] 27)) w.heap.size 27 #[.slice h.a0 h.n0 h.c0, .slice h.a1 h.n1 h.c1, .bool h.b, .slice h.a2 h.n2 h.c2]) := Box.new _ _ _
  clear r hf
  go_enter Try.func22, Try.ntmps22
  go_wp2_with fail
  refine (c_implOK h D _ (R.out.below HB.out) F.out).mono ?_
  rintro e w1 ⟨rfl, hb⟩
  have B1 : Hid (Below w.heap.size w w1) := HB.out.trans (hb.mono HB.out.size)
  have x1 := BX.out.belowS hb
  have R1 : Hid (RdD w1 h D) := R.out.below B1.out
  have X1 : Hid (Box w1 w.heap.size 27 #[.slice h.a0 h.n0 h.c0, .slice h.a1 h.n1 h.c1, .bool h.b, .slice h.a2 h.n2 h.c2]) := x1
  obtain ⟨v0, v1, v2, v3⟩ := box4 x1
  have s1 : w.heap.size < w1.heap.size := x1.lt
  clear hb HB BX R x1
  cases hok : okD D
  · have E1 : Hid (pendR D = []) := by unfold Hid pendR; rw [if_neg (by rw [hok]; decide)]
    have E2 : Hid (pendC D = 1) := by unfold Hid pendC; rw [if_neg (by rw [hok]; decide)]
    clear hok
    go_wp2
    go_ret2
    rw [E1.out, E2.out]
    exact ⟨⟨none, 0, rfl, World.ownsRow_nil w1 _ _ _⟩, B1.out⟩
  · have E1 : Hid (pendR D = pendL D.C D.C.length D.S.length) := by unfold Hid pendR; rw [if_pos hok]
    have E2 : Hid (pendC D = 0) := by unfold Hid pendC; rw [if_pos hok]
    have hlen := ok_len' hok
    have G : Hid (goodD D) := ok_good hok
    clear hok
    go_wp2_with fail
    refine (c_writes h.a0 h.n0 h.c0 h.a1 h.n1 h.c1 h.b h.a2 h.n2 h.c2 D.C w1 R1.out.2.2.1 (by omega) (by omega) (by rw [← k0]; exact G.out)).mono ?_
    rintro e w2 ⟨⟨go, f, rfl, L⟩, hb⟩
    have B2 : Hid (Below w.heap.size w w2) := B1.out.trans (hb.mono B1.out.size)
    have HC : Hid (∀ i, i < h.n0 → w2.cell? ⟨go, i, none⟩ = some (.slice (f i).1 (cnt D.C i h.n1) (f i).2)) := fun i hi => by rw [L.outer.cellAt i (by omega), outL_get hi]
    have hgo : go < w2.heap.size := (L.outer.lt go rfl).2
    have s2 : w1.heap.size ≤ w2.heap.size := hb.size
    clear hb L v0 v1 v2 v3
    go_wp2
    go_loopw [4, 13] (fun x i wr => ∃ (k : Nat) (ak : Option Addr) (ck : Nat), k ≤ h.n0 ∧ i = .int .i64 k ∧ x = .slice ak (pendL D.C h.n1 k).length ck ∧ wr.ownsRow w2.heap.size 3 1 (.slice ak (pendL D.C h.n1 k).length ck) (pendL D.C h.n1 k).length ((pendL D.C h.n1 k).map (Value.int .i64)) ∧ Below w2.heap.size w2 wr) (fun _ i _ => h.n0 - (intOf i).toNat)
    case atStart => exact ⟨0, none, 0, by omega, rfl, rfl, World.ownsRow_nil _ _ _ _, Below.refl _ _⟩
    case round =>
      obtain ⟨k, ak, ck, hk, rfl, rfl, hown, hbr⟩ := hrel
      have hL := pendL_len D.C h.n1 k
      by_cases hlt : k < h.n0
      · obtain ⟨fa, fc, hf⟩ : ∃ fa fc, f k = (fa, fc) := ⟨_, _, rfl⟩
        obtain ⟨m, hm⟩ : ∃ m, m = cnt D.C k h.n1 := ⟨_, rfl⟩
        have hcell : wr.cell? ⟨go, k, none⟩ = some (.slice fa m fc) := by rw [hbr.cell (p := ⟨go, k, none⟩) hgo, HC.out k hlt, hf, hm]
        have HM : Hid (m = cnt D.C k h.n1) := hm
        have swr : w2.heap.size ≤ wr.heap.size := hbr.size
        have hmb : m ≤ 500 := by rw [hm]; exact Nat.le_trans (cnt_le _ _ _) (by omega)
        clear hf hm
        by_cases hpos : 0 < m
        · have HK : Hid (pendL D.C h.n1 (k + 1) = pendL D.C h.n1 k ++ [(k : Int)]) := pendL_yes (by rw [← HM.out]; exact hpos)
          go_wp2_with (at_builtin; refine app_any _ rfl (.tmp 21) (.tmp 23) 25 rfl w2.heap.size 3 i3 (.int .i64 0) 1 8 Try.underlying25 hi3 hz30 hz31 hz32 rfl (by omega) (.slice ak (pendL D.C h.n1 k).length ck) (pendL D.C h.n1 k).length ((pendL D.C h.n1 k).map (Value.int .i64)) rfl (hown.alloc _) (some ⟨wr.heap.size, 0, none⟩) 1 1 [.int .i64 k] rfl (fun h => by cases h) rfl (fun ad e => by cases e; exact cell_num _ _ _) (by intro u hu; simp at hu; subst hu; rfl) (by unfold maxLen; omega) (by omega) (by simp; omega) ?_; intro a' c' w5 ho hg hkk)
          have hb5 : Below w2.heap.size w2 w5 := (hbr.alloc swr _).grown hg (by simp; omega) (fun x e => (hown.lt x e).1)
          have HL : Hid ((pendL D.C h.n1 (k + 1)).length = (pendL D.C h.n1 k).length + 1) := by unfold Hid; rw [HK.out, List.length_append]; rfl
          have ho5 : w5.ownsRow w2.heap.size 3 1 (.slice a' (pendL D.C h.n1 (k + 1)).length c') (pendL D.C h.n1 (k + 1)).length ((pendL D.C h.n1 (k + 1)).map (Value.int .i64)) := by
            rw [HK.out, List.map_append, List.length_append]; exact ho
          clear ho hg hkk
          go_roundw
          case rel => exact ⟨k + 1, a', c', by omega, by go_num, by rw [HL.out], ho5, hb5⟩
          case measure => simp [intOf]; omega
        · have HK : Hid (pendL D.C h.n1 (k + 1) = pendL D.C h.n1 k) := pendL_no (by rw [← HM.out]; exact hpos)
          go_wp2
          go_roundw
          case rel => exact ⟨k + 1, ak, ck, by omega, by go_num, by rw [HK.out], by rw [HK.out]; exact hown, hbr⟩
          case measure => simp [intOf]; omega
      · have e : h.n0 = k := by omega
        have HQ : Hid (pendL D.C h.n1 k = pendL D.C D.C.length D.S.length) := by unfold Hid; rw [k0, k1, e]
        have HO : Hid (wr.ownsRow w2.heap.size 3 1 (.slice ak (pendL D.C h.n1 k).length ck) (pendL D.C h.n1 k).length ((pendL D.C h.n1 k).map (Value.int .i64))) := hown
        have HBR : Hid (Below w2.heap.size w2 wr) := hbr
        have s3 : w.heap.size ≤ w2.heap.size := by omega
        clear hown hbr
        go_wp2
        go_ret2
        rw [E1.out, E2.out, ← HQ.out]
        exact ⟨⟨ak, ck, rfl, HO.out.down s3⟩, B2.out.trans (HBR.out.mono s3)⟩
end Go.Proofs.Ytefbaemcdfmhpaa
