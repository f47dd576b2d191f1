/-
  Lists of rows: marks, and what was marked is held.
-/
import Derived.Test.YtiobobocjokgiaaRa
import Derived.Deep.RegionHeld3
namespace Go.Proofs.Ytiobobocjokgiaa
open Go Go.RowKit
attribute [local go_sem ↓] Go.wp_at_zero Go.wp_at_succ

set_option linter.unusedVariables false
def mixA {α : Type} (ys xs : List α) (k : Nat) : List α := ys.take k ++ xs.drop k
theorem mixA_zero {α : Type} (ys xs : List α) : mixA ys xs 0 = xs := by simp [mixA]
theorem mixA_len {α : Type} (ys xs : List α) (n k : Nat) (hx : xs.length = n) (hy : ys.length = n) (hk : k ≤ n) : (mixA ys xs k).length = n := by unfold mixA; simp; omega
theorem mixA_step {α : Type} (ys xs : List α) (n k : Nat) (d : α) (hx : xs.length = n) (hy : ys.length = n) (hk : k < n) : (mixA ys xs k).set k (ys.getD k d) = mixA ys xs (k + 1) := by
  unfold mixA
  have hl : (ys.take k).length = k := by simp; omega
  rw [List.set_append, if_neg (by omega), hl, Nat.sub_self, List.drop_eq_getElem_cons (show k < xs.length by omega), List.set_cons_zero, List.take_add_one, List.append_assoc, List.getD_eq_getElem?_getD, List.getElem?_eq_getElem (by omega)]
  rfl
theorem mixA_full {α : Type} (ys xs : List α) (n : Nat) (hx : xs.length = n) (hy : ys.length = n) : mixA ys xs n = ys := by
  unfold mixA; rw [List.take_of_length_le (by omega), List.drop_eq_nil_of_le (by omega)]; simp
set_option maxHeartbeats 1000000 in
theorem c_mtext2 (k0 : Nat) (w : World) (h1 : 1 ≤ k0) (h2 : k0 ≤ 17592186044416) :
    Calls Try.prog 27 #[.int .i64 k0] w fun e w' => e = .returned (.string (mtext k0)) ∧ Below w.heap.size w w' := by
  have hk0 : ¬ (k0 : Int) ≤ 0 := by omega
  go_enter Try.func27, Try.ntmps27
  go_wp2
  go_loopw [0, 3] (fun x o wr => ∃ (k f : Nat) (out : List UInt8), k ≤ f ∧ out.length + k ≤ k0 ∧ x = .int .i64 k ∧ o = .string ⟨out.toArray⟩ ∧ Hid (mt f k out = mt k0 k0 []) ∧ Below w.heap.size w wr) (fun x _ _ => (intOf x).toNat)
  case atStart => exact ⟨k0, k0, [], Nat.le_refl _, by simp, rfl, rfl, rfl, Below.refl _ _⟩
  case round =>
    obtain ⟨k, f, out, hkf, hol, rfl, rfl, HM, hb⟩ := hrel
    have hsz : (⟨out.toArray⟩ : ByteArray).size = out.length := by simp [ByteArray.size]
    by_cases hlt : 0 < k
    · have hcv := conv_dig k wr
      obtain ⟨f', hf', hst⟩ := mt_step (out := out) hlt hkf
      have HS : Hid (_ = _) := hst
      have hs1 : (⟨#[digC k]⟩ : ByteArray).size = 1 := rfl
      clear hst
      go_wp2
      go_roundw
      case rel => exact ⟨k / 10, f', digC k :: out, hf', by simp; omega, by go_num, str_val (cat_cons _ _), HS.out.symm.trans HM.out, hb.alloc (hb.size) _⟩
      case measure => simp [intOf]; omega
    · have e : k = 0 := by omega
      subst e
      have hs1 : (⟨#[109]⟩ : ByteArray).size = 1 := rfl
      go_wp2
      go_ret
      exact ⟨ret_str (by rw [cat_cons]; unfold mtext; rw [← HM.out, mt_end]), hb⟩

theorem c_mtextI2 (x : Int) (k : Nat) (w : World) (hx : x = k) (h1 : 1 ≤ k) (h2 : k ≤ 17592186044416) :
    Calls Try.prog 27 #[.int .i64 x] w fun e w' => e = .returned (.string (mtext k)) ∧ Below w.heap.size w w' := by
  subst hx; exact c_mtext2 k w h1 h2
def mR (k0 i : Nat) : RW := ⟨((k0 + i * 7 : Nat) : Int), ((k0 + i * 7 + 1 : Nat) : Int), ((k0 + i * 7 + 2 : Nat) : Int), mtext (k0 + i * 7 + 3), ((k0 + i * 7 + 4 : Nat) : Int), ((k0 + i * 7 + 5 : Nat) : Int), mtext (k0 + i * 7 + 6)⟩
def marksR (k0 n : Nat) : List RW := (List.range n).map (mR k0)
theorem marksR_len (k0 n : Nat) : (marksR k0 n).length = n := by simp [marksR]
theorem marksR_get (k0 n k : Nat) (h : k < n) : (marksR k0 n).getD k zeroR = mR k0 k := by
  unfold marksR; rw [List.getD_eq_getElem?_getD, List.getElem?_map, List.getElem?_range h]; rfl
theorem marksR_val (k0 n k : Nat) (h : k < n) : (marksR k0 n).getD k zeroR = ⟨(k0 : Int) + (k : Int) * 7, (k0 : Int) + (k : Int) * 7 + 1, (k0 : Int) + (k : Int) * 7 + 2, mtext (k0 + k * 7 + 3), (k0 : Int) + (k : Int) * 7 + 4, (k0 : Int) + (k : Int) * 7 + 5, mtext (k0 + k * 7 + 6)⟩ := by rw [marksR_get _ _ _ h]; unfold mR; simp
set_option maxRecDepth 100000 in
set_option maxHeartbeats 8000000 in
theorem c_markR (base : Nat) (v : Value) (n k0 : Nat) (xs : List RW) (w : World) (hown : w.ownsRow base 40 7 v n (cellsR xs)) (h1 : 1 ≤ k0) (hn : n ≤ 2097152) (hk : k0 ≤ 8796093022208) :
    Calls Try.prog 12 #[v, .int .i64 k0] w fun e w' => e = .returned (.int .i64 (k0 + n * 7 : Nat)) ∧ w'.ownsRow base 40 7 v n (cellsR (marksR k0 n)) ∧ w.grownBy w' v.ownBlock := by
  have hxl : xs.length = n := by have := hown.1; rw [cellsR_len] at this; omega
  rcases own_form hown with ⟨rfl, rfl⟩ | ⟨g, cap, rfl, hg1, hg2⟩
  · go_enter Try.func12, Try.ntmps12
    go_wp2
    refine wp_loop_rounds 1 ?_
    rw [rounds_succ]
    go_wp2
    go_ret
    exact ⟨by simp, by simpa [marksR, cellsR] using World.ownsRow_nil w base 40 7, World.grownBy.refl _ _⟩
  · go_enter Try.func12, Try.ntmps12
    go_wp2
    go_loopw [1, 5] (fun m i wr => ∃ k : Nat, k ≤ n ∧ i = .int .i64 k ∧ m = .int .i64 ((k0 + k * 7 : Nat) : Int) ∧ wr.ownsRow base 40 7 (.slice (some ⟨g, 0, none⟩) n cap) n (cellsR (mixA (marksR k0 n) xs k)) ∧ w.grownBy wr (some g)) (fun _ i _ => n - (intOf i).toNat)
    case atStart => exact ⟨0, by omega, rfl, by simp, by rw [mixA_zero]; exact hown, World.grownBy.refl _ _⟩
    case round =>
      obtain ⟨k, hk, rfl, rfl, hown, hgr⟩ := hrel
      by_cases hlt : k < n
      · have hml := mixA_len (marksR k0 n) xs n k hxl (marksR_len _ _) hk
        obtain ⟨L, hL⟩ : ∃ L, L = cellsR (mixA (marksR k0 n) xs k) := ⟨_, rfl⟩
        have hLl : L.length = n * 7 := by rw [hL, cellsR_len, hml]
        have HS : Hid (setR L (k * 7) ⟨(k0 : Int) + (k : Int) * 7, (k0 : Int) + (k : Int) * 7 + 1, (k0 : Int) + (k : Int) * 7 + 2, mtext (k0 + k * 7 + 3), (k0 : Int) + (k : Int) * 7 + 4, (k0 : Int) + (k : Int) * 7 + 5, mtext (k0 + k * 7 + 6)⟩ = cellsR (mixA (marksR k0 n) xs (k + 1))) := by
          unfold Hid
          have hset := cellsR_set (mixA (marksR k0 n) xs k) k ((marksR k0 n).getD k zeroR) (by omega)
          rw [mixA_step _ _ n k zeroR hxl (marksR_len _ _) hlt, marksR_val _ _ _ hlt, ← hL] at hset
          exact hset
        rw [← hL] at hown
        clear hL
        obtain ⟨u0, f0⟩ : ∃ u, wr.cell? ⟨g, k * 7, none⟩ = some u := ⟨_, (hown.cellAt (k * 7) (by omega)).trans (List.getElem?_eq_getElem (by have := hown.1; omega))⟩
        have z0 := hown.frozenAt (k * 7)
        obtain ⟨u1, f1⟩ : ∃ u, wr.cell? ⟨g, k * 7 + 1, none⟩ = some u := ⟨_, (hown.cellAt (k * 7 + 1) (by omega)).trans (List.getElem?_eq_getElem (by have := hown.1; omega))⟩
        have z1 := hown.frozenAt (k * 7 + 1)
        obtain ⟨u2, f2⟩ : ∃ u, wr.cell? ⟨g, k * 7 + 2, none⟩ = some u := ⟨_, (hown.cellAt (k * 7 + 2) (by omega)).trans (List.getElem?_eq_getElem (by have := hown.1; omega))⟩
        have z2 := hown.frozenAt (k * 7 + 2)
        obtain ⟨s0, t0⟩ := hown.stored (k * 7) (.int .i64 ((k0 : Int) + (k : Int) * 7))
        obtain ⟨s1, t1⟩ := s0.stored (k * 7 + 1) (.int .i64 ((k0 : Int) + (k : Int) * 7 + 1))
        obtain ⟨s2, t2⟩ := s1.stored (k * 7 + 2) (.int .i64 ((k0 : Int) + (k : Int) * 7 + 2))
        have HB0 : Hid (World.ownsRow _ base 40 7 (.slice (some ⟨g, 0, none⟩) n cap) n _) := s2
        have HGB0 : Hid (w.grownBy _ (some g)) := (((hgr.trans t0).trans t1).trans t2)
        clear s0 t0 s1 t1 s2 t2 hown hgr
        go_wp2_with fail
        refine (c_mtextI2 _ (k0 + k * 7 + 3) _ (by omega) (by omega) (by omega)).mono ?_
        rintro e w3 ⟨rfl, hb3⟩
        have hown0 := own_below HB0.out hb3
        have hgr0 : w.grownBy w3 (some g) := HGB0.out.trans (grown_of_below hb3 (some g))
        clear f0 z0 f1 z1 f2 z2 HB0 HGB0 hb3
        obtain ⟨u3, f3⟩ : ∃ u, w3.cell? ⟨g, k * 7 + 3, none⟩ = some u := ⟨_, (hown0.cellAt (k * 7 + 3) (by omega)).trans (List.getElem?_eq_getElem (by have := hown0.1; omega))⟩
        have z3 := hown0.frozenAt (k * 7 + 3)
        obtain ⟨u4, f4⟩ : ∃ u, w3.cell? ⟨g, k * 7 + 4, none⟩ = some u := ⟨_, (hown0.cellAt (k * 7 + 4) (by omega)).trans (List.getElem?_eq_getElem (by have := hown0.1; omega))⟩
        have z4 := hown0.frozenAt (k * 7 + 4)
        obtain ⟨u5, f5⟩ : ∃ u, w3.cell? ⟨g, k * 7 + 5, none⟩ = some u := ⟨_, (hown0.cellAt (k * 7 + 5) (by omega)).trans (List.getElem?_eq_getElem (by have := hown0.1; omega))⟩
        have z5 := hown0.frozenAt (k * 7 + 5)
        obtain ⟨s3, t3⟩ := hown0.stored (k * 7 + 3) (.string (mtext (k0 + k * 7 + 3)))
        obtain ⟨s4, t4⟩ := s3.stored (k * 7 + 4) (.int .i64 ((k0 : Int) + (k : Int) * 7 + 4))
        obtain ⟨s5, t5⟩ := s4.stored (k * 7 + 5) (.int .i64 ((k0 : Int) + (k : Int) * 7 + 5))
        have HB1 : Hid (World.ownsRow _ base 40 7 (.slice (some ⟨g, 0, none⟩) n cap) n _) := s5
        have HGB1 : Hid (w.grownBy _ (some g)) := (((hgr0.trans t3).trans t4).trans t5)
        clear s3 t3 s4 t4 s5 t5 hown0 hgr0
        go_wp2_with fail
        refine (c_mtextI2 _ (k0 + k * 7 + 6) _ (by omega) (by omega) (by omega)).mono ?_
        rintro e w4 ⟨rfl, hb3⟩
        have hown1 := own_below HB1.out hb3
        have hgr1 : w.grownBy w4 (some g) := HGB1.out.trans (grown_of_below hb3 (some g))
        clear f3 z3 f4 z4 f5 z5 HB1 HGB1 hb3
        have hl3 := hown1.1
        simp only [List.length_set] at hl3
        obtain ⟨u6, f6⟩ : ∃ u, w4.cell? ⟨g, k * 7 + 6, none⟩ = some u := ⟨_, (hown1.cellAt (k * 7 + 6) (by omega)).trans (List.getElem?_eq_getElem (by have := hown1.1; omega))⟩
        have z6 := hown1.frozenAt (k * 7 + 6)
        obtain ⟨s6, t6⟩ := hown1.stored (k * 7 + 6) (.string (mtext (k0 + k * 7 + 6)))
        have HC : Hid (World.ownsRow ((w4).setCell ⟨g, k * 7 + 6, none⟩ (.string (mtext (k0 + k * 7 + 6)))) base 40 7 (.slice (some ⟨g, 0, none⟩) n cap) n (cellsR (mixA (marksR k0 n) xs (k + 1)))) := by
          unfold Hid
          rw [← HS.out]
          exact s6
        have HGC : Hid (w.grownBy _ (some g)) := (hgr1.trans t6)
        clear s6 t6 hown1 hgr1 hl3
        go_wp2
        go_roundw
        case rel => exact ⟨k + 1, by omega, by go_num, by go_num, HC.out, HGC.out⟩
        case measure => simp [intOf]; omega
      · have e : k = n := by omega
        subst e
        rw [mixA_full _ _ k hxl (marksR_len _ _)] at hown
        go_wp2
        go_ret
        exact ⟨rfl, hown, hgr⟩
set_option maxRecDepth 100000 in
set_option maxHeartbeats 8000000 in
theorem c_heldR (a : Option Addr) (n cap k0 : Nat) (w : World) (hr : RdR w a n (marksR k0 n)) (h1 : 1 ≤ k0) (hn : n ≤ 2097152) (hk : k0 ≤ 8796093022208) :
    Calls Try.prog 13 #[.slice a n cap, .int .i64 k0] w fun e w' => e = .returned (.int .i64 (k0 + n * 7 : Nat)) ∧ Below w.heap.size w w' := by
  obtain ⟨hl, hcs⟩ := hr
  go_enter Try.func13, Try.ntmps13
  go_wp2
  go_loopw [1, 5] (fun m i wr => ∃ k : Nat, k ≤ n ∧ i = .int .i64 k ∧ m = .int .i64 ((k0 + k * 7 : Nat) : Int) ∧ Below w.heap.size w wr) (fun _ i _ => n - (intOf i).toNat)
  case atStart => exact ⟨0, by omega, rfl, by simp, Below.refl _ _⟩
  case round =>
    obtain ⟨k, hk, rfl, rfl, hb⟩ := hrel
    by_cases hlt : k < n
    · obtain ⟨b, off, rfl, hbl, hc⟩ := hcs (by omega)
      obtain ⟨d0, d1, d2, d3, d4, d5, d6⟩ := RdR.at hc hlt (marksR_val k0 n k hlt).symm
      dsimp only at d0 d1 d2 d3 d4 d5 d6
      have e0 : wr.cell? ⟨b, off + k * 7, none⟩ = some (.int .i64 ((k0 : Int) + (k : Int) * 7)) := by rw [hb.cell (p := ⟨b, off + k * 7, none⟩) hbl, d0]
      have e1 : wr.cell? ⟨b, off + k * 7 + 1, none⟩ = some (.int .i64 ((k0 : Int) + (k : Int) * 7 + 1)) := by rw [hb.cell (p := ⟨b, off + k * 7 + 1, none⟩) hbl, d1]
      have e2 : wr.cell? ⟨b, off + k * 7 + 2, none⟩ = some (.int .i64 ((k0 : Int) + (k : Int) * 7 + 2)) := by rw [hb.cell (p := ⟨b, off + k * 7 + 2, none⟩) hbl, d2]
      have e3 : wr.cell? ⟨b, off + k * 7 + 3, none⟩ = some (.string (mtext (k0 + k * 7 + 3))) := by rw [hb.cell (p := ⟨b, off + k * 7 + 3, none⟩) hbl, d3]
      have e4 : wr.cell? ⟨b, off + k * 7 + 4, none⟩ = some (.int .i64 ((k0 : Int) + (k : Int) * 7 + 4)) := by rw [hb.cell (p := ⟨b, off + k * 7 + 4, none⟩) hbl, d4]
      have e5 : wr.cell? ⟨b, off + k * 7 + 5, none⟩ = some (.int .i64 ((k0 : Int) + (k : Int) * 7 + 5)) := by rw [hb.cell (p := ⟨b, off + k * 7 + 5, none⟩) hbl, d5]
      have e6 : wr.cell? ⟨b, off + k * 7 + 6, none⟩ = some (.string (mtext (k0 + k * 7 + 6))) := by rw [hb.cell (p := ⟨b, off + k * 7 + 6, none⟩) hbl, d6]
      have g1 : (0 : Int) ≤ (k : Int) := by omega
      have g2 : (k : Int) < (n : Int) := by omega
      clear hc hcs d0 d1 d2 d3 d4 d5 d6
      go_wp2_with fail
      go_region_held3 (fun x => x.cell? ⟨b, off + k * 7 + 3, none⟩ = some (.string (mtext (k0 + k * 7 + 3)))) (first | go_keep | (rw [hb3.cell (p := ⟨b, off + k * 7 + 3, none⟩) (World.block_lt_of_cell? _ ⟨b, off + k * 7 + 3, none⟩ (by assumption))]; assumption))
        (first | (go_at_call 27; refine (c_mtextI2 _ (k0 + k * 7 + 3) _ (by omega) (by omega) (by omega)).mono ?_; rintro e w3 ⟨rfl, hb3⟩))
      have y4 : w3.cell? ⟨b, off + k * 7 + 4, none⟩ = some (.int .i64 ((k0 : Int) + (k : Int) * 7 + 4)) := by rw [hb3.cell (p := ⟨b, off + k * 7 + 4, none⟩) (World.block_lt_of_cell? _ ⟨b, off + k * 7 + 4, none⟩ e4)]; exact e4
      have y5 : w3.cell? ⟨b, off + k * 7 + 5, none⟩ = some (.int .i64 ((k0 : Int) + (k : Int) * 7 + 5)) := by rw [hb3.cell (p := ⟨b, off + k * 7 + 5, none⟩) (World.block_lt_of_cell? _ ⟨b, off + k * 7 + 5, none⟩ e5)]; exact e5
      have y6 : w3.cell? ⟨b, off + k * 7 + 6, none⟩ = some (.string (mtext (k0 + k * 7 + 6))) := by rw [hb3.cell (p := ⟨b, off + k * 7 + 6, none⟩) (World.block_lt_of_cell? _ ⟨b, off + k * 7 + 6, none⟩ e6)]; exact e6
      have hb0' : Below w.heap.size w w3 := hb.drew.trans (hb3.mono hb.size)
      clear hb3 e0 e1 e2 e3 e4 e5 e6 hb
      have e4 := y4
      clear y4
      have e5 := y5
      clear y5
      have e6 := y6
      clear y6
      go_wp2_with fail
      go_region_held3 (fun x => x.cell? ⟨b, off + k * 7 + 6, none⟩ = some (.string (mtext (k0 + k * 7 + 6)))) (first | go_keep | (rw [hb3.cell (p := ⟨b, off + k * 7 + 6, none⟩) (World.block_lt_of_cell? _ ⟨b, off + k * 7 + 6, none⟩ (by assumption))]; assumption))
        (first | (go_at_call 27; refine (c_mtextI2 _ (k0 + k * 7 + 6) _ (by omega) (by omega) (by omega)).mono ?_; rintro e w4 ⟨rfl, hb3⟩))
      have hb1' : Below w.heap.size w w4 := hb0'.drew.trans (hb3.mono hb0'.size)
      clear hb3 e4 e5 e6 hb0'
      go_wp2
      go_roundw
      case rel => exact ⟨k + 1, by omega, by go_num, by go_num, hb1'⟩
      case measure => simp [intOf]; omega
    · have e : k = n := by omega
      subst e
      go_wp2
      go_ret
      exact ⟨rfl, hb⟩

end Go.Proofs.Ytiobobocjokgiaa
