/-
  Lists of records: what was marked is held.
-/
import Derived.Test.YtfibdpfhfgnbiaaGreatDoorDkq
import Derived.Deep.RegionHeld3
import Derived.Deep.DrawnRows
import Derived.Test.YtfibdpfhfgnbiaaGreatDoorZzal
namespace Go.Proofs.YtfibdpfhfgnbiaaGreatDoor
open Go Go.RowKit
attribute [local go_sem ↓] Go.wp_at_zero Go.wp_at_succ

set_option maxHeartbeats 1000000 in
theorem c_mtext2 (k0 : Nat) (w : World) (h1 : 1 ≤ k0) (h2 : k0 ≤ 17592186044416) :
    Calls Tryz.prog 193 #[.int .i64 k0] w fun e w' => e = .returned (.string (mtext k0)) ∧ Below w.heap.size w w' := by
  have hk0 : ¬ (k0 : Int) ≤ 0 := by omega
  go_enter Tryz.func193, Tryz.ntmps193
  go_wp2
  go_loopw [0, 3] (fun x o wr => ∃ (k f : Nat) (out : List UInt8), k ≤ f ∧ out.length + k ≤ k0 ∧ x = .int .i64 k ∧ o = .string ⟨out.toArray⟩ ∧ Hid (mt f k out = mt k0 k0 []) ∧ Below w.heap.size w wr) (fun x _ _ => (intOf x).toNat)
  case atStart => exact ⟨k0, k0, [], Nat.le_refl _, by simp, rfl, rfl, rfl, Below.refl _ _⟩
  case round =>
    obtain ⟨k, f, out, hkf, hol, rfl, rfl, HM, hb⟩ := hrel
    have hsz : (⟨out.toArray⟩ : ByteArray).size = out.length := by simp [ByteArray.size]
    by_cases hlt : 0 < k
    · have hcv := conv_dig k wr
      obtain ⟨f', hf', hst⟩ := mt_step (out := out) hlt hkf
      have HS : Hid (_ = _) := hst
      have hs1 : (⟨#[digC k]⟩ : ByteArray).size = 1 := rfl
      clear hst
      go_wp2
      go_roundw
      case rel => exact ⟨k / 10, f', digC k :: out, hf', by simp; omega, by go_num, str_val (cat_cons _ _), HS.out.symm.trans HM.out, hb.alloc (hb.size) _⟩
      case measure => simp [intOf]; omega
    · have e : k = 0 := by omega
      subst e
      have hs1 : (⟨#[109]⟩ : ByteArray).size = 1 := rfl
      go_wp2
      go_ret
      exact ⟨ret_str (by rw [cat_cons]; unfold mtext; rw [← HM.out, mt_end]), hb⟩

theorem c_mtextI2 (x : Int) (k : Nat) (w : World) (hx : x = k) (h1 : 1 ≤ k) (h2 : k ≤ 17592186044416) :
    Calls Tryz.prog 193 #[.int .i64 x] w fun e w' => e = .returned (.string (mtext k)) ∧ Below w.heap.size w w' := by
  subst hx; exact c_mtext2 k w h1 h2
set_option maxHeartbeats 1000000 in
theorem c_markS2 (base : Nat) (v : Value) (n k0 : Nat) (xs : List Value) (w : World) (hown : w.ownsRow base 9 1 v n xs) (h1 : 1 ≤ k0) (hn : n ≤ 2097152) (hk : k0 ≤ 8796093022208) :
    Calls Tryz.prog 191 #[v, .int .i64 k0] w fun e w' => e = .returned (.int .i64 (k0 + n : Nat)) ∧ w'.ownsRow base 9 1 v n (marksS k0 n) ∧ w.grownBy w' v.ownBlock := by
  have hxl : xs.length = n := by simpa using hown.1
  rcases own_form hown with ⟨rfl, rfl⟩ | ⟨g, cap, rfl, hg1, hg2⟩
  · go_enter Tryz.func191, Tryz.ntmps191
    go_wp2
    refine wp_loop_rounds 1 ?_
    rw [rounds_succ]
    go_wp2
    go_ret
    exact ⟨by simp, by simpa [marksS] using World.ownsRow_nil w base 9 1, World.grownBy.refl _ _⟩
  · go_enter Tryz.func191, Tryz.ntmps191
    go_wp2
    go_loopw [1, 5] (fun m i wr => ∃ k : Nat, k ≤ n ∧ i = .int .i64 k ∧ m = .int .i64 ((k0 + k : Nat) : Int) ∧ wr.ownsRow base 9 1 (.slice (some ⟨g, 0, none⟩) n cap) n (mixV (marksS k0 n) xs k) ∧ w.grownBy wr (some g)) (fun _ i _ => n - (intOf i).toNat)
    case atStart => exact ⟨0, by omega, rfl, rfl, by rw [mixV_zero]; exact hown, World.grownBy.refl _ _⟩
    case round =>
      obtain ⟨k, hk, rfl, rfl, hown, hgr⟩ := hrel
      by_cases hlt : k < n
      · go_wp2_with fail
        refine (c_mtextI2 _ (k0 + k) _ (by omega) (by omega) (by omega)).mono ?_
        rintro e w1 ⟨rfl, hb1⟩
        have hown1 := own_below hown hb1
        have hgr1 := hgr.trans (grown_of_below hb1 (some g))
        obtain ⟨old, hold⟩ : ∃ old, w1.cell? ⟨g, k, none⟩ = some old := by
          rw [hown1.cellAt k (by omega)]
          exact ⟨_, List.getElem?_eq_getElem (by rw [hown1.1]; omega)⟩
        have hfz := hown1.frozenAt k
        obtain ⟨hown2, hgr2⟩ := hown1.stored k (.string (mtext (k0 + k)))
        rw [mixV_step _ _ n k _ hxl (marksS_len _ _) hlt (marksS_get _ _ _ hlt)] at hown2
        have HO : Hid (_) := hown2
        have HG : Hid (_) := hgr1.trans hgr2
        clear hown2 hgr2 hown1 hgr1 hown hgr hb1
        go_wp2
        go_roundw
        case rel => exact ⟨k + 1, by omega, by go_num, by go_num, HO.out, HG.out⟩
        case measure => simp [intOf]; omega
      · have e : k = n := by omega
        subst e
        rw [mixV_full _ _ k hxl (marksS_len _ _)] at hown
        go_wp2
        go_ret
        exact ⟨rfl, hown, hgr⟩

set_option maxHeartbeats 1000000 in
theorem c_heldS2 (a : Option Addr) (n cap k0 : Nat) (w : World) (hr : RdV w a n (marksS k0 n)) (h1 : 1 ≤ k0) (hn : n ≤ 2097152) (hk : k0 ≤ 8796093022208) :
    Calls Tryz.prog 194 #[.slice a n cap, .int .i64 k0] w fun e w' => e = .returned (.int .i64 (k0 + n : Nat)) ∧ Below w.heap.size w w' := by
  obtain ⟨hl, hcs⟩ := hr
  go_enter Tryz.func194, Tryz.ntmps194
  go_wp2
  go_loopw [1, 5] (fun m i wr => ∃ k : Nat, k ≤ n ∧ i = .int .i64 k ∧ m = .int .i64 ((k0 + k : Nat) : Int) ∧ Below w.heap.size w wr) (fun _ i _ => n - (intOf i).toNat)
  case atStart => exact ⟨0, by omega, rfl, rfl, Below.refl _ _⟩
  case round =>
    obtain ⟨k, hk, rfl, rfl, hb⟩ := hrel
    by_cases hlt : k < n
    · obtain ⟨b, off, rfl, hbl, hc⟩ := hcs (by omega)
      have hck : wr.cell? ⟨b, off + k, none⟩ = some (.string (mtext (k0 + k))) := by
        rw [hb.cell (p := ⟨b, off + k, none⟩) hbl, hc k hlt, marksS_get _ _ _ hlt]
      have g1 : (0 : Int) ≤ (k : Int) := by omega
      have g2 : (k : Int) < (n : Int) := by omega
      clear hc hcs
      go_wp2_with fail
      go_region_held3 (fun x => x.cell? ⟨b, off + k, none⟩ = some (.string (mtext (k0 + k)))) (first | go_keep | (rw [hb3.cell (p := ⟨b, off + k, none⟩) (World.block_lt_of_cell? _ ⟨b, off + k, none⟩ (by assumption))]; assumption))
        (first | (go_at_call 193; refine (c_mtextI2 _ (k0 + k) _ (by omega) (by omega) (by omega)).mono ?_; rintro e w3 ⟨rfl, hb3⟩))
      have hb' : Below w.heap.size w w3 := hb.drew.trans (hb3.mono hb.size)
      clear hb3
      go_wp2
      go_roundw
      case rel => exact ⟨k + 1, by omega, by go_num, by go_num, hb'⟩
      case measure => simp [intOf]; omega
    · have e : k = n := by omega
      subst e
      go_wp2
      go_ret
      exact ⟨rfl, hb⟩

set_option maxHeartbeats 1000000 in
theorem c_markI2 (base : Nat) (v : Value) (n k0 : Nat) (xs : List Value) (w : World) (hown : w.ownsRow base 3 1 v n xs) (hn : n ≤ 2097152) (hk : k0 ≤ 8796093022208) :
    Calls Tryz.prog 28 #[v, .int .i64 k0] w fun e w' => e = .returned (.int .i64 (k0 + n : Nat)) ∧ w'.ownsRow base 3 1 v n ((marksI k0 n).map (Value.int .i64)) ∧ w.grownBy w' v.ownBlock := by
  have hxl : xs.length = n := by simpa using hown.1
  rcases own_form hown with ⟨rfl, rfl⟩ | ⟨g, cap, rfl, hg1, hg2⟩
  · go_enter Tryz.func28, Tryz.ntmps28
    go_wp2
    refine wp_loop_rounds 1 ?_
    rw [rounds_succ]
    go_wp2
    go_ret
    exact ⟨by simp, by simpa [marksI] using World.ownsRow_nil w base 3 1, World.grownBy.refl _ _⟩
  · go_enter Tryz.func28, Tryz.ntmps28
    go_wp2
    go_loopw [1, 5] (fun m i wr => ∃ k : Nat, k ≤ n ∧ i = .int .i64 k ∧ m = .int .i64 ((k0 + k : Nat) : Int) ∧ wr.ownsRow base 3 1 (.slice (some ⟨g, 0, none⟩) n cap) n (mixV ((marksI k0 n).map (Value.int .i64)) xs k) ∧ w.grownBy wr (some g)) (fun _ i _ => n - (intOf i).toNat)
    case atStart => exact ⟨0, by omega, rfl, rfl, by rw [mixV_zero]; exact hown, World.grownBy.refl _ _⟩
    case round =>
      obtain ⟨k, hk, rfl, rfl, hown, hgr⟩ := hrel
      by_cases hlt : k < n
      · obtain ⟨old, hold⟩ : ∃ old, wr.cell? ⟨g, k, none⟩ = some old := by
          rw [hown.cellAt k (by omega)]
          exact ⟨_, List.getElem?_eq_getElem (by rw [hown.1]; omega)⟩
        have hfz := hown.frozenAt k
        obtain ⟨hown2, hgr2⟩ := hown.stored k (.int .i64 ((k0 : Int) + (k : Int)))
        rw [mixV_step _ _ n k _ hxl (marksI_len _ _) hlt (by rw [marksI_get _ _ _ hlt]; simp)] at hown2
        have HO : Hid (_) := hown2
        have HG : Hid (_) := hgr.trans hgr2
        clear hown2 hgr2
        go_wp2
        go_roundw
        case rel => exact ⟨k + 1, by omega, by go_num, by go_num, HO.out, HG.out⟩
        case measure => simp [intOf]; omega
      · have e : k = n := by omega
        subst e
        rw [mixV_full _ _ k hxl (marksI_len _ _)] at hown
        go_wp2
        go_ret
        exact ⟨rfl, hown, hgr⟩
set_option maxRecDepth 100000 in
set_option maxHeartbeats 1000000 in
theorem c_heldI2 (a : Option Addr) (n cap k0 : Nat) (w : World) (hr : RdV w a n ((marksI k0 n).map (Value.int .i64))) (hn : n ≤ 2097152) (hk : k0 ≤ 8796093022208) :
    Calls Tryz.prog 46 #[.slice a n cap, .int .i64 k0] w fun e w' => e = .returned (.int .i64 (k0 + n : Nat)) ∧ w' = w := by
  obtain ⟨hl, hcs⟩ := hr
  go_enter Tryz.func46, Tryz.ntmps46
  go_wp2
  go_loop [1, 5] (fun m i => ∃ k : Nat, k ≤ n ∧ i = .int .i64 k ∧ m = .int .i64 ((k0 + k : Nat) : Int)) (fun _ i => n - (intOf i).toNat)
  case atStart => exact ⟨0, by omega, rfl, rfl⟩
  case round =>
    obtain ⟨k, hk, rfl, rfl⟩ := hrel
    by_cases hlt : k < n
    · obtain ⟨b, off, rfl, _, hc⟩ := hcs (by omega)
      have hck : w.cell? ⟨b, off + k, none⟩ = some (.int .i64 ((k0 : Int) + (k : Int))) := by
        rw [hc k hlt, marksI_get _ _ _ hlt]; simp
      clear hc hcs
      go_wp2
      go_round
      case rel => exact ⟨k + 1, by omega, by go_num, by go_num⟩
      case measure => simp [intOf]; omega
    · have e : k = n := by omega
      subst e
      go_wp2
      go_ret
      exact ⟨rfl, rfl⟩

end Go.Proofs.YtfibdpfhfgnbiaaGreatDoor
namespace Go.Proofs.YtfibdpfhfgnbiaaGreatDoor
open Go Go.RowKit
attribute [local go_sem ↓] Go.wp_at_zero Go.wp_at_succ

def mQ (k0 i : Nat) : DR := ⟨((k0 + i * 10 : Nat) : Int), ((k0 + i * 10 + 1 : Nat) : Int), ((k0 + i * 10 + 2 : Nat) : Int), ((k0 + i * 10 + 3 : Nat) : Int), ((k0 + i * 10 + 4 : Nat) : Int), ((k0 + i * 10 + 5 : Nat) : Int), ((k0 + i * 10 + 6 : Nat) : Int), ((k0 + i * 10 + 7 : Nat) : Int), mtext (k0 + i * 10 + 8), mtext (k0 + i * 10 + 9)⟩
def marksQ (k0 n : Nat) : List DR := (List.range n).map (mQ k0)
theorem marksQ_len (k0 n : Nat) : (marksQ k0 n).length = n := by simp [marksQ]
theorem marksQ_get (k0 n k : Nat) (h : k < n) : (marksQ k0 n).getD k zeroR = mQ k0 k := by
  unfold marksQ; rw [List.getD_eq_getElem?_getD, List.getElem?_map, List.getElem?_range h]; rfl
theorem marksQ_val (k0 n k : Nat) (h : k < n) : (marksQ k0 n).getD k zeroR = ⟨(k0 : Int) + (k : Int) * 10, (k0 : Int) + (k : Int) * 10 + 1, (k0 : Int) + (k : Int) * 10 + 2, (k0 : Int) + (k : Int) * 10 + 3, (k0 : Int) + (k : Int) * 10 + 4, (k0 : Int) + (k : Int) * 10 + 5, (k0 : Int) + (k : Int) * 10 + 6, (k0 : Int) + (k : Int) * 10 + 7, mtext (k0 + k * 10 + 8), mtext (k0 + k * 10 + 9)⟩ := by rw [marksQ_get _ _ _ h]; unfold mQ; simp
set_option maxRecDepth 100000 in
set_option maxHeartbeats 8000000 in
theorem c_markQ2 (base : Nat) (v : Value) (n k0 : Nat) (xs : List DR) (w : World) (hown : w.ownsRow base 78 10 v n (cellsQ xs)) (h1 : 1 ≤ k0) (hn : n ≤ 2097152) (hk : k0 ≤ 8796093022208) :
    Calls Tryz.prog 105 #[v, .int .i64 k0] w fun e w' => e = .returned (.int .i64 (k0 + n * 10 : Nat)) ∧ w'.ownsRow base 78 10 v n (cellsQ (marksQ k0 n)) ∧ w.grownBy w' v.ownBlock := by
  have hxl : xs.length = n := by have := hown.1; rw [cellsQ_len] at this; omega
  rcases own_form hown with ⟨rfl, rfl⟩ | ⟨g, cap, rfl, hg1, hg2⟩
  · go_enter Tryz.func105, Tryz.ntmps105
    go_wp2
    refine wp_loop_rounds 1 ?_
    rw [rounds_succ]
    go_wp2
    go_ret
    exact ⟨by simp, by simpa [marksQ, cellsQ] using World.ownsRow_nil w base 78 10, World.grownBy.refl _ _⟩
  · go_enter Tryz.func105, Tryz.ntmps105
    go_wp2
    go_loopw [1, 5] (fun m i wr => ∃ k : Nat, k ≤ n ∧ i = .int .i64 k ∧ m = .int .i64 ((k0 + k * 10 : Nat) : Int) ∧ wr.ownsRow base 78 10 (.slice (some ⟨g, 0, none⟩) n cap) n (cellsQ (mixA (marksQ k0 n) xs k)) ∧ w.grownBy wr (some g)) (fun _ i _ => n - (intOf i).toNat)
    case atStart => exact ⟨0, by omega, rfl, by simp, by rw [mixA_zero]; exact hown, World.grownBy.refl _ _⟩
    case round =>
      obtain ⟨k, hk, rfl, rfl, hown, hgr⟩ := hrel
      by_cases hlt : k < n
      · have hml := mixA_len (marksQ k0 n) xs n k hxl (marksQ_len _ _) hk
        obtain ⟨L, hL⟩ : ∃ L, L = cellsQ (mixA (marksQ k0 n) xs k) := ⟨_, rfl⟩
        have hLl : L.length = n * 10 := by rw [hL, cellsQ_len, hml]
        have HS : Hid (setQ L (k * 10) ⟨(k0 : Int) + (k : Int) * 10, (k0 : Int) + (k : Int) * 10 + 1, (k0 : Int) + (k : Int) * 10 + 2, (k0 : Int) + (k : Int) * 10 + 3, (k0 : Int) + (k : Int) * 10 + 4, (k0 : Int) + (k : Int) * 10 + 5, (k0 : Int) + (k : Int) * 10 + 6, (k0 : Int) + (k : Int) * 10 + 7, mtext (k0 + k * 10 + 8), mtext (k0 + k * 10 + 9)⟩ = cellsQ (mixA (marksQ k0 n) xs (k + 1))) := by
          unfold Hid
          have hset := cellsQ_set (mixA (marksQ k0 n) xs k) k ((marksQ k0 n).getD k zeroR) (by omega)
          rw [mixA_step _ _ n k zeroR hxl (marksQ_len _ _) hlt, marksQ_val _ _ _ hlt, ← hL] at hset
          exact hset
        rw [← hL] at hown
        clear hL
        obtain ⟨u0, q0⟩ : ∃ u, L[k * 10]? = some u := ⟨_, List.getElem?_eq_getElem (by omega)⟩
        have f0 := hown.cellAt (k * 10) (by omega)
        rw [q0] at f0
        have z0 := hown.frozenAt (k * 10)
        obtain ⟨u1, q1⟩ : ∃ u, L[k * 10 + 1]? = some u := ⟨_, List.getElem?_eq_getElem (by omega)⟩
        have f1 := hown.cellAt (k * 10 + 1) (by omega)
        rw [q1] at f1
        have z1 := hown.frozenAt (k * 10 + 1)
        obtain ⟨u2, q2⟩ : ∃ u, L[k * 10 + 2]? = some u := ⟨_, List.getElem?_eq_getElem (by omega)⟩
        have f2 := hown.cellAt (k * 10 + 2) (by omega)
        rw [q2] at f2
        have z2 := hown.frozenAt (k * 10 + 2)
        obtain ⟨u3, q3⟩ : ∃ u, L[k * 10 + 3]? = some u := ⟨_, List.getElem?_eq_getElem (by omega)⟩
        have f3 := hown.cellAt (k * 10 + 3) (by omega)
        rw [q3] at f3
        have z3 := hown.frozenAt (k * 10 + 3)
        obtain ⟨u4, q4⟩ : ∃ u, L[k * 10 + 4]? = some u := ⟨_, List.getElem?_eq_getElem (by omega)⟩
        have f4 := hown.cellAt (k * 10 + 4) (by omega)
        rw [q4] at f4
        have z4 := hown.frozenAt (k * 10 + 4)
        obtain ⟨u5, q5⟩ : ∃ u, L[k * 10 + 5]? = some u := ⟨_, List.getElem?_eq_getElem (by omega)⟩
        have f5 := hown.cellAt (k * 10 + 5) (by omega)
        rw [q5] at f5
        have z5 := hown.frozenAt (k * 10 + 5)
        obtain ⟨u6, q6⟩ : ∃ u, L[k * 10 + 6]? = some u := ⟨_, List.getElem?_eq_getElem (by omega)⟩
        have f6 := hown.cellAt (k * 10 + 6) (by omega)
        rw [q6] at f6
        have z6 := hown.frozenAt (k * 10 + 6)
        obtain ⟨u7, q7⟩ : ∃ u, L[k * 10 + 7]? = some u := ⟨_, List.getElem?_eq_getElem (by omega)⟩
        have f7 := hown.cellAt (k * 10 + 7) (by omega)
        rw [q7] at f7
        have z7 := hown.frozenAt (k * 10 + 7)
        obtain ⟨s0, t0⟩ := hown.stored (k * 10) (.int .i64 ((k0 : Int) + (k : Int) * 10))
        obtain ⟨s1, t1⟩ := s0.stored (k * 10 + 1) (.int .i64 ((k0 : Int) + (k : Int) * 10 + 1))
        obtain ⟨s2, t2⟩ := s1.stored (k * 10 + 2) (.int .i64 ((k0 : Int) + (k : Int) * 10 + 2))
        obtain ⟨s3, t3⟩ := s2.stored (k * 10 + 3) (.int .i64 ((k0 : Int) + (k : Int) * 10 + 3))
        obtain ⟨s4, t4⟩ := s3.stored (k * 10 + 4) (.int .i64 ((k0 : Int) + (k : Int) * 10 + 4))
        obtain ⟨s5, t5⟩ := s4.stored (k * 10 + 5) (.int .i64 ((k0 : Int) + (k : Int) * 10 + 5))
        obtain ⟨s6, t6⟩ := s5.stored (k * 10 + 6) (.int .i64 ((k0 : Int) + (k : Int) * 10 + 6))
        obtain ⟨s7, t7⟩ := s6.stored (k * 10 + 7) (.int .i64 ((k0 : Int) + (k : Int) * 10 + 7))
        have HB : Hid (World.ownsRow _ base 78 10 (.slice (some ⟨g, 0, none⟩) n cap) n _) := s7
        have HGB : Hid (w.grownBy _ (some g)) := ((((((((hgr.trans t0).trans t1).trans t2).trans t3).trans t4).trans t5).trans t6).trans t7)
        clear s0 t0 q0 s1 t1 q1 s2 t2 q2 s3 t3 q3 s4 t4 q4 s5 t5 q5 s6 t6 q6 s7 t7 q7 hown hgr
        go_wp2_with fail
        refine (c_mtextI2 _ (k0 + k * 10 + 8) _ (by omega) (by omega) (by omega)).mono ?_
        rintro e w3 ⟨rfl, hb3⟩
        have hown3 := own_below HB.out hb3
        have HG3 : Hid (w.grownBy w3 (some g)) := HGB.out.trans (grown_of_below hb3 (some g))
        clear f0 z0 f1 z1 f2 z2 f3 z3 f4 z4 f5 z5 f6 z6 f7 z7 HB HGB hb3
        have hl3 := hown3.1
        obtain ⟨u8, q8⟩ : ∃ u, w3.cell? ⟨g, k * 10 + 8, none⟩ = some u := ⟨_, (hown3.cellAt (k * 10 + 8) (by omega)).trans (List.getElem?_eq_getElem (by omega))⟩
        have z8 := hown3.frozenAt (k * 10 + 8)
        obtain ⟨s8, t8⟩ := hown3.stored (k * 10 + 8) (.string (mtext (k0 + k * 10 + 8)))
        have HB : Hid (World.ownsRow _ base 78 10 (.slice (some ⟨g, 0, none⟩) n cap) n _) := s8
        have HGB : Hid (w.grownBy _ (some g)) := HG3.out.trans t8
        clear s8 t8 hown3 HG3 hl3
        go_wp2_with fail
        refine (c_mtextI2 _ (k0 + k * 10 + 9) _ (by omega) (by omega) (by omega)).mono ?_
        rintro e w4 ⟨rfl, hb4⟩
        have hown4 := own_below HB.out hb4
        have HG4 : Hid (w.grownBy w4 (some g)) := HGB.out.trans (grown_of_below hb4 (some g))
        clear q8 z8 HB HGB hb4
        have hl4 := hown4.1
        obtain ⟨u9, q9⟩ : ∃ u, w4.cell? ⟨g, k * 10 + 9, none⟩ = some u := ⟨_, (hown4.cellAt (k * 10 + 9) (by omega)).trans (List.getElem?_eq_getElem (by omega))⟩
        have z9 := hown4.frozenAt (k * 10 + 9)
        obtain ⟨s9, t9⟩ := hown4.stored (k * 10 + 9) (.string (mtext (k0 + k * 10 + 9)))
        have HC : Hid (World.ownsRow (w4.setCell ⟨g, k * 10 + 9, none⟩ (.string (mtext (k0 + k * 10 + 9)))) base 78 10 (.slice (some ⟨g, 0, none⟩) n cap) n (cellsQ (mixA (marksQ k0 n) xs (k + 1)))) := by
          unfold Hid
          rw [← HS.out]
          exact s9
        have HGC : Hid (w.grownBy _ (some g)) := HG4.out.trans t9
        clear s9 t9 hown4 HG4 hl4
        go_wp2
        go_roundw
        case rel => exact ⟨k + 1, by omega, by go_num, by go_num, HC.out, HGC.out⟩
        case measure => simp [intOf]; omega
      · have e : k = n := by omega
        subst e
        rw [mixA_full _ _ k hxl (marksQ_len _ _)] at hown
        go_wp2
        go_ret
        exact ⟨rfl, hown, hgr⟩

end Go.Proofs.YtfibdpfhfgnbiaaGreatDoor
namespace Go.Proofs.YtfibdpfhfgnbiaaGreatDoor
open Go Go.RowKit
attribute [local go_sem ↓] Go.wp_at_zero Go.wp_at_succ

set_option maxRecDepth 100000 in
set_option maxHeartbeats 8000000 in
theorem c_heldQ2 (a : Option Addr) (n cap k0 : Nat) (w : World) (hr : RdQ w a n (marksQ k0 n)) (h1 : 1 ≤ k0) (hn : n ≤ 2097152) (hk : k0 ≤ 8796093022208) :
    Calls Tryz.prog 108 #[.slice a n cap, .int .i64 k0] w fun e w' => e = .returned (.int .i64 (k0 + n * 10 : Nat)) ∧ Below w.heap.size w w' := by
  obtain ⟨hl, hcs⟩ := hr
  go_enter Tryz.func108, Tryz.ntmps108
  go_wp2
  go_loopw [1, 5] (fun m i wr => ∃ k : Nat, k ≤ n ∧ i = .int .i64 k ∧ m = .int .i64 ((k0 + k * 10 : Nat) : Int) ∧ Below w.heap.size w wr) (fun _ i _ => n - (intOf i).toNat)
  case atStart => exact ⟨0, by omega, rfl, by simp, Below.refl _ _⟩
  case round =>
    obtain ⟨k, hk, rfl, rfl, hb⟩ := hrel
    by_cases hlt : k < n
    · obtain ⟨b, off, rfl, hbl, hc⟩ := hcs (by omega)
      obtain ⟨d0, d1, d2, d3, d4, d5, d6, d7, d8, d9⟩ := RdQ.at hc hlt (marksQ_val k0 n k hlt).symm
      dsimp only at d0 d1 d2 d3 d4 d5 d6 d7 d8 d9
      have e0 : wr.cell? ⟨b, off + k * 10, none⟩ = some (.int .i64 ((k0 : Int) + (k : Int) * 10)) := by rw [hb.cell (p := ⟨b, off + k * 10, none⟩) hbl, d0]
      have e1 : wr.cell? ⟨b, off + k * 10 + 1, none⟩ = some (.int .i64 ((k0 : Int) + (k : Int) * 10 + 1)) := by rw [hb.cell (p := ⟨b, off + k * 10 + 1, none⟩) hbl, d1]
      have e2 : wr.cell? ⟨b, off + k * 10 + 2, none⟩ = some (.int .i64 ((k0 : Int) + (k : Int) * 10 + 2)) := by rw [hb.cell (p := ⟨b, off + k * 10 + 2, none⟩) hbl, d2]
      have e3 : wr.cell? ⟨b, off + k * 10 + 3, none⟩ = some (.int .i64 ((k0 : Int) + (k : Int) * 10 + 3)) := by rw [hb.cell (p := ⟨b, off + k * 10 + 3, none⟩) hbl, d3]
      have e4 : wr.cell? ⟨b, off + k * 10 + 4, none⟩ = some (.int .i64 ((k0 : Int) + (k : Int) * 10 + 4)) := by rw [hb.cell (p := ⟨b, off + k * 10 + 4, none⟩) hbl, d4]
      have e5 : wr.cell? ⟨b, off + k * 10 + 5, none⟩ = some (.int .i64 ((k0 : Int) + (k : Int) * 10 + 5)) := by rw [hb.cell (p := ⟨b, off + k * 10 + 5, none⟩) hbl, d5]
      have e6 : wr.cell? ⟨b, off + k * 10 + 6, none⟩ = some (.int .i64 ((k0 : Int) + (k : Int) * 10 + 6)) := by rw [hb.cell (p := ⟨b, off + k * 10 + 6, none⟩) hbl, d6]
      have e7 : wr.cell? ⟨b, off + k * 10 + 7, none⟩ = some (.int .i64 ((k0 : Int) + (k : Int) * 10 + 7)) := by rw [hb.cell (p := ⟨b, off + k * 10 + 7, none⟩) hbl, d7]
      have e8 : wr.cell? ⟨b, off + k * 10 + 8, none⟩ = some (.string (mtext (k0 + k * 10 + 8))) := by rw [hb.cell (p := ⟨b, off + k * 10 + 8, none⟩) hbl, d8]
      have e9 : wr.cell? ⟨b, off + k * 10 + 9, none⟩ = some (.string (mtext (k0 + k * 10 + 9))) := by rw [hb.cell (p := ⟨b, off + k * 10 + 9, none⟩) hbl, d9]
      have g1 : (0 : Int) ≤ (k : Int) := by omega
      have g2 : (k : Int) < (n : Int) := by omega
      clear hc hcs d0 d1 d2 d3 d4 d5 d6 d7 d8 d9
      go_wp2_with fail
      go_region_held3 (fun x => x.cell? ⟨b, off + k * 10 + 8, none⟩ = some (.string (mtext (k0 + k * 10 + 8)))) (first | go_keep | (rw [hb3.cell (p := ⟨b, off + k * 10 + 8, none⟩) (World.block_lt_of_cell? _ ⟨b, off + k * 10 + 8, none⟩ (by assumption))]; assumption))
        (first | (go_at_call 193; refine (c_mtextI2 _ (k0 + k * 10 + 8) _ (by omega) (by omega) (by omega)).mono ?_; rintro e w3 ⟨rfl, hb3⟩))
      have hb' : Below w.heap.size w w3 := hb.drew.trans (hb3.mono hb.size)
      have k9 : w3.cell? ⟨b, off + k * 10 + 9, none⟩ = some (.string (mtext (k0 + k * 10 + 9))) := far6 hb3 e9
      clear hb3 e0 e1 e2 e3 e4 e5 e6 e7 e8 e9 hb
      go_wp2_with fail
      go_region_held3 (fun x => x.cell? ⟨b, off + k * 10 + 9, none⟩ = some (.string (mtext (k0 + k * 10 + 9)))) (first | go_keep | (rw [hb4.cell (p := ⟨b, off + k * 10 + 9, none⟩) (World.block_lt_of_cell? _ ⟨b, off + k * 10 + 9, none⟩ (by assumption))]; assumption))
        (first | (go_at_call 193; refine (c_mtextI2 _ (k0 + k * 10 + 9) _ (by omega) (by omega) (by omega)).mono ?_; rintro e w4 ⟨rfl, hb4⟩))
      have hb5 : Below w.heap.size w w4 := hb'.drew.trans (hb4.mono hb'.size)
      clear hb4 k9 hb'
      go_wp2
      go_roundw
      case rel => exact ⟨k + 1, by omega, by go_num, by go_num, hb5⟩
      case measure => simp [intOf]; omega
    · have e : k = n := by omega
      subst e
      go_wp2
      go_ret
      exact ⟨rfl, hb⟩

end Go.Proofs.YtfibdpfhfgnbiaaGreatDoor
