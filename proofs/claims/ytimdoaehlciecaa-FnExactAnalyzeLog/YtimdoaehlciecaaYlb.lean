/-
  Lists of records: marks.
-/
import Derived.Test.YtimdoaehlciecaaYla
import Derived.Test.YtimdoaehlciecaaAa
namespace Go.Proofs.Ytimdoaehlciecaa
open Go Go.RowKit
attribute [local go_sem ↓] Go.wp_at_zero Go.wp_at_succ

set_option maxHeartbeats 1000000 in
theorem c_mtext2 (k0 : Nat) (w : World) (h1 : 1 ≤ k0) (h2 : k0 ≤ 17592186044416) :
    Calls Try.prog 32 #[.int .i64 k0] w fun e w' => e = .returned (.string (mtext k0)) ∧ Below w.heap.size w w' := by
  have hk0 : ¬ (k0 : Int) ≤ 0 := by omega
  go_enter Try.func32, Try.ntmps32
  go_wp2
  go_loopw [0, 3] (fun x o wr => ∃ (k f : Nat) (out : List UInt8), k ≤ f ∧ out.length + k ≤ k0 ∧ x = .int .i64 k ∧ o = .string ⟨out.toArray⟩ ∧ Hid (mt f k out = mt k0 k0 []) ∧ Below w.heap.size w wr) (fun x _ _ => (intOf x).toNat)
  case atStart => exact ⟨k0, k0, [], Nat.le_refl _, by simp, rfl, rfl, rfl, Below.refl _ _⟩
  case round =>
    obtain ⟨k, f, out, hkf, hol, rfl, rfl, HM, hb⟩ := hrel
    have hsz : (⟨out.toArray⟩ : ByteArray).size = out.length := by simp [ByteArray.size]
    by_cases hlt : 0 < k
    · have hcv := conv_dig k wr
      obtain ⟨f', hf', hst⟩ := mt_step (out := out) hlt hkf
      have HS : Hid (_ = _) := hst
      have hs1 : (⟨#[digC k]⟩ : ByteArray).size = 1 := rfl
      clear hst
      go_wp2
      go_roundw
      case rel => exact ⟨k / 10, f', digC k :: out, hf', by simp; omega, by go_num, str_val (cat_cons _ _), HS.out.symm.trans HM.out, hb.alloc (hb.size) _⟩
      case measure => simp [intOf]; omega
    · have e : k = 0 := by omega
      subst e
      have hs1 : (⟨#[109]⟩ : ByteArray).size = 1 := rfl
      go_wp2
      go_ret
      exact ⟨ret_str (by rw [cat_cons]; unfold mtext; rw [← HM.out, mt_end]), hb⟩

theorem c_mtextI2 (x : Int) (k : Nat) (w : World) (hx : x = k) (h1 : 1 ≤ k) (h2 : k ≤ 17592186044416) :
    Calls Try.prog 32 #[.int .i64 x] w fun e w' => e = .returned (.string (mtext k)) ∧ Below w.heap.size w w' := by
  subst hx; exact c_mtext2 k w h1 h2
def mQ (k0 i : Nat) : DR := ⟨((k0 + i * 10 : Nat) : Int), ((k0 + i * 10 + 1 : Nat) : Int), ((k0 + i * 10 + 2 : Nat) : Int), ((k0 + i * 10 + 3 : Nat) : Int), ((k0 + i * 10 + 4 : Nat) : Int), ((k0 + i * 10 + 5 : Nat) : Int), ((k0 + i * 10 + 6 : Nat) : Int), ((k0 + i * 10 + 7 : Nat) : Int), mtext (k0 + i * 10 + 8), mtext (k0 + i * 10 + 9)⟩
def marksQ (k0 n : Nat) : List DR := (List.range n).map (mQ k0)
theorem marksQ_len (k0 n : Nat) : (marksQ k0 n).length = n := by simp [marksQ]
theorem marksQ_get (k0 n k : Nat) (h : k < n) : (marksQ k0 n).getD k zeroR = mQ k0 k := by
  unfold marksQ; rw [List.getD_eq_getElem?_getD, List.getElem?_map, List.getElem?_range h]; rfl
theorem marksQ_val (k0 n k : Nat) (h : k < n) : (marksQ k0 n).getD k zeroR = ⟨(k0 : Int) + (k : Int) * 10, (k0 : Int) + (k : Int) * 10 + 1, (k0 : Int) + (k : Int) * 10 + 2, (k0 : Int) + (k : Int) * 10 + 3, (k0 : Int) + (k : Int) * 10 + 4, (k0 : Int) + (k : Int) * 10 + 5, (k0 : Int) + (k : Int) * 10 + 6, (k0 : Int) + (k : Int) * 10 + 7, mtext (k0 + k * 10 + 8), mtext (k0 + k * 10 + 9)⟩ := by rw [marksQ_get _ _ _ h]; unfold mQ; simp
set_option maxRecDepth 100000 in
set_option maxHeartbeats 8000000 in
theorem c_markQ (base : Nat) (v : Value) (n k0 : Nat) (xs : List DR) (w : World) (hown : w.ownsRow base 43 10 v n (cellsQ xs)) (h1 : 1 ≤ k0) (hn : n ≤ 2097152) (hk : k0 ≤ 8796093022208) :
    Calls Try.prog 15 #[v, .int .i64 k0] w fun e w' => e = .returned (.int .i64 (k0 + n * 10 : Nat)) ∧ w'.ownsRow base 43 10 v n (cellsQ (marksQ k0 n)) ∧ w.grownBy w' v.ownBlock := by
  have hxl : xs.length = n := by have := hown.1; rw [cellsQ_len] at this; omega
  rcases own_form hown with ⟨rfl, rfl⟩ | ⟨g, cap, rfl, hg1, hg2⟩
  · go_enter Try.func15, Try.ntmps15
    go_wp2
    refine wp_loop_rounds 1 ?_
    rw [rounds_succ]
    go_wp2
    go_ret
    exact ⟨by simp, by simpa [marksQ, cellsQ] using World.ownsRow_nil w base 43 10, World.grownBy.refl _ _⟩
  · go_enter Try.func15, Try.ntmps15
    go_wp2
    go_loopw [1, 5] (fun m i wr => ∃ k : Nat, k ≤ n ∧ i = .int .i64 k ∧ m = .int .i64 ((k0 + k * 10 : Nat) : Int) ∧ wr.ownsRow base 43 10 (.slice (some ⟨g, 0, none⟩) n cap) n (cellsQ (mixA (marksQ k0 n) xs k)) ∧ w.grownBy wr (some g)) (fun _ i _ => n - (intOf i).toNat)
    case atStart => exact ⟨0, by omega, rfl, by simp, by rw [mixA_zero]; exact hown, World.grownBy.refl _ _⟩
    case round =>
      obtain ⟨k, hk, rfl, rfl, hown, hgr⟩ := hrel
      by_cases hlt : k < n
      · have hml := mixA_len (marksQ k0 n) xs n k hxl (marksQ_len _ _) hk
        obtain ⟨L, hL⟩ : ∃ L, L = cellsQ (mixA (marksQ k0 n) xs k) := ⟨_, rfl⟩
        have hLl : L.length = n * 10 := by rw [hL, cellsQ_len, hml]
        have HS : Hid (setQ L (k * 10) ⟨(k0 : Int) + (k : Int) * 10, (k0 : Int) + (k : Int) * 10 + 1, (k0 : Int) + (k : Int) * 10 + 2, (k0 : Int) + (k : Int) * 10 + 3, (k0 : Int) + (k : Int) * 10 + 4, (k0 : Int) + (k : Int) * 10 + 5, (k0 : Int) + (k : Int) * 10 + 6, (k0 : Int) + (k : Int) * 10 + 7, mtext (k0 + k * 10 + 8), mtext (k0 + k * 10 + 9)⟩ = cellsQ (mixA (marksQ k0 n) xs (k + 1))) := by
          unfold Hid
          have hset := cellsQ_set (mixA (marksQ k0 n) xs k) k ((marksQ k0 n).getD k zeroR) (by omega)
          rw [mixA_step _ _ n k zeroR hxl (marksQ_len _ _) hlt, marksQ_val _ _ _ hlt, ← hL] at hset
          exact hset
        rw [← hL] at hown
        clear hL
        obtain ⟨u0, q0⟩ : ∃ u, L[k * 10]? = some u := ⟨_, List.getElem?_eq_getElem (by omega)⟩
        have f0 := hown.cellAt (k * 10) (by omega)
        rw [q0] at f0
        have z0 := hown.frozenAt (k * 10)
        obtain ⟨u1, q1⟩ : ∃ u, L[k * 10 + 1]? = some u := ⟨_, List.getElem?_eq_getElem (by omega)⟩
        have f1 := hown.cellAt (k * 10 + 1) (by omega)
        rw [q1] at f1
        have z1 := hown.frozenAt (k * 10 + 1)
        obtain ⟨u2, q2⟩ : ∃ u, L[k * 10 + 2]? = some u := ⟨_, List.getElem?_eq_getElem (by omega)⟩
        have f2 := hown.cellAt (k * 10 + 2) (by omega)
        rw [q2] at f2
        have z2 := hown.frozenAt (k * 10 + 2)
        obtain ⟨u3, q3⟩ : ∃ u, L[k * 10 + 3]? = some u := ⟨_, List.getElem?_eq_getElem (by omega)⟩
        have f3 := hown.cellAt (k * 10 + 3) (by omega)
        rw [q3] at f3
        have z3 := hown.frozenAt (k * 10 + 3)
        obtain ⟨u4, q4⟩ : ∃ u, L[k * 10 + 4]? = some u := ⟨_, List.getElem?_eq_getElem (by omega)⟩
        have f4 := hown.cellAt (k * 10 + 4) (by omega)
        rw [q4] at f4
        have z4 := hown.frozenAt (k * 10 + 4)
        obtain ⟨u5, q5⟩ : ∃ u, L[k * 10 + 5]? = some u := ⟨_, List.getElem?_eq_getElem (by omega)⟩
        have f5 := hown.cellAt (k * 10 + 5) (by omega)
        rw [q5] at f5
        have z5 := hown.frozenAt (k * 10 + 5)
        obtain ⟨u6, q6⟩ : ∃ u, L[k * 10 + 6]? = some u := ⟨_, List.getElem?_eq_getElem (by omega)⟩
        have f6 := hown.cellAt (k * 10 + 6) (by omega)
        rw [q6] at f6
        have z6 := hown.frozenAt (k * 10 + 6)
        obtain ⟨u7, q7⟩ : ∃ u, L[k * 10 + 7]? = some u := ⟨_, List.getElem?_eq_getElem (by omega)⟩
        have f7 := hown.cellAt (k * 10 + 7) (by omega)
        rw [q7] at f7
        have z7 := hown.frozenAt (k * 10 + 7)
        obtain ⟨s0, t0⟩ := hown.stored (k * 10) (.int .i64 ((k0 : Int) + (k : Int) * 10))
        obtain ⟨s1, t1⟩ := s0.stored (k * 10 + 1) (.int .i64 ((k0 : Int) + (k : Int) * 10 + 1))
        obtain ⟨s2, t2⟩ := s1.stored (k * 10 + 2) (.int .i64 ((k0 : Int) + (k : Int) * 10 + 2))
        obtain ⟨s3, t3⟩ := s2.stored (k * 10 + 3) (.int .i64 ((k0 : Int) + (k : Int) * 10 + 3))
        obtain ⟨s4, t4⟩ := s3.stored (k * 10 + 4) (.int .i64 ((k0 : Int) + (k : Int) * 10 + 4))
        obtain ⟨s5, t5⟩ := s4.stored (k * 10 + 5) (.int .i64 ((k0 : Int) + (k : Int) * 10 + 5))
        obtain ⟨s6, t6⟩ := s5.stored (k * 10 + 6) (.int .i64 ((k0 : Int) + (k : Int) * 10 + 6))
        obtain ⟨s7, t7⟩ := s6.stored (k * 10 + 7) (.int .i64 ((k0 : Int) + (k : Int) * 10 + 7))
        have HB : Hid (World.ownsRow _ base 43 10 (.slice (some ⟨g, 0, none⟩) n cap) n _) := s7
        have HGB : Hid (w.grownBy _ (some g)) := ((((((((hgr.trans t0).trans t1).trans t2).trans t3).trans t4).trans t5).trans t6).trans t7)
        clear s0 t0 q0 s1 t1 q1 s2 t2 q2 s3 t3 q3 s4 t4 q4 s5 t5 q5 s6 t6 q6 s7 t7 q7 hown hgr
        go_wp2_with fail
        refine (c_mtextI2 _ (k0 + k * 10 + 8) _ (by omega) (by omega) (by omega)).mono ?_
        rintro e w3 ⟨rfl, hb3⟩
        have hown3 := own_below HB.out hb3
        have HG3 : Hid (w.grownBy w3 (some g)) := HGB.out.trans (grown_of_below hb3 (some g))
        clear f0 z0 f1 z1 f2 z2 f3 z3 f4 z4 f5 z5 f6 z6 f7 z7 HB HGB hb3
        have hl3 := hown3.1
        obtain ⟨u8, q8⟩ : ∃ u, w3.cell? ⟨g, k * 10 + 8, none⟩ = some u := ⟨_, (hown3.cellAt (k * 10 + 8) (by omega)).trans (List.getElem?_eq_getElem (by omega))⟩
        have z8 := hown3.frozenAt (k * 10 + 8)
        obtain ⟨s8, t8⟩ := hown3.stored (k * 10 + 8) (.string (mtext (k0 + k * 10 + 8)))
        have HB : Hid (World.ownsRow _ base 43 10 (.slice (some ⟨g, 0, none⟩) n cap) n _) := s8
        have HGB : Hid (w.grownBy _ (some g)) := HG3.out.trans t8
        clear s8 t8 hown3 HG3 hl3
        go_wp2_with fail
        refine (c_mtextI2 _ (k0 + k * 10 + 9) _ (by omega) (by omega) (by omega)).mono ?_
        rintro e w4 ⟨rfl, hb4⟩
        have hown4 := own_below HB.out hb4
        have HG4 : Hid (w.grownBy w4 (some g)) := HGB.out.trans (grown_of_below hb4 (some g))
        clear q8 z8 HB HGB hb4
        have hl4 := hown4.1
        obtain ⟨u9, q9⟩ : ∃ u, w4.cell? ⟨g, k * 10 + 9, none⟩ = some u := ⟨_, (hown4.cellAt (k * 10 + 9) (by omega)).trans (List.getElem?_eq_getElem (by omega))⟩
        have z9 := hown4.frozenAt (k * 10 + 9)
        obtain ⟨s9, t9⟩ := hown4.stored (k * 10 + 9) (.string (mtext (k0 + k * 10 + 9)))
        have HC : Hid (World.ownsRow (w4.setCell ⟨g, k * 10 + 9, none⟩ (.string (mtext (k0 + k * 10 + 9)))) base 43 10 (.slice (some ⟨g, 0, none⟩) n cap) n (cellsQ (mixA (marksQ k0 n) xs (k + 1)))) := by
          unfold Hid
          rw [← HS.out]
          exact s9
        have HGC : Hid (w.grownBy _ (some g)) := HG4.out.trans t9
        clear s9 t9 hown4 HG4 hl4
        go_wp2
        go_roundw
        case rel => exact ⟨k + 1, by omega, by go_num, by go_num, HC.out, HGC.out⟩
        case measure => simp [intOf]; omega
      · have e : k = n := by omega
        subst e
        rw [mixA_full _ _ k hxl (marksQ_len _ _)] at hown
        go_wp2
        go_ret
        exact ⟨rfl, hown, hgr⟩

end Go.Proofs.Ytimdoaehlciecaa
