/-
  Marks of nodes and of instructions.
-/
import Derived.Test.YtepeaabacfjheaaKi
import Derived.Deep.RegionHeld3
namespace Go.Proofs.Ytepeaabacfjheaa
open Go Go.RowKit
attribute [local go_sem ↓] Go.wp_at_zero Go.wp_at_succ

set_option linter.unusedVariables false
set_option linter.unusedSimpArgs false
def mixA {α : Type} (ys xs : List α) (k : Nat) : List α := ys.take k ++ xs.drop k
theorem mixA_zero {α : Type} (ys xs : List α) : mixA ys xs 0 = xs := by simp [mixA]
theorem mixA_len {α : Type} (ys xs : List α) (n k : Nat) (hx : xs.length = n) (hy : ys.length = n) (hk : k ≤ n) : (mixA ys xs k).length = n := by unfold mixA; simp; omega
theorem mixA_step {α : Type} (ys xs : List α) (n k : Nat) (d : α) (hx : xs.length = n) (hy : ys.length = n) (hk : k < n) : (mixA ys xs k).set k (ys.getD k d) = mixA ys xs (k + 1) := by
  unfold mixA
  have hl : (ys.take k).length = k := by simp; omega
  rw [List.set_append, if_neg (by omega), hl, Nat.sub_self, List.drop_eq_getElem_cons (show k < xs.length by omega), List.set_cons_zero, List.take_add_one, List.append_assoc, List.getD_eq_getElem?_getD, List.getElem?_eq_getElem (by omega)]
  rfl
theorem mixA_full {α : Type} (ys xs : List α) (n : Nat) (hx : xs.length = n) (hy : ys.length = n) : mixA ys xs n = ys := by
  unfold mixA; rw [List.take_of_length_le (by omega), List.drop_eq_nil_of_le (by omega)]; simp
set_option maxHeartbeats 1000000 in
theorem c_mtext2 (k0 : Nat) (w : World) (h1 : 1 ≤ k0) (h2 : k0 ≤ 17592186044416) :
    Calls Try.prog 22 #[.int .i64 k0] w fun e w' => e = .returned (.string (mtext k0)) ∧ Below w.heap.size w w' := by
  have hk0 : ¬ (k0 : Int) ≤ 0 := by omega
  go_enter Try.func22, Try.ntmps22
  go_wp2
  go_loopw [0, 3] (fun x o wr => ∃ (k f : Nat) (out : List UInt8), k ≤ f ∧ out.length + k ≤ k0 ∧ x = .int .i64 k ∧ o = .string ⟨out.toArray⟩ ∧ Hid (mt f k out = mt k0 k0 []) ∧ Below w.heap.size w wr) (fun x _ _ => (intOf x).toNat)
  case atStart => exact ⟨k0, k0, [], Nat.le_refl _, by simp, rfl, rfl, rfl, Below.refl _ _⟩
  case round =>
    obtain ⟨k, f, out, hkf, hol, rfl, rfl, HM, hb⟩ := hrel
    have hsz : (⟨out.toArray⟩ : ByteArray).size = out.length := by simp [ByteArray.size]
    by_cases hlt : 0 < k
    · have hcv := conv_dig k wr
      obtain ⟨f', hf', hst⟩ := mt_step (out := out) hlt hkf
      have HS : Hid (_ = _) := hst
      have hs1 : (⟨#[digC k]⟩ : ByteArray).size = 1 := rfl
      clear hst
      go_wp2
      go_roundw
      case rel => exact ⟨k / 10, f', digC k :: out, hf', by simp; omega, by go_num, str_val (cat_cons _ _), HS.out.symm.trans HM.out, hb.alloc (hb.size) _⟩
      case measure => simp [intOf]; omega
    · have e : k = 0 := by omega
      subst e
      have hs1 : (⟨#[109]⟩ : ByteArray).size = 1 := rfl
      go_wp2
      go_ret
      exact ⟨ret_str (by rw [cat_cons]; unfold mtext; rw [← HM.out, mt_end]), hb⟩

theorem c_mtextI2 (x : Int) (k : Nat) (w : World) (hx : x = k) (h1 : 1 ≤ k) (h2 : k ≤ 17592186044416) :
    Calls Try.prog 22 #[.int .i64 x] w fun e w' => e = .returned (.string (mtext k)) ∧ Below w.heap.size w w' := by
  subst hx; exact c_mtext2 k w h1 h2
--@e
def mE (k0 i : Nat) : EN := ⟨((k0 + i * 7 : Nat) : Int), ((k0 + i * 7 + 1 : Nat) : Int), ((k0 + i * 7 + 2 : Nat) : Int), ((k0 + i * 7 + 3 : Nat) : Int), ((k0 + i * 7 + 4 : Nat) : Int), ((k0 + i * 7 + 5 : Nat) : Int), mtext (k0 + i * 7 + 6)⟩
def marksE (k0 n : Nat) : List EN := (List.range n).map (mE k0)
theorem marksE_len (k0 n : Nat) : (marksE k0 n).length = n := by simp [marksE]
theorem marksE_get (k0 n k : Nat) (h : k < n) : (marksE k0 n).getD k zeroE = mE k0 k := by
  unfold marksE; rw [List.getD_eq_getElem?_getD, List.getElem?_map, List.getElem?_range h]; rfl
theorem marksE_val (k0 n k : Nat) (h : k < n) : (marksE k0 n).getD k zeroE = ⟨(k0 : Int) + (k : Int) * 7, (k0 : Int) + (k : Int) * 7 + 1, (k0 : Int) + (k : Int) * 7 + 2, (k0 : Int) + (k : Int) * 7 + 3, (k0 : Int) + (k : Int) * 7 + 4, (k0 : Int) + (k : Int) * 7 + 5, mtext (k0 + k * 7 + 6)⟩ := by rw [marksE_get _ _ _ h]; unfold mE; simp
set_option maxRecDepth 100000 in
set_option maxHeartbeats 8000000 in
theorem c_markE (base : Nat) (v : Value) (n k0 : Nat) (xs : List EN) (w : World) (hown : w.ownsRow base 62 7 v n (cellsE xs)) (h1 : 1 ≤ k0) (hn : n ≤ 2097152) (hk : k0 ≤ 8796093022208) :
    Calls Try.prog 21 #[v, .int .i64 k0] w fun e w' => e = .returned (.int .i64 (k0 + n * 7 : Nat)) ∧ w'.ownsRow base 62 7 v n (cellsE (marksE k0 n)) ∧ w.grownBy w' v.ownBlock := by
  have hxl : xs.length = n := by have := hown.1; rw [cellsE_len] at this; omega
  rcases own_form hown with ⟨rfl, rfl⟩ | ⟨g, cap, rfl, hg1, hg2⟩
  · go_enter Try.func21, Try.ntmps21
    go_wp2
    refine wp_loop_rounds 1 ?_
    rw [rounds_succ]
    go_wp2
    go_ret
    exact ⟨by simp, by simpa [marksE, cellsE] using World.ownsRow_nil w base 62 7, World.grownBy.refl _ _⟩
  · go_enter Try.func21, Try.ntmps21
    go_wp2
    go_loopw [1, 5] (fun m i wr => ∃ k : Nat, k ≤ n ∧ i = .int .i64 k ∧ m = .int .i64 ((k0 + k * 7 : Nat) : Int) ∧ wr.ownsRow base 62 7 (.slice (some ⟨g, 0, none⟩) n cap) n (cellsE (mixA (marksE k0 n) xs k)) ∧ w.grownBy wr (some g)) (fun _ i _ => n - (intOf i).toNat)
    case atStart => exact ⟨0, by omega, rfl, by simp, by rw [mixA_zero]; exact hown, World.grownBy.refl _ _⟩
    case round =>
      obtain ⟨k, hk, rfl, rfl, hown, hgr⟩ := hrel
      by_cases hlt : k < n
      · have hml := mixA_len (marksE k0 n) xs n k hxl (marksE_len _ _) hk
        obtain ⟨L, hL⟩ : ∃ L, L = cellsE (mixA (marksE k0 n) xs k) := ⟨_, rfl⟩
        have hLl : L.length = n * 7 := by rw [hL, cellsE_len, hml]
        have HS : Hid (setE L (k * 7) ⟨(k0 : Int) + (k : Int) * 7, (k0 : Int) + (k : Int) * 7 + 1, (k0 : Int) + (k : Int) * 7 + 2, (k0 : Int) + (k : Int) * 7 + 3, (k0 : Int) + (k : Int) * 7 + 4, (k0 : Int) + (k : Int) * 7 + 5, mtext (k0 + k * 7 + 6)⟩ = cellsE (mixA (marksE k0 n) xs (k + 1))) := by
          unfold Hid
          have hset := cellsE_set (mixA (marksE k0 n) xs k) k ((marksE k0 n).getD k zeroE) (by omega)
          rw [mixA_step _ _ n k zeroE hxl (marksE_len _ _) hlt, marksE_val _ _ _ hlt, ← hL] at hset
          exact hset
        rw [← hL] at hown
        clear hL
        obtain ⟨u0, q0⟩ : ∃ u, L[k * 7]? = some u := ⟨_, List.getElem?_eq_getElem (by omega)⟩
        have f0 := hown.cellAt (k * 7) (by omega)
        rw [q0] at f0
        have z0 := hown.frozenAt (k * 7)
        obtain ⟨u1, q1⟩ : ∃ u, L[k * 7 + 1]? = some u := ⟨_, List.getElem?_eq_getElem (by omega)⟩
        have f1 := hown.cellAt (k * 7 + 1) (by omega)
        rw [q1] at f1
        have z1 := hown.frozenAt (k * 7 + 1)
        obtain ⟨u2, q2⟩ : ∃ u, L[k * 7 + 2]? = some u := ⟨_, List.getElem?_eq_getElem (by omega)⟩
        have f2 := hown.cellAt (k * 7 + 2) (by omega)
        rw [q2] at f2
        have z2 := hown.frozenAt (k * 7 + 2)
        obtain ⟨u3, q3⟩ : ∃ u, L[k * 7 + 3]? = some u := ⟨_, List.getElem?_eq_getElem (by omega)⟩
        have f3 := hown.cellAt (k * 7 + 3) (by omega)
        rw [q3] at f3
        have z3 := hown.frozenAt (k * 7 + 3)
        obtain ⟨u4, q4⟩ : ∃ u, L[k * 7 + 4]? = some u := ⟨_, List.getElem?_eq_getElem (by omega)⟩
        have f4 := hown.cellAt (k * 7 + 4) (by omega)
        rw [q4] at f4
        have z4 := hown.frozenAt (k * 7 + 4)
        obtain ⟨u5, q5⟩ : ∃ u, L[k * 7 + 5]? = some u := ⟨_, List.getElem?_eq_getElem (by omega)⟩
        have f5 := hown.cellAt (k * 7 + 5) (by omega)
        rw [q5] at f5
        have z5 := hown.frozenAt (k * 7 + 5)
        obtain ⟨s0, t0⟩ := hown.stored (k * 7) (.int .i64 ((k0 : Int) + (k : Int) * 7))
        obtain ⟨s1, t1⟩ := s0.stored (k * 7 + 1) (.int .i64 ((k0 : Int) + (k : Int) * 7 + 1))
        obtain ⟨s2, t2⟩ := s1.stored (k * 7 + 2) (.int .i64 ((k0 : Int) + (k : Int) * 7 + 2))
        obtain ⟨s3, t3⟩ := s2.stored (k * 7 + 3) (.int .i64 ((k0 : Int) + (k : Int) * 7 + 3))
        obtain ⟨s4, t4⟩ := s3.stored (k * 7 + 4) (.int .i64 ((k0 : Int) + (k : Int) * 7 + 4))
        obtain ⟨s5, t5⟩ := s4.stored (k * 7 + 5) (.int .i64 ((k0 : Int) + (k : Int) * 7 + 5))
        have HB : Hid (World.ownsRow _ base 62 7 (.slice (some ⟨g, 0, none⟩) n cap) n _) := s5
        have HGB : Hid (w.grownBy _ (some g)) := ((((((hgr.trans t0).trans t1).trans t2).trans t3).trans t4).trans t5)
        clear s0 t0 q0 s1 t1 q1 s2 t2 q2 s3 t3 q3 s4 t4 q4 s5 t5 q5 hown hgr
        go_wp2_with fail
        refine (c_mtextI2 _ (k0 + k * 7 + 6) _ (by omega) (by omega) (by omega)).mono ?_
        rintro e w3 ⟨rfl, hb3⟩
        have hown3 := own_below HB.out hb3
        have HG3 : Hid (w.grownBy w3 (some g)) := HGB.out.trans (grown_of_below hb3 (some g))
        clear f0 z0 f1 z1 f2 z2 f3 z3 f4 z4 f5 z5 HB HGB hb3
        have hl3 := hown3.1
        obtain ⟨u9, q9⟩ : ∃ u, w3.cell? ⟨g, k * 7 + 6, none⟩ = some u := ⟨_, (hown3.cellAt (k * 7 + 6) (by omega)).trans (List.getElem?_eq_getElem (by omega))⟩
        have z9 := hown3.frozenAt (k * 7 + 6)
        obtain ⟨s9, t9⟩ := hown3.stored (k * 7 + 6) (.string (mtext (k0 + k * 7 + 6)))
        have HC : Hid (World.ownsRow (w3.setCell ⟨g, k * 7 + 6, none⟩ (.string (mtext (k0 + k * 7 + 6)))) base 62 7 (.slice (some ⟨g, 0, none⟩) n cap) n (cellsE (mixA (marksE k0 n) xs (k + 1)))) := by
          unfold Hid
          rw [← HS.out]
          exact s9
        have HGC : Hid (w.grownBy _ (some g)) := HG3.out.trans t9
        clear s9 t9 hown3 HG3 hl3
        go_wp2
        go_roundw
        case rel => exact ⟨k + 1, by omega, by go_num, by go_num, HC.out, HGC.out⟩
        case measure => simp [intOf]; omega
      · have e : k = n := by omega
        subst e
        rw [mixA_full _ _ k hxl (marksE_len _ _)] at hown
        go_wp2
        go_ret
        exact ⟨rfl, hown, hgr⟩
--@@
--@i
def mI (k0 i : Nat) : IN := ⟨((k0 + i * 5 : Nat) : Int), ((k0 + i * 5 + 1 : Nat) : Int), ((k0 + i * 5 + 2 : Nat) : Int), ((k0 + i * 5 + 3 : Nat) : Int), mtext (k0 + i * 5 + 4)⟩
def marksI (k0 n : Nat) : List IN := (List.range n).map (mI k0)
theorem marksI_len (k0 n : Nat) : (marksI k0 n).length = n := by simp [marksI]
theorem marksI_get (k0 n k : Nat) (h : k < n) : (marksI k0 n).getD k zeroI = mI k0 k := by
  unfold marksI; rw [List.getD_eq_getElem?_getD, List.getElem?_map, List.getElem?_range h]; rfl
theorem marksI_val (k0 n k : Nat) (h : k < n) : (marksI k0 n).getD k zeroI = ⟨(k0 : Int) + (k : Int) * 5, (k0 : Int) + (k : Int) * 5 + 1, (k0 : Int) + (k : Int) * 5 + 2, (k0 : Int) + (k : Int) * 5 + 3, mtext (k0 + k * 5 + 4)⟩ := by rw [marksI_get _ _ _ h]; unfold mI; simp
set_option maxRecDepth 100000 in
set_option maxHeartbeats 8000000 in
theorem c_markI (base : Nat) (v : Value) (n k0 : Nat) (xs : List IN) (w : World) (hown : w.ownsRow base 50 5 v n (cellsI xs)) (h1 : 1 ≤ k0) (hn : n ≤ 2097152) (hk : k0 ≤ 8796093022208) :
    Calls Try.prog 11 #[v, .int .i64 k0] w fun e w' => e = .returned (.int .i64 (k0 + n * 5 : Nat)) ∧ w'.ownsRow base 50 5 v n (cellsI (marksI k0 n)) ∧ w.grownBy w' v.ownBlock := by
  have hxl : xs.length = n := by have := hown.1; rw [cellsI_len] at this; omega
  rcases own_form hown with ⟨rfl, rfl⟩ | ⟨g, cap, rfl, hg1, hg2⟩
  · go_enter Try.func11, Try.ntmps11
    go_wp2
    refine wp_loop_rounds 1 ?_
    rw [rounds_succ]
    go_wp2
    go_ret
    exact ⟨by simp, by simpa [marksI, cellsI] using World.ownsRow_nil w base 50 5, World.grownBy.refl _ _⟩
  · go_enter Try.func11, Try.ntmps11
    go_wp2
    go_loopw [1, 5] (fun m i wr => ∃ k : Nat, k ≤ n ∧ i = .int .i64 k ∧ m = .int .i64 ((k0 + k * 5 : Nat) : Int) ∧ wr.ownsRow base 50 5 (.slice (some ⟨g, 0, none⟩) n cap) n (cellsI (mixA (marksI k0 n) xs k)) ∧ w.grownBy wr (some g)) (fun _ i _ => n - (intOf i).toNat)
    case atStart => exact ⟨0, by omega, rfl, by simp, by rw [mixA_zero]; exact hown, World.grownBy.refl _ _⟩
    case round =>
      obtain ⟨k, hk, rfl, rfl, hown, hgr⟩ := hrel
      by_cases hlt : k < n
      · have hml := mixA_len (marksI k0 n) xs n k hxl (marksI_len _ _) hk
        obtain ⟨L, hL⟩ : ∃ L, L = cellsI (mixA (marksI k0 n) xs k) := ⟨_, rfl⟩
        have hLl : L.length = n * 5 := by rw [hL, cellsI_len, hml]
        have HS : Hid (setI L (k * 5) ⟨(k0 : Int) + (k : Int) * 5, (k0 : Int) + (k : Int) * 5 + 1, (k0 : Int) + (k : Int) * 5 + 2, (k0 : Int) + (k : Int) * 5 + 3, mtext (k0 + k * 5 + 4)⟩ = cellsI (mixA (marksI k0 n) xs (k + 1))) := by
          unfold Hid
          have hset := cellsI_set (mixA (marksI k0 n) xs k) k ((marksI k0 n).getD k zeroI) (by omega)
          rw [mixA_step _ _ n k zeroI hxl (marksI_len _ _) hlt, marksI_val _ _ _ hlt, ← hL] at hset
          exact hset
        rw [← hL] at hown
        clear hL
        obtain ⟨u0, q0⟩ : ∃ u, L[k * 5]? = some u := ⟨_, List.getElem?_eq_getElem (by omega)⟩
        have f0 := hown.cellAt (k * 5) (by omega)
        rw [q0] at f0
        have z0 := hown.frozenAt (k * 5)
        obtain ⟨u1, q1⟩ : ∃ u, L[k * 5 + 1]? = some u := ⟨_, List.getElem?_eq_getElem (by omega)⟩
        have f1 := hown.cellAt (k * 5 + 1) (by omega)
        rw [q1] at f1
        have z1 := hown.frozenAt (k * 5 + 1)
        obtain ⟨u2, q2⟩ : ∃ u, L[k * 5 + 2]? = some u := ⟨_, List.getElem?_eq_getElem (by omega)⟩
        have f2 := hown.cellAt (k * 5 + 2) (by omega)
        rw [q2] at f2
        have z2 := hown.frozenAt (k * 5 + 2)
        obtain ⟨u3, q3⟩ : ∃ u, L[k * 5 + 3]? = some u := ⟨_, List.getElem?_eq_getElem (by omega)⟩
        have f3 := hown.cellAt (k * 5 + 3) (by omega)
        rw [q3] at f3
        have z3 := hown.frozenAt (k * 5 + 3)
        obtain ⟨s0, t0⟩ := hown.stored (k * 5) (.int .i64 ((k0 : Int) + (k : Int) * 5))
        obtain ⟨s1, t1⟩ := s0.stored (k * 5 + 1) (.int .i64 ((k0 : Int) + (k : Int) * 5 + 1))
        obtain ⟨s2, t2⟩ := s1.stored (k * 5 + 2) (.int .i64 ((k0 : Int) + (k : Int) * 5 + 2))
        obtain ⟨s3, t3⟩ := s2.stored (k * 5 + 3) (.int .i64 ((k0 : Int) + (k : Int) * 5 + 3))
        have HB : Hid (World.ownsRow _ base 50 5 (.slice (some ⟨g, 0, none⟩) n cap) n _) := s3
        have HGB : Hid (w.grownBy _ (some g)) := ((((hgr.trans t0).trans t1).trans t2).trans t3)
        clear s0 t0 q0 s1 t1 q1 s2 t2 q2 s3 t3 q3 hown hgr
        go_wp2_with fail
        refine (c_mtextI2 _ (k0 + k * 5 + 4) _ (by omega) (by omega) (by omega)).mono ?_
        rintro e w3 ⟨rfl, hb3⟩
        have hown3 := own_below HB.out hb3
        have HG3 : Hid (w.grownBy w3 (some g)) := HGB.out.trans (grown_of_below hb3 (some g))
        clear f0 z0 f1 z1 f2 z2 f3 z3 HB HGB hb3
        have hl3 := hown3.1
        obtain ⟨u9, q9⟩ : ∃ u, w3.cell? ⟨g, k * 5 + 4, none⟩ = some u := ⟨_, (hown3.cellAt (k * 5 + 4) (by omega)).trans (List.getElem?_eq_getElem (by omega))⟩
        have z9 := hown3.frozenAt (k * 5 + 4)
        obtain ⟨s9, t9⟩ := hown3.stored (k * 5 + 4) (.string (mtext (k0 + k * 5 + 4)))
        have HC : Hid (World.ownsRow (w3.setCell ⟨g, k * 5 + 4, none⟩ (.string (mtext (k0 + k * 5 + 4)))) base 50 5 (.slice (some ⟨g, 0, none⟩) n cap) n (cellsI (mixA (marksI k0 n) xs (k + 1)))) := by
          unfold Hid
          rw [← HS.out]
          exact s9
        have HGC : Hid (w.grownBy _ (some g)) := HG3.out.trans t9
        clear s9 t9 hown3 HG3 hl3
        go_wp2
        go_roundw
        case rel => exact ⟨k + 1, by omega, by go_num, by go_num, HC.out, HGC.out⟩
        case measure => simp [intOf]; omega
      · have e : k = n := by omega
        subst e
        rw [mixA_full _ _ k hxl (marksI_len _ _)] at hown
        go_wp2
        go_ret
        exact ⟨rfl, hown, hgr⟩
--@@
--@h
set_option maxRecDepth 100000 in
set_option maxHeartbeats 8000000 in
theorem c_heldI (a : Option Addr) (n cap k0 : Nat) (w : World) (hr : RdI w a n (marksI k0 n)) (h1 : 1 ≤ k0) (hn : n ≤ 2097152) (hk : k0 ≤ 8796093022208) :
    Calls Try.prog 12 #[.slice a n cap, .int .i64 k0] w fun e w' => e = .returned (.int .i64 (k0 + n * 5 : Nat)) ∧ Below w.heap.size w w' := by
  obtain ⟨hl, hcs⟩ := hr
  go_enter Try.func12, Try.ntmps12
  go_wp2
  go_loopw [1, 5] (fun m i wr => ∃ k : Nat, k ≤ n ∧ i = .int .i64 k ∧ m = .int .i64 ((k0 + k * 5 : Nat) : Int) ∧ Below w.heap.size w wr) (fun _ i _ => n - (intOf i).toNat)
  case atStart => exact ⟨0, by omega, rfl, by simp, Below.refl _ _⟩
  case round =>
    obtain ⟨k, hk, rfl, rfl, hb⟩ := hrel
    by_cases hlt : k < n
    · obtain ⟨b, off, rfl, hbl, hc⟩ := hcs (by omega)
      obtain ⟨d0, d1, d2, d3, d4⟩ := RdI.at hc hlt (marksI_val k0 n k hlt).symm
      dsimp only at d0 d1 d2 d3 d4
      have e0 : wr.cell? ⟨b, off + k * 5, none⟩ = some (.int .i64 ((k0 : Int) + (k : Int) * 5)) := by rw [hb.cell (p := ⟨b, off + k * 5, none⟩) hbl, d0]
      have e1 : wr.cell? ⟨b, off + k * 5 + 1, none⟩ = some (.int .i64 ((k0 : Int) + (k : Int) * 5 + 1)) := by rw [hb.cell (p := ⟨b, off + k * 5 + 1, none⟩) hbl, d1]
      have e2 : wr.cell? ⟨b, off + k * 5 + 2, none⟩ = some (.int .i64 ((k0 : Int) + (k : Int) * 5 + 2)) := by rw [hb.cell (p := ⟨b, off + k * 5 + 2, none⟩) hbl, d2]
      have e3 : wr.cell? ⟨b, off + k * 5 + 3, none⟩ = some (.int .i64 ((k0 : Int) + (k : Int) * 5 + 3)) := by rw [hb.cell (p := ⟨b, off + k * 5 + 3, none⟩) hbl, d3]
      have e4 : wr.cell? ⟨b, off + k * 5 + 4, none⟩ = some (.string (mtext (k0 + k * 5 + 4))) := by rw [hb.cell (p := ⟨b, off + k * 5 + 4, none⟩) hbl, d4]
      have g1 : (0 : Int) ≤ (k : Int) := by omega
      have g2 : (k : Int) < (n : Int) := by omega
      clear hc hcs d0 d1 d2 d3 d4
      go_wp2_with fail
      go_region_held3 (fun x => x.cell? ⟨b, off + k * 5 + 4, none⟩ = some (.string (mtext (k0 + k * 5 + 4)))) (first | go_keep | (rw [hb3.cell (p := ⟨b, off + k * 5 + 4, none⟩) (World.block_lt_of_cell? _ ⟨b, off + k * 5 + 4, none⟩ (by assumption))]; assumption))
        (first | (go_at_call 22; refine (c_mtextI2 _ (k0 + k * 5 + 4) _ (by omega) (by omega) (by omega)).mono ?_; rintro e w3 ⟨rfl, hb3⟩))
      have hb' : Below w.heap.size w w3 := hb.drew.trans (hb3.mono hb.size)
      clear hb3 e0 e1 e2 e3 e4 hb
      go_wp2
      go_roundw
      case rel => exact ⟨k + 1, by omega, by go_num, by go_num, hb'⟩
      case measure => simp [intOf]; omega
    · have e : k = n := by omega
      subst e
      go_wp2
      go_ret
      exact ⟨rfl, hb⟩
--@@

end Go.Proofs.Ytepeaabacfjheaa
