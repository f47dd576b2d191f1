/-
  The specification's l10Walk whole.
-/
import Derived.Test.YtbpfpjmjmkpjoaaGreatDoorXh
namespace Go.Proofs.YtbpfpjmjmkpjoaaGreatDoor
open Go Go.RowKit
set_option linter.unusedVariables false
set_option linter.unusedSimpArgs false

theorem wF_step (L : List EN) (fu k : Nat) : wF L (fu + 1) (k + 1) =
    cond ((L.getD k zeroE).o == 1) (k, 1, (L.getD k zeroE).a == 0 && ((L.getD k zeroE).b == 0 && ((L.getD k zeroE).c == 0 && valB (L.getD k zeroE).k (L.getD k zeroE).n (L.getD k zeroE).t)))
    (cond ((L.getD k zeroE).o == 2) (k, 1, (L.getD k zeroE).a == 0 && ((L.getD k zeroE).b == 0 && (inB (L.getD k zeroE).c 0 2 && noV (L.getD k zeroE))))
    (cond (inB (L.getD k zeroE).o 3 5) ((wF L fu k).1, (wF L fu k).2.1 + 1, (wF L fu k).2.2 && ((L.getD k zeroE).a == (k : Int) - 1 && ((L.getD k zeroE).b == 0 && ((L.getD k zeroE).c == 0 && noV (L.getD k zeroE)))))
    (cond (inB (L.getD k zeroE).o 6 13) (cond (wF L fu k).2.2 ((wF L fu (wF L fu k).1).1, max (wF L fu (wF L fu k).1).2.1 (wF L fu k).2.1 + 1, (wF L fu (wF L fu k).1).2.2 && ((L.getD k zeroE).a == ((wF L fu k).1 : Int) - 1 && ((L.getD k zeroE).b == (k : Int) - 1 && ((L.getD k zeroE).c == 0 && noV (L.getD k zeroE))))) (0, 0, false))
    (0, 0, false)))) := by
  rw [wF]
  generalize L.getD k zeroE = x
  unfold inB
  simp only [Bool.cond_decide]
  cases (wF L fu k).2.2 <;> simp only [beq_iff_eq, cond_true, cond_false, if_true, reduceCtorEq, if_false, ← Bool.cond_decide] <;> rfl
set_option maxRecDepth 100000 in
set_option maxHeartbeats 4000000 in
theorem c_lW_0 (a : Option Addr) (n c : Nat) (w : World) : Calls Tryz.prog 105 #[.agg #[.slice a n c], .int .i64 (-1)] w fun e w' => e = .returned (.tuple #[.int .i64 0, .int .i64 0, .bool false]) ∧ Below w.heap.size w w' := by
  go_enter Tryz.func105, Tryz.ntmps105
  go_wp2
  go_ret3
  exact ⟨rfl, (Below.refl _ _).alloc (Nat.le_refl _) _⟩
theorem cast_pred (k : Nat) : ((k + 1 : Nat) : Int) - 1 = (k : Int) := by omega
set_option maxHeartbeats 2000000 in
theorem c_walk (L : List EN) (a : Option Addr) (n c : Nat) (hn : n ≤ 1048576) (hs : ∀ v ∈ L, v.t.size ≤ maxLen) : ∀ (fu k : Nat) (w : World), k ≤ fu → k ≤ n → fu ≤ 1048576 → RdE w a n L →
    Calls Tryz.prog 105 #[.agg #[.slice a n c], .int .i64 ((k : Int) - 1)] w fun e w' => e = .returned (.tuple #[.int .i64 ((wF L fu k).1 : Int), .int .i64 ((wF L fu k).2.1 : Int), .bool (wF L fu k).2.2]) ∧ Below w.heap.size w w'
  | 0, 0, w, _, _, _, _ => c_lW_0 a n c w
  | _ + 1, 0, w, _, _, _, _ => c_lW_0 a n c w
  | 0, k + 1, _, h, _, _, _ => absurd h (by omega)
  | fu + 1, k + 1, w, hkf, hk, hfu, hr => by
    rw [cast_pred]
    obtain ⟨x, hx⟩ : ∃ x, x = L.getD k zeroE := ⟨_, rfl⟩
    have hxs : x.t.size ≤ maxLen := by
      rw [hx]
      exact getD_ofX (Q := fun v : EN => v.t.size ≤ maxLen) hs (by have := hr.1; omega)
    have rl : (wF L fu k).1 ≤ 1048576 := Nat.le_trans (wF_le L fu k) (by omega)
    have rd : (wF L fu k).2.1 ≤ 1048576 := Nat.le_trans (wF_dep L fu k) (by omega)
    have sl : (wF L fu (wF L fu k).1).1 ≤ 1048576 := Nat.le_trans (wF_le L fu _) rl
    have sd : (wF L fu (wF L fu k).1).2.1 ≤ 1048576 := Nat.le_trans (wF_dep L fu _) (by omega)
    have IH : Hid (∀ W, Below w.heap.size w W → Calls Tryz.prog 105 #[.agg #[.slice a n c], .int .i64 ((k : Int) - 1)] W fun e w' => e = .returned (.tuple #[.int .i64 ((wF L fu k).1 : Int), .int .i64 ((wF L fu k).2.1 : Int), .bool (wF L fu k).2.2]) ∧ Below W.heap.size W w') := fun W hW => c_walk L a n c hn hs fu k W (by omega) (by omega) (by omega) (hr.below hW)
    have IJ : Hid (∀ W, Below w.heap.size w W → Calls Tryz.prog 105 #[.agg #[.slice a n c], .int .i64 (((wF L fu k).1 : Int) - 1)] W fun e w' => e = .returned (.tuple #[.int .i64 ((wF L fu (wF L fu k).1).1 : Int), .int .i64 ((wF L fu (wF L fu k).1).2.1 : Int), .bool (wF L fu (wF L fu k).1).2.2]) ∧ Below W.heap.size W w') := fun W hW => c_walk L a n c hn hs fu (wF L fu k).1 W (by have := wF_le L fu k; omega) (by have := wF_le L fu k; omega) (by omega) (hr.below hW)
    cases o1 : (x.o == 1)
    · cases o2 : (x.o == 2)
      · cases u : inB x.o 3 5
        · cases bi : inB x.o 6 13
          · exact c_lW_5 L a n c k x w hr hk hn hx hxs  o1 o2 u bi _ (by unfold Hid; rw [wF_step, ← hx]; simp only [o1, o2, u, bi, cond_true, cond_false, Bool.and_true, Bool.and_false, Bool.true_and, Bool.false_and, noV])
          · cases ok : (wF L fu k).2.2
            · exact c_lW_4N L a n c k x w hr hk hn hx hxs (wF L fu k) rl rd IH o1 o2 u bi ok _ (by unfold Hid; rw [wF_step, ← hx]; simp only [o1, o2, u, bi, ok, cond_true, cond_false, Bool.and_true, Bool.and_false, Bool.true_and, Bool.false_and, noV])
            · skip
              cases fi : (wF L fu (wF L fu k).1).2.2
              · exact c_lW_4f L a n c k x w hr hk hn hx hxs (wF L fu k) rl rd IH (wF L fu (wF L fu k).1) sl sd IJ o1 o2 u bi ok fi _ (by unfold Hid; rw [wF_step, ← hx]; simp only [o1, o2, u, bi, ok, fi, cond_true, cond_false, Bool.and_true, Bool.and_false, Bool.true_and, Bool.false_and, noV])
              · skip
                cases aw : (x.a == ((wF L fu k).1 : Int) - 1)
                · exact c_lW_4a L a n c k x w hr hk hn hx hxs (wF L fu k) rl rd IH (wF L fu (wF L fu k).1) sl sd IJ o1 o2 u bi ok fi aw _ (by unfold Hid; rw [wF_step, ← hx]; simp only [o1, o2, u, bi, ok, fi, aw, cond_true, cond_false, Bool.and_true, Bool.and_false, Bool.true_and, Bool.false_and, noV])
                · skip
                  cases bm : (x.b == (k : Int) - 1)
                  · exact c_lW_4b L a n c k x w hr hk hn hx hxs (wF L fu k) rl rd IH (wF L fu (wF L fu k).1) sl sd IJ o1 o2 u bi ok fi aw bm _ (by unfold Hid; rw [wF_step, ← hx]; simp only [o1, o2, u, bi, ok, fi, aw, bm, cond_true, cond_false, Bool.and_true, Bool.and_false, Bool.true_and, Bool.false_and, noV])
                  · skip
                    cases c0 : (x.c == 0)
                    · exact c_lW_4c L a n c k x w hr hk hn hx hxs (wF L fu k) rl rd IH (wF L fu (wF L fu k).1) sl sd IJ o1 o2 u bi ok fi aw bm c0 _ (by unfold Hid; rw [wF_step, ← hx]; simp only [o1, o2, u, bi, ok, fi, aw, bm, c0, cond_true, cond_false, Bool.and_true, Bool.and_false, Bool.true_and, Bool.false_and, noV])
                    · skip
                      cases k0 : (x.k == 0)
                      · exact c_lW_4k L a n c k x w hr hk hn hx hxs (wF L fu k) rl rd IH (wF L fu (wF L fu k).1) sl sd IJ o1 o2 u bi ok fi aw bm c0 k0 _ (by unfold Hid; rw [wF_step, ← hx]; simp only [o1, o2, u, bi, ok, fi, aw, bm, c0, k0, cond_true, cond_false, Bool.and_true, Bool.and_false, Bool.true_and, Bool.false_and, noV])
                      · skip
                        cases n0 : (x.n == 0)
                        · exact c_lW_4n L a n c k x w hr hk hn hx hxs (wF L fu k) rl rd IH (wF L fu (wF L fu k).1) sl sd IJ o1 o2 u bi ok fi aw bm c0 k0 n0 _ (by unfold Hid; rw [wF_step, ← hx]; simp only [o1, o2, u, bi, ok, fi, aw, bm, c0, k0, n0, cond_true, cond_false, Bool.and_true, Bool.and_false, Bool.true_and, Bool.false_and, noV])
                        · skip
                          cases t0 : (x.t.toList == [])
                          · exact c_lW_4t L a n c k x w hr hk hn hx hxs (wF L fu k) rl rd IH (wF L fu (wF L fu k).1) sl sd IJ o1 o2 u bi ok fi aw bm c0 k0 n0 t0 _ (by unfold Hid; rw [wF_step, ← hx]; simp only [o1, o2, u, bi, ok, fi, aw, bm, c0, k0, n0, t0, cond_true, cond_false, Bool.and_true, Bool.and_false, Bool.true_and, Bool.false_and, noV])
                          · skip
                            exact c_lW_4v L a n c k x w hr hk hn hx hxs (wF L fu k) rl rd IH (wF L fu (wF L fu k).1) sl sd IJ o1 o2 u bi ok fi aw bm c0 k0 n0 t0 _ (by unfold Hid; rw [wF_step, ← hx]; simp only [o1, o2, u, bi, ok, fi, aw, bm, c0, k0, n0, t0, cond_true, cond_false, Bool.and_true, Bool.and_false, Bool.true_and, Bool.false_and, noV])
        · skip
          cases ok : (wF L fu k).2.2
          · exact c_lW_3o L a n c k x w hr hk hn hx hxs (wF L fu k) rl rd IH o1 o2 u ok _ (by unfold Hid; rw [wF_step, ← hx]; simp only [o1, o2, u, ok, cond_true, cond_false, Bool.and_true, Bool.and_false, Bool.true_and, Bool.false_and, noV])
          · skip
            cases am : (x.a == (k : Int) - 1)
            · exact c_lW_3a L a n c k x w hr hk hn hx hxs (wF L fu k) rl rd IH o1 o2 u ok am _ (by unfold Hid; rw [wF_step, ← hx]; simp only [o1, o2, u, ok, am, cond_true, cond_false, Bool.and_true, Bool.and_false, Bool.true_and, Bool.false_and, noV])
            · skip
              cases b0 : (x.b == 0)
              · exact c_lW_3b L a n c k x w hr hk hn hx hxs (wF L fu k) rl rd IH o1 o2 u ok am b0 _ (by unfold Hid; rw [wF_step, ← hx]; simp only [o1, o2, u, ok, am, b0, cond_true, cond_false, Bool.and_true, Bool.and_false, Bool.true_and, Bool.false_and, noV])
              · skip
                cases c0 : (x.c == 0)
                · exact c_lW_3c L a n c k x w hr hk hn hx hxs (wF L fu k) rl rd IH o1 o2 u ok am b0 c0 _ (by unfold Hid; rw [wF_step, ← hx]; simp only [o1, o2, u, ok, am, b0, c0, cond_true, cond_false, Bool.and_true, Bool.and_false, Bool.true_and, Bool.false_and, noV])
                · skip
                  cases k0 : (x.k == 0)
                  · exact c_lW_3k L a n c k x w hr hk hn hx hxs (wF L fu k) rl rd IH o1 o2 u ok am b0 c0 k0 _ (by unfold Hid; rw [wF_step, ← hx]; simp only [o1, o2, u, ok, am, b0, c0, k0, cond_true, cond_false, Bool.and_true, Bool.and_false, Bool.true_and, Bool.false_and, noV])
                  · skip
                    cases n0 : (x.n == 0)
                    · exact c_lW_3n L a n c k x w hr hk hn hx hxs (wF L fu k) rl rd IH o1 o2 u ok am b0 c0 k0 n0 _ (by unfold Hid; rw [wF_step, ← hx]; simp only [o1, o2, u, ok, am, b0, c0, k0, n0, cond_true, cond_false, Bool.and_true, Bool.and_false, Bool.true_and, Bool.false_and, noV])
                    · skip
                      cases t0 : (x.t.toList == [])
                      · exact c_lW_3t L a n c k x w hr hk hn hx hxs (wF L fu k) rl rd IH o1 o2 u ok am b0 c0 k0 n0 t0 _ (by unfold Hid; rw [wF_step, ← hx]; simp only [o1, o2, u, ok, am, b0, c0, k0, n0, t0, cond_true, cond_false, Bool.and_true, Bool.and_false, Bool.true_and, Bool.false_and, noV])
                      · skip
                        exact c_lW_3v L a n c k x w hr hk hn hx hxs (wF L fu k) rl rd IH o1 o2 u ok am b0 c0 k0 n0 t0 _ (by unfold Hid; rw [wF_step, ← hx]; simp only [o1, o2, u, ok, am, b0, c0, k0, n0, t0, cond_true, cond_false, Bool.and_true, Bool.and_false, Bool.true_and, Bool.false_and, noV])
      · skip
        cases a0 : (x.a == 0)
        · exact c_lW_2a L a n c k x w hr hk hn hx hxs  o1 o2 a0 _ (by unfold Hid; rw [wF_step, ← hx]; simp only [o1, o2, a0, cond_true, cond_false, Bool.and_true, Bool.and_false, Bool.true_and, Bool.false_and, noV])
        · skip
          cases b0 : (x.b == 0)
          · exact c_lW_2b L a n c k x w hr hk hn hx hxs  o1 o2 a0 b0 _ (by unfold Hid; rw [wF_step, ← hx]; simp only [o1, o2, a0, b0, cond_true, cond_false, Bool.and_true, Bool.and_false, Bool.true_and, Bool.false_and, noV])
          · skip
            cases cl : inB x.c 0 2
            · exact c_lW_2l L a n c k x w hr hk hn hx hxs  o1 o2 a0 b0 cl _ (by unfold Hid; rw [wF_step, ← hx]; simp only [o1, o2, a0, b0, cl, cond_true, cond_false, Bool.and_true, Bool.and_false, Bool.true_and, Bool.false_and, noV])
            · skip
              cases k0 : (x.k == 0)
              · exact c_lW_2k L a n c k x w hr hk hn hx hxs  o1 o2 a0 b0 cl k0 _ (by unfold Hid; rw [wF_step, ← hx]; simp only [o1, o2, a0, b0, cl, k0, cond_true, cond_false, Bool.and_true, Bool.and_false, Bool.true_and, Bool.false_and, noV])
              · skip
                cases n0 : (x.n == 0)
                · exact c_lW_2n L a n c k x w hr hk hn hx hxs  o1 o2 a0 b0 cl k0 n0 _ (by unfold Hid; rw [wF_step, ← hx]; simp only [o1, o2, a0, b0, cl, k0, n0, cond_true, cond_false, Bool.and_true, Bool.and_false, Bool.true_and, Bool.false_and, noV])
                · skip
                  cases t0 : (x.t.toList == [])
                  · exact c_lW_2t L a n c k x w hr hk hn hx hxs  o1 o2 a0 b0 cl k0 n0 t0 _ (by unfold Hid; rw [wF_step, ← hx]; simp only [o1, o2, a0, b0, cl, k0, n0, t0, cond_true, cond_false, Bool.and_true, Bool.and_false, Bool.true_and, Bool.false_and, noV])
                  · skip
                    exact c_lW_2v L a n c k x w hr hk hn hx hxs  o1 o2 a0 b0 cl k0 n0 t0 _ (by unfold Hid; rw [wF_step, ← hx]; simp only [o1, o2, a0, b0, cl, k0, n0, t0, cond_true, cond_false, Bool.and_true, Bool.and_false, Bool.true_and, Bool.false_and, noV])
    · skip
      cases a0 : (x.a == 0)
      · exact c_lW_1a L a n c k x w hr hk hn hx hxs  o1 a0 _ (by unfold Hid; rw [wF_step, ← hx]; simp only [o1, a0, cond_true, cond_false, Bool.and_true, Bool.and_false, Bool.true_and, Bool.false_and, noV])
      · skip
        cases b0 : (x.b == 0)
        · exact c_lW_1b L a n c k x w hr hk hn hx hxs  o1 a0 b0 _ (by unfold Hid; rw [wF_step, ← hx]; simp only [o1, a0, b0, cond_true, cond_false, Bool.and_true, Bool.and_false, Bool.true_and, Bool.false_and, noV])
        · skip
          cases c0 : (x.c == 0)
          · exact c_lW_1c L a n c k x w hr hk hn hx hxs  o1 a0 b0 c0 _ (by unfold Hid; rw [wF_step, ← hx]; simp only [o1, a0, b0, c0, cond_true, cond_false, Bool.and_true, Bool.and_false, Bool.true_and, Bool.false_and, noV])
          · skip
            exact c_lW_1v L a n c k x w hr hk hn hx hxs  o1 a0 b0 c0 _ (by unfold Hid; rw [wF_step, ← hx]; simp only [o1, a0, b0, c0, cond_true, cond_false, Bool.and_true, Bool.and_false, Bool.true_and, Bool.false_and, noV])

end Go.Proofs.YtbpfpjmjmkpjoaaGreatDoor
