/-
  The program's partAt whole.
-/
import Derived.Test.YtbpfpjmjmkpjoaaGreatDoorXe
namespace Go.Proofs.YtbpfpjmjmkpjoaaGreatDoor
open Go Go.RowKit
set_option linter.unusedVariables false
set_option linter.unusedSimpArgs false

theorem pF_step (L : List EN) (fu k : Nat) : pF L (fu + 1) (k + 1) =
    cond ((L.getD k zeroE).o == 1) (cond ((L.getD k zeroE).a == 0 && ((L.getD k zeroE).b == 0 && ((L.getD k zeroE).c == 0 && valB (L.getD k zeroE).k (L.getD k zeroE).n (L.getD k zeroE).t))) (some (.con (L.getD k zeroE).k (L.getD k zeroE).n (L.getD k zeroE).t, k)) none)
    (cond ((L.getD k zeroE).o == 2) (cond ((L.getD k zeroE).a == 0 && ((L.getD k zeroE).b == 0 && (noV (L.getD k zeroE) && inB (L.getD k zeroE).c 0 2))) (some (.col (L.getD k zeroE).c, k)) none)
    (cond (inB (L.getD k zeroE).o 3 5) (cond ((L.getD k zeroE).a == (k : Int) - 1 && ((L.getD k zeroE).b == 0 && ((L.getD k zeroE).c == 0 && noV (L.getD k zeroE)))) (match pF L fu k with | none => none | some (p, f) => some (.una (L.getD k zeroE).o p, f)) none)
    (cond (inB (L.getD k zeroE).o 6 13) (match pF L fu k with | none => none | some (r, f) => cond ((L.getD k zeroE).a == (f : Int) - 1 && ((L.getD k zeroE).b == (k : Int) - 1 && ((L.getD k zeroE).c == 0 && noV (L.getD k zeroE)))) (match pF L fu f with | none => none | some (l, g) => some (.bin (L.getD k zeroE).o l r, g)) none)
    none))) := by
  rw [pF]
  generalize L.getD k zeroE = x
  unfold inB
  cases pF L fu k with
  | none => simp only [Bool.cond_decide, Bool.cond_eq_ite, beq_iff_eq, decide_eq_true_eq] <;> rfl
  | some q => simp only [Bool.cond_decide, Bool.cond_eq_ite, beq_iff_eq, decide_eq_true_eq] <;> rfl
set_option maxHeartbeats 2000000 in
theorem c_part (L : List EN) (a : Option Addr) (n c : Nat) (hn : n ≤ 1048576) (hs : ∀ v ∈ L, v.t.size ≤ maxLen) : ∀ (fu k : Nat) (w : World), k ≤ fu → k ≤ n → RdE w a n L →
    Calls Tryz.prog 102 #[.slice a n c, .int .i64 ((k : Int) - 1)] w fun e w' => e = .returned (.tuple #[encO (pF L fu k), .int .i64 (ahO k (pF L fu k))]) ∧ Below w.heap.size w w'
  | 0, 0, w, _, _, _ => c_pA_0 a n c w
  | _ + 1, 0, w, _, _, _ => c_pA_0 a n c w
  | 0, k + 1, _, h, _, _ => absurd h (by omega)
  | fu + 1, k + 1, w, hkf, hk, hr => by
    rw [show ((k + 1 : Nat) : Int) - 1 = (k : Int) by omega]
    obtain ⟨x, hx⟩ : ∃ x, x = L.getD k zeroE := ⟨_, rfl⟩
    have hxs : x.t.size ≤ maxLen := by
      rw [hx]
      exact getD_ofX (Q := fun v : EN => v.t.size ≤ maxLen) hs (by have := hr.1; omega)
    have IH : Hid (∀ W, Below w.heap.size w W → Calls Tryz.prog 102 #[.slice a n c, .int .i64 ((k : Int) - 1)] W fun e w' => e = .returned (.tuple #[encO (pF L fu k), .int .i64 (ahO k (pF L fu k))]) ∧ Below W.heap.size W w') := fun W hW => c_part L a n c hn hs fu k W (by omega) (by omega) (hr.below hW)
    have IJ : Hid (∀ f, f < k → ∀ W, Below w.heap.size w W → Calls Tryz.prog 102 #[.slice a n c, .int .i64 ((f : Int) - 1)] W fun e w' => e = .returned (.tuple #[encO (pF L fu f), .int .i64 (ahO f (pF L fu f))]) ∧ Below W.heap.size W w') := fun f hf W hW => c_part L a n c hn hs fu f W (by omega) (by omega) (hr.below hW)
    cases o1 : (x.o == 1)
    · cases o2 : (x.o == 2)
      · cases u : inB x.o 3 5
        · cases bi : inB x.o 6 13
          · exact c_pA_5 L a n c k x w hr hk hn hx hxs o1 o2 u bi  _ (by unfold Hid; rw [pF_step, ← hx]; simp only [o1, o2, u, bi, cond_true, cond_false, Bool.and_true, Bool.and_false, Bool.true_and, Bool.false_and, noV])
          · refine c_pA_4 L a n c k x w hr hk hn hx hxs o1 o2 u bi (pF L (fu + 1) (k + 1)) ?_ _ rfl
            intro W hW
            have IH' := fun X (hX : Below W.heap.size W X) => IH.out X (hW.trans (hX.mono hW.size))
            cases e : pF L fu k with
            | none =>
              rw [e] at IH'
              exact c_jA_N L a n c k x W (hr.below hW) hk hn hx hxs IH'  _ (by unfold Hid; rw [pF_step, ← hx]; simp only [o1, o2, u, bi, e, cond_true, cond_false, Bool.and_true, Bool.and_false, Bool.true_and, Bool.false_and, noV])
            | some q =>
              obtain ⟨p, f⟩ := q
              rw [e] at IH'
              have hf := pF_lt L fu k p f e
              have IJ' := fun X (hX : Below W.heap.size W X) => IJ.out f hf X (hW.trans (hX.mono hW.size))
              cases af : (x.a == (f : Int) - 1)
              · exact c_jA_Sa L a n c k x W (hr.below hW) hk hn hx hxs p f IH' af _ (by unfold Hid; rw [pF_step, ← hx]; simp only [af, o1, o2, u, bi, e, cond_true, cond_false, Bool.and_true, Bool.and_false, Bool.true_and, Bool.false_and, noV])
              · skip
                cases bm : (x.b == (k : Int) - 1)
                · exact c_jA_Sb L a n c k x W (hr.below hW) hk hn hx hxs p f IH' af bm _ (by unfold Hid; rw [pF_step, ← hx]; simp only [af, bm, o1, o2, u, bi, e, cond_true, cond_false, Bool.and_true, Bool.and_false, Bool.true_and, Bool.false_and, noV])
                · skip
                  cases c0 : (x.c == 0)
                  · exact c_jA_Sc L a n c k x W (hr.below hW) hk hn hx hxs p f IH' af bm c0 _ (by unfold Hid; rw [pF_step, ← hx]; simp only [af, bm, c0, o1, o2, u, bi, e, cond_true, cond_false, Bool.and_true, Bool.and_false, Bool.true_and, Bool.false_and, noV])
                  · skip
                    cases k0 : (x.k == 0)
                    · exact c_jA_Sk L a n c k x W (hr.below hW) hk hn hx hxs p f IH' af bm c0 k0 _ (by unfold Hid; rw [pF_step, ← hx]; simp only [af, bm, c0, k0, o1, o2, u, bi, e, cond_true, cond_false, Bool.and_true, Bool.and_false, Bool.true_and, Bool.false_and, noV])
                    · skip
                      cases n0 : (x.n == 0)
                      · exact c_jA_Sn L a n c k x W (hr.below hW) hk hn hx hxs p f IH' af bm c0 k0 n0 _ (by unfold Hid; rw [pF_step, ← hx]; simp only [af, bm, c0, k0, n0, o1, o2, u, bi, e, cond_true, cond_false, Bool.and_true, Bool.and_false, Bool.true_and, Bool.false_and, noV])
                      · skip
                        cases t0 : (x.t.toList == [])
                        · exact c_jA_St L a n c k x W (hr.below hW) hk hn hx hxs p f IH' af bm c0 k0 n0 t0 _ (by unfold Hid; rw [pF_step, ← hx]; simp only [af, bm, c0, k0, n0, t0, o1, o2, u, bi, e, cond_true, cond_false, Bool.and_true, Bool.and_false, Bool.true_and, Bool.false_and, noV])
                        · skip
                          cases e2 : pF L fu f with
                          | none =>
                            rw [e2] at IJ'
                            exact c_jA_LN L a n c k x W (hr.below hW) hk hn hx hxs p f IH' IJ' af bm c0 k0 n0 t0 _ (by unfold Hid; rw [pF_step, ← hx]; simp only [af, bm, c0, k0, n0, t0, o1, o2, u, bi, e, e2, cond_true, cond_false, Bool.and_true, Bool.and_false, Bool.true_and, Bool.false_and, noV])
                          | some q =>
                            obtain ⟨l, g⟩ := q
                            rw [e2] at IJ'
                            exact c_jA_LS L a n c k x W (hr.below hW) hk hn hx hxs p f IH' l g IJ' af bm c0 k0 n0 t0 _ (by unfold Hid; rw [pF_step, ← hx]; simp only [af, bm, c0, k0, n0, t0, o1, o2, u, bi, e, e2, cond_true, cond_false, Bool.and_true, Bool.and_false, Bool.true_and, Bool.false_and, noV])
        · have bi : inB x.o 6 13 = false := by unfold inB at u ⊢; simp only [decide_eq_true_eq, decide_eq_false_iff_not] at u ⊢; omega
          cases am : (x.a == (k : Int) - 1)
          · exact c_pA_3a L a n c k x w hr hk hn hx hxs o1 o2 u am bi  _ (by unfold Hid; rw [pF_step, ← hx]; simp only [o1, o2, u, am, bi, cond_true, cond_false, Bool.and_true, Bool.and_false, Bool.true_and, Bool.false_and, noV])
          · skip
            cases b0 : (x.b == 0)
            · exact c_pA_3b L a n c k x w hr hk hn hx hxs o1 o2 u am b0 bi  _ (by unfold Hid; rw [pF_step, ← hx]; simp only [o1, o2, u, am, b0, bi, cond_true, cond_false, Bool.and_true, Bool.and_false, Bool.true_and, Bool.false_and, noV])
            · skip
              cases c0 : (x.c == 0)
              · exact c_pA_3c L a n c k x w hr hk hn hx hxs o1 o2 u am b0 c0 bi  _ (by unfold Hid; rw [pF_step, ← hx]; simp only [o1, o2, u, am, b0, c0, bi, cond_true, cond_false, Bool.and_true, Bool.and_false, Bool.true_and, Bool.false_and, noV])
              · skip
                cases k0 : (x.k == 0)
                · exact c_pA_3k L a n c k x w hr hk hn hx hxs o1 o2 u am b0 c0 k0 bi  _ (by unfold Hid; rw [pF_step, ← hx]; simp only [o1, o2, u, am, b0, c0, k0, bi, cond_true, cond_false, Bool.and_true, Bool.and_false, Bool.true_and, Bool.false_and, noV])
                · skip
                  cases n0 : (x.n == 0)
                  · exact c_pA_3n L a n c k x w hr hk hn hx hxs o1 o2 u am b0 c0 k0 n0 bi  _ (by unfold Hid; rw [pF_step, ← hx]; simp only [o1, o2, u, am, b0, c0, k0, n0, bi, cond_true, cond_false, Bool.and_true, Bool.and_false, Bool.true_and, Bool.false_and, noV])
                  · skip
                    cases t0 : (x.t.toList == [])
                    · exact c_pA_3t L a n c k x w hr hk hn hx hxs o1 o2 u am b0 c0 k0 n0 t0 bi  _ (by unfold Hid; rw [pF_step, ← hx]; simp only [o1, o2, u, am, b0, c0, k0, n0, t0, bi, cond_true, cond_false, Bool.and_true, Bool.and_false, Bool.true_and, Bool.false_and, noV])
                    · skip
                      cases e : pF L fu k with
                      | none =>
                        rw [e] at IH
                        exact c_pA_3N L a n c k x w hr hk hn hx hxs o1 o2 u am b0 c0 k0 n0 t0 IH _ (by unfold Hid; rw [pF_step, ← hx]; simp only [o1, o2, u, am, b0, c0, k0, n0, t0, e, cond_true, cond_false, Bool.and_true, Bool.and_false, Bool.true_and, Bool.false_and, noV])
                      | some q =>
                        obtain ⟨p, f⟩ := q
                        rw [e] at IH
                        exact c_pA_3S L a n c k x w hr hk hn hx hxs o1 o2 u am b0 c0 k0 n0 t0 p f IH _ (by unfold Hid; rw [pF_step, ← hx]; simp only [o1, o2, u, am, b0, c0, k0, n0, t0, e, cond_true, cond_false, Bool.and_true, Bool.and_false, Bool.true_and, Bool.false_and, noV])
      · have u : inB x.o 3 5 = false := by rw [show x.o = 2 by simpa using o2]; decide
        have bi : inB x.o 6 13 = false := by rw [show x.o = 2 by simpa using o2]; decide
        cases a0 : (x.a == 0)
        · exact c_pA_2a L a n c k x w hr hk hn hx hxs o1 o2 a0 u bi  _ (by unfold Hid; rw [pF_step, ← hx]; simp only [o1, o2, a0, u, bi, cond_true, cond_false, Bool.and_true, Bool.and_false, Bool.true_and, Bool.false_and, noV])
        · skip
          cases b0 : (x.b == 0)
          · exact c_pA_2b L a n c k x w hr hk hn hx hxs o1 o2 a0 b0 u bi  _ (by unfold Hid; rw [pF_step, ← hx]; simp only [o1, o2, a0, b0, u, bi, cond_true, cond_false, Bool.and_true, Bool.and_false, Bool.true_and, Bool.false_and, noV])
          · skip
            cases k0 : (x.k == 0)
            · exact c_pA_2k L a n c k x w hr hk hn hx hxs o1 o2 a0 b0 k0 u bi  _ (by unfold Hid; rw [pF_step, ← hx]; simp only [o1, o2, a0, b0, k0, u, bi, cond_true, cond_false, Bool.and_true, Bool.and_false, Bool.true_and, Bool.false_and, noV])
            · skip
              cases n0 : (x.n == 0)
              · exact c_pA_2n L a n c k x w hr hk hn hx hxs o1 o2 a0 b0 k0 n0 u bi  _ (by unfold Hid; rw [pF_step, ← hx]; simp only [o1, o2, a0, b0, k0, n0, u, bi, cond_true, cond_false, Bool.and_true, Bool.and_false, Bool.true_and, Bool.false_and, noV])
              · skip
                cases t0 : (x.t.toList == [])
                · exact c_pA_2t L a n c k x w hr hk hn hx hxs o1 o2 a0 b0 k0 n0 t0 u bi  _ (by unfold Hid; rw [pF_step, ← hx]; simp only [o1, o2, a0, b0, k0, n0, t0, u, bi, cond_true, cond_false, Bool.and_true, Bool.and_false, Bool.true_and, Bool.false_and, noV])
                · skip
                  cases cl : inB x.c 0 2
                  · exact c_pA_2w L a n c k x w hr hk hn hx hxs o1 o2 a0 b0 k0 n0 t0 cl u bi  _ (by unfold Hid; rw [pF_step, ← hx]; simp only [o1, o2, a0, b0, k0, n0, t0, cl, u, bi, cond_true, cond_false, Bool.and_true, Bool.and_false, Bool.true_and, Bool.false_and, noV])
                  · exact c_pA_2v L a n c k x w hr hk hn hx hxs o1 o2 a0 b0 k0 n0 t0 cl  _ (by unfold Hid; rw [pF_step, ← hx]; simp only [o1, o2, a0, b0, k0, n0, t0, cl, cond_true, cond_false, Bool.and_true, Bool.and_false, Bool.true_and, Bool.false_and, noV])
    · have o2 : (x.o == 2) = false := by rw [show x.o = 1 by simpa using o1]; decide
      have u : inB x.o 3 5 = false := by rw [show x.o = 1 by simpa using o1]; decide
      have bi : inB x.o 6 13 = false := by rw [show x.o = 1 by simpa using o1]; decide
      cases a0 : (x.a == 0)
      · exact c_pA_1a L a n c k x w hr hk hn hx hxs o1 a0 o2 u bi  _ (by unfold Hid; rw [pF_step, ← hx]; simp only [o1, a0, o2, u, bi, cond_true, cond_false, Bool.and_true, Bool.and_false, Bool.true_and, Bool.false_and, noV])
      · skip
        cases b0 : (x.b == 0)
        · exact c_pA_1b L a n c k x w hr hk hn hx hxs o1 a0 b0 o2 u bi  _ (by unfold Hid; rw [pF_step, ← hx]; simp only [o1, a0, b0, o2, u, bi, cond_true, cond_false, Bool.and_true, Bool.and_false, Bool.true_and, Bool.false_and, noV])
        · skip
          cases c0 : (x.c == 0)
          · exact c_pA_1c L a n c k x w hr hk hn hx hxs o1 a0 b0 c0 o2 u bi  _ (by unfold Hid; rw [pF_step, ← hx]; simp only [o1, a0, b0, c0, o2, u, bi, cond_true, cond_false, Bool.and_true, Bool.and_false, Bool.true_and, Bool.false_and, noV])
          · skip
            cases vb : valB x.k x.n x.t
            · exact c_pA_1w L a n c k x w hr hk hn hx hxs o1 a0 b0 c0 vb o2 u bi  _ (by unfold Hid; rw [pF_step, ← hx]; simp only [o1, a0, b0, c0, vb, o2, u, bi, cond_true, cond_false, Bool.and_true, Bool.and_false, Bool.true_and, Bool.false_and, noV])
            · exact c_pA_1v L a n c k x w hr hk hn hx hxs o1 a0 b0 c0 vb  _ (by unfold Hid; rw [pF_step, ← hx]; simp only [o1, a0, b0, c0, vb, cond_true, cond_false, Bool.and_true, Bool.and_false, Bool.true_and, Bool.false_and, noV])

end Go.Proofs.YtbpfpjmjmkpjoaaGreatDoor
