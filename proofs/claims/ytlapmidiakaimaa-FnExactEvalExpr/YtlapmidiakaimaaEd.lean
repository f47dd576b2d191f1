/-
  EvalExpr of both sides, whole.
-/
import Derived.Test.YtlapmidiakaimaaEb
import Derived.Test.YtlapmidiakaimaaEc
import Derived.Test.YtlapmidiakaimaaXl
namespace Go.Proofs.Ytlapmidiakaimaa
open Go Go.RowKit
set_option linter.unusedVariables false
set_option linter.unusedSimpArgs false

theorem okz : valB 0 0 (⟨#[]⟩ : ByteArray) = true := by rw [val0, emptyL]; rfl
theorem okt (b : Bool) : valB 1 (trI b) (⟨#[]⟩ : ByteArray) = true := by rw [val1, emptyL]; cases b <;> rfl
theorem okb (x : Int) : valB (bndB x).k (bndB x).n (⟨#[]⟩ : ByteArray) = true := by
  cases h : inB x (-1000000000) 1000000000
  · rw [bnd_no h]; exact okz
  · rw [bnd_yes h, val1, h, emptyL]; rfl
theorem okr (op a b : Int) : valB (reckB op a b).k (reckB op a b).n (⟨#[]⟩ : ByteArray) = true := by
  unfold reckB
  split
  · exact okz
  · exact okb _
theorem binR_ok (op k n : Int) (t : ByteArray) (k' n' : Int) (t' : ByteArray) : valB (binR op k n t k' n' t').k (binR op k n t k' n' t').n (⟨#[]⟩ : ByteArray) = true := by
  unfold binR
  repeat' split
  all_goals first | exact okz | exact okt _ | exact okr _ _ _
theorem okn (n : Int) (h0 : -1000000000 ≤ n) (h1 : n ≤ 1000000000) : valB 1 n (⟨#[]⟩ : ByteArray) = true := by
  rw [val1, emptyL]
  unfold inB
  rw [decide_eq_true ⟨h0, h1⟩]
  rfl
theorem unaE_ok (op k n : Int) (t : ByteArray) (h : valB k n t = true) : valB (unaE op k n).k (unaE op k n).n (unaE op k n).t = true := by
  have hr := rt_of h
  unfold unaE
  repeat' split
  all_goals first | exact okz | exact okt _ | (exact okn (-n) (by have := hr.n1; omega) (by have := hr.n0; omega))
theorem colE_c (c : Int) (i : Int) (u v : VV) : colE c i u v = ⟨(colE c i u v).k, (colE c i u v).n, (colE c i u v).t, 0⟩ := by
  unfold colE
  repeat' split
  all_goals rfl
theorem ev_val (i : Int) (u v : VV) (hi : inB i 0 1000 = true) (hu : okV u = true) (hv : okV v = true) : ∀ p : PT, p.ok = true → valB (evE p i u v).k (evE p i u v).n (evE p i u v).t = true
  | .con k n t, h => h
  | .col c, _ => by
    show valB (colE c i u v).k (colE c i u v).n (colE c i u v).t = true
    unfold colE
    repeat' split
    · exact okn i (by unfold inB at hi; simp at hi; omega) (by unfold inB at hi; simp at hi; omega)
    · exact hu
    · exact hv
  | .una op p, h => by
    have hp := ev_val i u v hi hu hv p (by unfold PT.ok at h; simp only [Bool.and_eq_true] at h; exact h.2)
    rw [evE]
    split
    · exact okz
    · exact unaE_ok _ _ _ _ hp
  | .bin op l r, h => by
    rw [evE]
    split
    · exact okz
    · split
      · exact okt _
      · split
        · exact okz
        · exact binR_ok _ _ _ _ _ _ _
set_option maxHeartbeats 1000000 in
theorem c_pv (i : Int) (u v : VV) (hi : inB i 0 1000 = true) (hu : okV u = true) (hv : okV v = true) : ∀ p : PT, p.ok = true → ∀ w, Calls Try.prog 65 #[p.enc, .agg #[.int .i64 i, .int .i64 u.1, .int .i64 u.2.1, .string u.2.2, .int .i64 v.1, .int .i64 v.2.1, .string v.2.2]] w fun e w' => e = .returned (.tuple #[.agg #[.int .i64 (evE p i u v).k, .int .i64 (evE p i u v).n, .string (evE p i u v).t], .int .i64 (evE p i u v).c]) ∧ Below w.heap.size w w'
  | .con k n t, _, w => c_pv_con i u v w k n t _ rfl
  | .col c, h, w => c_pv_col i u v w c h _ (colE_c c i u v)
  | .una op p, h, w => by
    have hp : p.ok = true := by unfold PT.ok at h; simp only [Bool.and_eq_true] at h; exact h.2
    have IH : Hid (∀ W, Calls Try.prog 65 #[p.enc, .agg #[.int .i64 i, .int .i64 u.1, .int .i64 u.2.1, .string u.2.2, .int .i64 v.1, .int .i64 v.2.1, .string v.2.2]] W fun e w' => e = .returned (.tuple #[.agg #[.int .i64 (evE p i u v).k, .int .i64 (evE p i u v).n, .string (evE p i u v).t], .int .i64 (evE p i u v).c]) ∧ Below W.heap.size W w') := fun W => c_pv i u v hi hu hv p hp W
    cases cf : ((evE p i u v).c != 0)
    · exact c_pv_una i u v w op p (evE p i u v) IH cf (ev_val i u v hi hu hv p hp) _ (by unfold Hid; rw [evE, cf]; rfl)
    · exact c_pv_unaE i u v w op p (evE p i u v) IH cf (ev_val i u v hi hu hv p hp) _ (by unfold Hid; rw [evE, cf]; rfl)
  | .bin op l r, h, w => by
    have hx : inB op 6 13 = true ∧ l.ok = true ∧ r.ok = true := by unfold PT.ok at h; simp only [Bool.and_eq_true] at h; exact h
    have IL : Hid (∀ W, Calls Try.prog 65 #[l.enc, .agg #[.int .i64 i, .int .i64 u.1, .int .i64 u.2.1, .string u.2.2, .int .i64 v.1, .int .i64 v.2.1, .string v.2.2]] W fun e w' => e = .returned (.tuple #[.agg #[.int .i64 (evE l i u v).k, .int .i64 (evE l i u v).n, .string (evE l i u v).t], .int .i64 (evE l i u v).c]) ∧ Below W.heap.size W w') := fun W => c_pv i u v hi hu hv l hx.2.1 W
    have IR : Hid (∀ W, Calls Try.prog 65 #[r.enc, .agg #[.int .i64 i, .int .i64 u.1, .int .i64 u.2.1, .string u.2.2, .int .i64 v.1, .int .i64 v.2.1, .string v.2.2]] W fun e w' => e = .returned (.tuple #[.agg #[.int .i64 (evE r i u v).k, .int .i64 (evE r i u v).n, .string (evE r i u v).t], .int .i64 (evE r i u v).c]) ∧ Below W.heap.size W w') := fun W => c_pv i u v hi hu hv r hx.2.2 W
    refine c_pv_bin i u v w op l r _ (fun W => ?_)
    cases ca : ((evE l i u v).c != 0)
    · cases dd : decB op (evE l i u v).k (evE l i u v).n
      · cases cb : ((evE r i u v).c != 0)
        · exact c_jv_v i u v W op l r (evE l i u v) IL ca dd (evE r i u v) IR cb (binR op (evE l i u v).k (evE l i u v).n (evE l i u v).t (evE r i u v).k (evE r i u v).n (evE r i u v).t)
            (fun X => c_binV op _ _ _ _ _ _ X (by have := hx.1; unfold inB at this; simp at this; exact this.1) (by have := hx.1; unfold inB at this; simp at this; exact this.2) (rt_of (ev_val i u v hi hu hv l hx.2.1)) (rt_of (ev_val i u v hi hu hv r hx.2.2))) _ (by unfold Hid; rw [evE, ca, dd, cb]; rfl)
        · exact c_jv_b i u v W op l r (evE l i u v) IL ca dd (evE r i u v) IR cb _ (by unfold Hid; rw [evE, ca, dd, cb]; rfl)
      · exact c_jv_d i u v W op l r (evE l i u v) IL ca dd _ (by unfold Hid; rw [evE, ca, dd]; rfl)
    · exact c_jv_a i u v W op l r (evE l i u v) IL ca _ (by unfold Hid; rw [evE, ca]; rfl)
/-- What a part that stands at a place says of the node there. -/
theorem pF_inv (L : List EN) (fu k : Nat) (p : PT) (f : Nat) (x : EN) (hx : x = L.getD k zeroE) (h : pF L (fu + 1) (k + 1) = some (p, f)) :
    (∃ (_ : (x.o == 1) = true), p = .con x.k x.n x.t ∧ valB x.k x.n x.t = true) ∨
    (∃ (_ : (x.o == 1) = false) (_ : (x.o == 2) = true), p = .col x.c ∧ inB x.c 0 2 = true) ∨
    (∃ (_ : (x.o == 1) = false) (_ : (x.o == 2) = false) (q : PT), inB x.o 3 5 = true ∧ p = .una x.o q ∧ x.a = (k : Int) - 1 ∧ pF L fu k = some (q, f)) ∨
    (∃ (_ : (x.o == 1) = false) (_ : (x.o == 2) = false) (l r : PT) (m : Nat), inB x.o 6 13 = true ∧ p = .bin x.o l r ∧ x.a = (m : Int) - 1 ∧ x.b = (k : Int) - 1 ∧ pF L fu k = some (r, m) ∧ pF L fu m = some (l, f)) := by
  rw [pF_step, ← hx] at h
  cases o1 : (x.o == 1)
  · rw [o1] at h
    cases o2 : (x.o == 2)
    · rw [o2] at h
      cases uu : inB x.o 3 5
      · rw [uu] at h
        cases bi : inB x.o 6 13
        · rw [bi] at h; cases h
        · rw [bi] at h
          simp only [cond_true, cond_false] at h
          cases e : pF L fu k with
          | none => rw [e] at h; cases h
          | some q =>
            obtain ⟨r, m⟩ := q
            rw [e] at h
            dsimp only at h
            cases tt : (x.a == (m : Int) - 1 && (x.b == (k : Int) - 1 && (x.c == 0 && noV x)))
            · rw [tt] at h; cases h
            · rw [tt] at h
              simp only [cond_true] at h
              cases e2 : pF L fu m with
              | none => rw [e2] at h; cases h
              | some q2 =>
                obtain ⟨l, g⟩ := q2
                rw [e2] at h
                simp only [Option.some.injEq, Prod.mk.injEq] at h
                simp only [Bool.and_eq_true, beq_iff_eq] at tt
                exact .inr (.inr (.inr ⟨rfl, rfl, l, r, m, rfl, h.1.symm, tt.1, tt.2.1, rfl, by rw [← h.2]; exact e2⟩))
      · rw [uu] at h
        simp only [cond_true, cond_false] at h
        cases tt : (x.a == (k : Int) - 1 && (x.b == 0 && (x.c == 0 && noV x)))
        · rw [tt] at h; cases h
        · rw [tt] at h
          simp only [cond_true] at h
          cases e : pF L fu k with
          | none => rw [e] at h; cases h
          | some q =>
            obtain ⟨r, m⟩ := q
            rw [e] at h
            simp only [Option.some.injEq, Prod.mk.injEq] at h
            simp only [Bool.and_eq_true, beq_iff_eq] at tt
            exact .inr (.inr (.inl ⟨rfl, rfl, r, rfl, h.1.symm, tt.1, by rw [← h.2]⟩))
    · rw [o2] at h
      simp only [cond_true, cond_false] at h
      cases tt : (x.a == 0 && (x.b == 0 && (noV x && inB x.c 0 2)))
      · rw [tt] at h; cases h
      · rw [tt] at h
        simp only [cond_true, Option.some.injEq, Prod.mk.injEq] at h
        simp only [Bool.and_eq_true] at tt
        exact .inr (.inl ⟨rfl, rfl, h.1.symm, tt.2.2.2⟩)
  · rw [o1] at h
    simp only [cond_true] at h
    cases tt : (x.a == 0 && (x.b == 0 && (x.c == 0 && valB x.k x.n x.t)))
    · rw [tt] at h; cases h
    · rw [tt] at h
      simp only [cond_true, Option.some.injEq, Prod.mk.injEq] at h
      simp only [Bool.and_eq_true] at tt
      exact .inl ⟨rfl, h.1.symm, tt.2.2.2⟩
theorem pF_ok (L : List EN) : ∀ (fu k : Nat) (p : PT) (f : Nat), pF L fu k = some (p, f) → p.ok = true
  | 0, _, _, _, h => by simp [pF] at h
  | _ + 1, 0, _, _, h => by simp [pF] at h
  | fu + 1, k + 1, p, f, h => by
    rcases pF_inv L fu k p f _ rfl h with ⟨_, rfl, h1⟩ | ⟨_, _, rfl, h1⟩ | ⟨_, _, q, h1, rfl, _, h2⟩ | ⟨_, _, l, r, m, h1, rfl, _, _, h2, h3⟩
    · exact h1
    · exact h1
    · unfold PT.ok; rw [h1, pF_ok L fu k q f h2]; rfl
    · unfold PT.ok; rw [h1, pF_ok L fu k r m h2, pF_ok L fu m l f h3]; rfl
set_option maxHeartbeats 2000000 in
theorem c_ev (L : List EN) (a : Option Addr) (n c : Nat) (i : Int) (u v : VV) (hn : n ≤ 1048576) (hi : inB i 0 1000 = true) (hu : okV u = true) (hv : okV v = true) : ∀ (fu k : Nat) (p : PT) (f : Nat) (w : World), pF L fu (k + 1) = some (p, f) → k < n → RdE w a n L →
    Calls Try.prog 61 #[.agg #[.slice a n c], .int .i64 (k : Int), .agg #[.int .i64 i, .int .i64 u.1, .int .i64 u.2.1, .string u.2.2, .int .i64 v.1, .int .i64 v.2.1, .string v.2.2]] w fun e w' => e = .returned (.tuple #[.agg #[.int .i64 (evE p i u v).k, .int .i64 (evE p i u v).n, .string (evE p i u v).t], .int .i64 (evE p i u v).c]) ∧ Below w.heap.size w w'
  | 0, _, _, _, _, h, _, _ => by simp [pF] at h
  | fu + 1, k, p, f, w, h, hk, hr => by
    obtain ⟨x, hx⟩ : ∃ x, x = L.getD k zeroE := ⟨_, rfl⟩
    rcases pF_inv L fu k p f x hx h with ⟨o1, rfl, h1⟩ | ⟨o1, o2, rfl, h1⟩ | ⟨o1, o2, p', h1, rfl, ha, h2⟩ | ⟨o1, o2, l, r', m, h1, rfl, ha, hb, h2, h3⟩
    · exact c_le_con L a n c k x i u v w hr hk hn hx  o1 _ rfl
    · exact c_le_col L a n c k x i u v w hr hk hn hx h1 o1 o2 _ (colE_c x.c i u v)
    · have l5 : decide (x.o ≤ 5) = true := by unfold inB at h1; simp at h1; rw [decide_eq_true_eq]; omega
      have IH : Hid (∀ W, Below w.heap.size w W → Calls Try.prog 61 #[.agg #[.slice a n c], .int .i64 x.a, .agg #[.int .i64 i, .int .i64 u.1, .int .i64 u.2.1, .string u.2.2, .int .i64 v.1, .int .i64 v.2.1, .string v.2.2]] W fun e w' => e = .returned (.tuple #[.agg #[.int .i64 (evE p' i u v).k, .int .i64 (evE p' i u v).n, .string (evE p' i u v).t], .int .i64 (evE p' i u v).c]) ∧ Below W.heap.size W w') := fun W hW => by
        have hk0 : 0 < k := by have := pF_lt L fu k p' f h2; omega
        obtain ⟨j, rfl⟩ : ∃ j, k = j + 1 := ⟨k - 1, by omega⟩
        rw [ha, show ((j + 1 : Nat) : Int) - 1 = (j : Int) by omega]
        exact c_ev L a n c i u v hn hi hu hv fu j p' f W h2 (by omega) (hr.below hW)
      have vr := ev_val i u v hi hu hv p' (pF_ok L fu k p' f h2)
      cases cr : ((evE p' i u v).c != 0)
      · exact c_le_una L a n c k x i u v w hr hk hn hx (evE p' i u v) IH vr o1 o2 cr l5 _ (by unfold Hid; rw [evE, cr]; rfl)
      · exact c_le_err L a n c k x i u v w hr hk hn hx (evE p' i u v) IH o1 o2 cr _ (by unfold Hid; rw [evE, cr]; rfl)
    · have l5 : decide (x.o ≤ 5) = false := by unfold inB at h1; simp at h1; rw [decide_eq_false_iff_not]; omega
      have hm := pF_lt L fu k r' m h2
      have IH : Hid (∀ W, Below w.heap.size w W → Calls Try.prog 61 #[.agg #[.slice a n c], .int .i64 x.a, .agg #[.int .i64 i, .int .i64 u.1, .int .i64 u.2.1, .string u.2.2, .int .i64 v.1, .int .i64 v.2.1, .string v.2.2]] W fun e w' => e = .returned (.tuple #[.agg #[.int .i64 (evE l i u v).k, .int .i64 (evE l i u v).n, .string (evE l i u v).t], .int .i64 (evE l i u v).c]) ∧ Below W.heap.size W w') := fun W hW => by
        have hk0 : 0 < m := by have := pF_lt L fu m l f h3; omega
        obtain ⟨j, rfl⟩ : ∃ j, m = j + 1 := ⟨m - 1, by omega⟩
        rw [ha, show ((j + 1 : Nat) : Int) - 1 = (j : Int) by omega]
        exact c_ev L a n c i u v hn hi hu hv fu j l f W h3 (by omega) (hr.below hW)
      have IJ : Hid (∀ W, Below w.heap.size w W → Calls Try.prog 61 #[.agg #[.slice a n c], .int .i64 x.b, .agg #[.int .i64 i, .int .i64 u.1, .int .i64 u.2.1, .string u.2.2, .int .i64 v.1, .int .i64 v.2.1, .string v.2.2]] W fun e w' => e = .returned (.tuple #[.agg #[.int .i64 (evE r' i u v).k, .int .i64 (evE r' i u v).n, .string (evE r' i u v).t], .int .i64 (evE r' i u v).c]) ∧ Below W.heap.size W w') := fun W hW => by
        obtain ⟨j, rfl⟩ : ∃ j, k = j + 1 := ⟨k - 1, by omega⟩
        rw [hb, show ((j + 1 : Nat) : Int) - 1 = (j : Int) by omega]
        exact c_ev L a n c i u v hn hi hu hv fu j r' m W h2 (by omega) (hr.below hW)
      have CB : Hid (∀ W, Calls Try.prog 90 #[.int .i64 x.o, .agg #[.int .i64 (evE l i u v).k, .int .i64 (evE l i u v).n, .string (evE l i u v).t], .agg #[.int .i64 (evE r' i u v).k, .int .i64 (evE r' i u v).n, .string (evE r' i u v).t]] W fun e w' => e = .returned (.tuple #[.agg #[.int .i64 (binR x.o (evE l i u v).k (evE l i u v).n (evE l i u v).t (evE r' i u v).k (evE r' i u v).n (evE r' i u v).t).k, .int .i64 (binR x.o (evE l i u v).k (evE l i u v).n (evE l i u v).t (evE r' i u v).k (evE r' i u v).n (evE r' i u v).t).n, .string ⟨#[]⟩], .int .i64 (binR x.o (evE l i u v).k (evE l i u v).n (evE l i u v).t (evE r' i u v).k (evE r' i u v).n (evE r' i u v).t).c]) ∧ Below W.heap.size W w') := fun W => c_l10B x.o _ _ _ _ _ _ W (by unfold inB at h1; simp at h1; exact h1.1) (by unfold inB at h1; simp at h1; exact h1.2) (rt_of (ev_val i u v hi hu hv l (pF_ok L fu m l f h3))) (rt_of (ev_val i u v hi hu hv r' (pF_ok L fu k r' m h2)))
      clear h1 ha hb h2 h3 hm h
      cases cr : ((evE l i u v).c != 0)
      · cases o12 : (x.o == 12)
        · cases o13 : (x.o == 13)
          · have dd : decB x.o (evE l i u v).k (evE l i u v).n = false := by unfold decB; rw [o12, o13]; simp
            cases cs : ((evE r' i u v).c != 0)
            · exact c_le_Vc L a n c k x i u v w hr hk hn hx (evE l i u v) IH (evE r' i u v) IJ (binR x.o (evE l i u v).k (evE l i u v).n (evE l i u v).t (evE r' i u v).k (evE r' i u v).n (evE r' i u v).t) CB o1 o2 cr l5 o12 o13 cs _ (by unfold Hid; rw [evE, cr, dd, cs]; rfl)
            · exact c_le_Ec L a n c k x i u v w hr hk hn hx (evE l i u v) IH (evE r' i u v) IJ o1 o2 cr l5 o12 o13 cs _ (by unfold Hid; rw [evE, cr, dd, cs]; rfl)
          · cases k1 : ((evE l i u v).k == 1)
            · have dd : decB x.o (evE l i u v).k (evE l i u v).n = false := by unfold decB; rw [k1]; rfl
              cases cs : ((evE r' i u v).c != 0)
              · exact c_le_Vd L a n c k x i u v w hr hk hn hx (evE l i u v) IH (evE r' i u v) IJ (binR x.o (evE l i u v).k (evE l i u v).n (evE l i u v).t (evE r' i u v).k (evE r' i u v).n (evE r' i u v).t) CB o1 o2 cr l5 o12 o13 k1 cs _ (by unfold Hid; rw [evE, cr, dd, cs]; rfl)
              · exact c_le_Ed L a n c k x i u v w hr hk hn hx (evE l i u v) IH (evE r' i u v) IJ o1 o2 cr l5 o12 o13 k1 cs _ (by unfold Hid; rw [evE, cr, dd, cs]; rfl)
            · cases nn : ((evE l i u v).n != 0)
              · have dd : decB x.o (evE l i u v).k (evE l i u v).n = false := by unfold decB; rw [o12, nn]; simp
                cases cs : ((evE r' i u v).c != 0)
                · exact c_le_Ve L a n c k x i u v w hr hk hn hx (evE l i u v) IH (evE r' i u v) IJ (binR x.o (evE l i u v).k (evE l i u v).n (evE l i u v).t (evE r' i u v).k (evE r' i u v).n (evE r' i u v).t) CB o1 o2 cr l5 o12 o13 k1 nn cs _ (by unfold Hid; rw [evE, cr, dd, cs]; rfl)
                · exact c_le_Ee L a n c k x i u v w hr hk hn hx (evE l i u v) IH (evE r' i u v) IJ o1 o2 cr l5 o12 o13 k1 nn cs _ (by unfold Hid; rw [evE, cr, dd, cs]; rfl)
              · have dd : decB x.o (evE l i u v).k (evE l i u v).n = true := by unfold decB; rw [k1, o12, o13, nn]; rfl
                exact c_le_or L a n c k x i u v w hr hk hn hx (evE l i u v) IH o1 o2 cr l5 o12 o13 k1 nn _ (by unfold Hid; rw [evE, cr, dd, o13]; rfl)
        · have o13 : (x.o == 13) = false := by rw [show x.o = 12 by simpa using o12]; rfl
          cases k1 : ((evE l i u v).k == 1)
          · have dd : decB x.o (evE l i u v).k (evE l i u v).n = false := by unfold decB; rw [k1]; rfl
            cases cs : ((evE r' i u v).c != 0)
            · exact c_le_Va L a n c k x i u v w hr hk hn hx (evE l i u v) IH (evE r' i u v) IJ (binR x.o (evE l i u v).k (evE l i u v).n (evE l i u v).t (evE r' i u v).k (evE r' i u v).n (evE r' i u v).t) CB o1 o2 cr l5 o12 k1 o13 cs _ (by unfold Hid; rw [evE, cr, dd, cs]; rfl)
            · exact c_le_Ea L a n c k x i u v w hr hk hn hx (evE l i u v) IH (evE r' i u v) IJ o1 o2 cr l5 o12 k1 o13 cs _ (by unfold Hid; rw [evE, cr, dd, cs]; rfl)
          · cases n0 : ((evE l i u v).n == 0)
            · have dd : decB x.o (evE l i u v).k (evE l i u v).n = false := by unfold decB; rw [n0, o13]; simp
              cases cs : ((evE r' i u v).c != 0)
              · exact c_le_Vb L a n c k x i u v w hr hk hn hx (evE l i u v) IH (evE r' i u v) IJ (binR x.o (evE l i u v).k (evE l i u v).n (evE l i u v).t (evE r' i u v).k (evE r' i u v).n (evE r' i u v).t) CB o1 o2 cr l5 o12 k1 n0 o13 cs _ (by unfold Hid; rw [evE, cr, dd, cs]; rfl)
              · exact c_le_Eb L a n c k x i u v w hr hk hn hx (evE l i u v) IH (evE r' i u v) IJ o1 o2 cr l5 o12 k1 n0 o13 cs _ (by unfold Hid; rw [evE, cr, dd, cs]; rfl)
            · have dd : decB x.o (evE l i u v).k (evE l i u v).n = true := by unfold decB; rw [k1, o12, n0]; rfl
              exact c_le_and L a n c k x i u v w hr hk hn hx (evE l i u v) IH o1 o2 cr l5 o12 k1 n0 _ (by unfold Hid; rw [evE, cr, dd, o13]; rfl)
      · exact c_le_err L a n c k x i u v w hr hk hn hx (evE l i u v) IH o1 o2 cr _ (by unfold Hid; rw [evE, cr]; rfl)

end Go.Proofs.Ytlapmidiakaimaa
