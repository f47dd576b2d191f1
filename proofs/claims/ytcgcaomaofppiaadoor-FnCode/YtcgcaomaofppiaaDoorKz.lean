/-
  appendCode of any part, and the program's CompileExpr.
-/
import Derived.Test.YtcgcaomaofppiaaDoorDa
import Derived.Test.YtcgcaomaofppiaaDoorXh
import Derived.Test.YtcgcaomaofppiaaDoorXk2
import Derived.Deep.RegionLaw
import Derived.Laws.AppendOwn
import Derived.Laws.AppendOwnNone
import Derived.Maps.AppendAt
import Derived.Deep.RegionHeld3
namespace Go.Proofs.YtcgcaomaofppiaaDoor
open Go Go.RowKit

set_option linter.unusedVariables false
set_option linter.unusedSimpArgs false
def jmpI (op : Int) : Int := if op = 12 then 5 else if op = 13 then 6 else 0
/-- The code of a part whose first instruction stands at place m. -/
def codeP : PT → Nat → List IN
  | .con k n t, _ => [⟨1, 0, k, n, t⟩]
  | .col c, _ => [⟨2, c, 0, 0, ⟨#[]⟩⟩]
  | .una op p, m => codeP p m ++ [⟨3, op, 0, 0, ⟨#[]⟩⟩]
  | .bin op l r, m =>
    if jmpI op = 0 then codeP l m ++ codeP r (m + (codeP l m).length) ++ [⟨4, op, 0, 0, ⟨#[]⟩⟩]
    else codeP l m ++ [⟨jmpI op, ((m + (codeP l m).length + 1 + (codeP r (m + (codeP l m).length + 1)).length + 1 : Nat) : Int), 0, 0, ⟨#[]⟩⟩] ++ codeP r (m + (codeP l m).length + 1) ++ [⟨4, op, 0, 0, ⟨#[]⟩⟩]
def PT.cnt : PT → Nat
  | .con _ _ _ => 1
  | .col _ => 1
  | .una _ p => p.cnt + 1
  | .bin _ l r => l.cnt + r.cnt + 1
theorem code_len : ∀ (p : PT) (m : Nat), (codeP p m).length + 1 ≤ 2 * p.cnt
  | .con _ _ _, _ => by simp [codeP, PT.cnt]
  | .col _, _ => by simp [codeP, PT.cnt]
  | .una _ p, m => by have := code_len p m; simp [codeP, PT.cnt]; omega
  | .bin op l r, m => by
    rw [codeP, PT.cnt]
    have h1 := code_len l m
    split
    · have h2 := code_len r (m + (codeP l m).length)
      simp only [List.length_append, List.length_cons, List.length_nil]; omega
    · have h2 := code_len r (m + (codeP l m).length + 1)
      simp only [List.length_append, List.length_cons, List.length_nil]; omega
/-- The list C stands in L from place m on. -/
def Seg (L : List IN) (m : Nat) (C : List IN) : Prop := ∀ j, j < C.length → L.getD (m + j) zeroI = C.getD j zeroI
theorem Seg.left {L : List IN} {m : Nat} {A C : List IN} (h : Seg L m (A ++ C)) : Seg L m A := fun j hj => by
  rw [h j (by rw [List.length_append]; omega), List.getD_eq_getElem?_getD, List.getElem?_append_left hj, ← List.getD_eq_getElem?_getD]
theorem Seg.right {L : List IN} {m : Nat} {A C : List IN} (h : Seg L m (A ++ C)) : Seg L (m + A.length) C := fun j hj => by
  have := h (A.length + j) (by rw [List.length_append]; omega)
  rw [Nat.add_assoc, this, List.getD_eq_getElem?_getD, List.getElem?_append_right (by omega), Nat.add_sub_cancel_left, ← List.getD_eq_getElem?_getD]
theorem Seg.one {L : List IN} {m : Nat} {x : IN} (h : Seg L m [x]) : L.getD m zeroI = x := by
  have := h 0 (by simp)
  simpa using this
theorem last_snoc (S : List SV) (x : SV) : lastS (S ++ [x]) = x := by
  unfold lastS
  rw [List.length_append, List.length_singleton, Nat.add_sub_cancel, List.getD_eq_getElem?_getD, List.getElem?_append_right (Nat.le_refl _), Nat.sub_self]
  rfl
theorem drop_snoc (S : List SV) (x : SV) : (S ++ [x]).dropLast = S := by simp
theorem run_step (L : List IN) (n : Nat) (i : Int) (u v : VV) (f k : Nat) (S : List SV) (hk : k < n) : runR L n i u v (f + 1) S k = if (stR (L.getD k zeroI) i u v S k).2.2 = 0 then runR L n i u v f (stR (L.getD k zeroI) i u v S k).1 (stR (L.getD k zeroI) i u v S k).2.1 else errE (stR (L.getD k zeroI) i u v S k).2.2 := by
  rw [runR, if_pos hk]
theorem col_c (c i : Int) (u v : VV) : (colE c i u v).c = 0 := by unfold colE; split <;> (try split) <;> rfl
theorem jop_j {op : Int} (h : jmpI op ≠ 0) : jop (jmpI op) = op ∧ (jmpI op = 5 ∨ jmpI op = 6) := by
  unfold jmpI at h ⊢
  split at h
  · rename_i e; subst e; exact ⟨rfl, .inl rfl⟩
  · split at h
    · rename_i e1 e; subst e; exact ⟨rfl, .inr rfl⟩
    · exact absurd rfl h
theorem dec_no {op k n : Int} (h : jmpI op = 0) : decB op k n = false := by
  unfold jmpI at h
  split at h
  · omega
  · split at h
    · omega
    · rename_i h1 h2
      unfold decB
      have e1 : (op == 12) = false := by simp [h1]
      have e2 : (op == 13) = false := by simp [h2]
      rw [e1, e2]
      simp
theorem stR3 (op : Int) (i : Int) (u v : VV) (S : List SV) (k : Nat) : stR ⟨3, op, 0, 0, ⟨#[]⟩⟩ i u v S k = (S.dropLast ++ [evS (unaE op (lastS S).k (lastS S).n)], k + 1, (unaE op (lastS S).k (lastS S).n).c) := rfl
theorem stR4 (op : Int) (i : Int) (u v : VV) (S : List SV) (k : Nat) : stR ⟨4, op, 0, 0, ⟨#[]⟩⟩ i u v S k = (S.dropLast.dropLast ++ [brS (binR op (lastS S.dropLast).k (lastS S.dropLast).n (lastS S.dropLast).t (lastS S).k (lastS S).n (lastS S).t)], k + 1, (binR op (lastS S.dropLast).k (lastS S.dropLast).n (lastS S.dropLast).t (lastS S).k (lastS S).n (lastS S).t).c) := rfl
theorem stRj (op q : Int) (i : Int) (u v : VV) (S : List SV) (k : Nat) (h : jmpI op ≠ 0) : stR ⟨jmpI op, q, 0, 0, ⟨#[]⟩⟩ i u v S k = if decB op (lastS S).k (lastS S).n then (S.dropLast ++ [⟨1, trI (op == 13), ⟨#[]⟩⟩], q.toNat, 0) else (S, k + 1, 0) := by
  obtain ⟨h1, h2⟩ := jop_j h
  unfold stR
  dsimp only
  rw [if_neg (by omega), if_neg (by omega), if_neg (by omega), if_neg (by omega), h1]
theorem ne_t {c : Int} (h : c ≠ 0) : (c != 0) = true := by simp [h]
theorem ne_f {c : Int} (h : c = 0) : (c != 0) = false := by simp [h]
theorem ev_una0 {p : PT} {i : Int} {u v : VV} (op : Int) (h : (evE p i u v).c = 0) : evE (.una op p) i u v = unaE op (evE p i u v).k (evE p i u v).n := by rw [evE, ne_f h]; rfl
theorem ev_unaE {p : PT} {i : Int} {u v : VV} (op : Int) (h : (evE p i u v).c ≠ 0) : evE (.una op p) i u v = errE (evE p i u v).c := by rw [evE, ne_t h]; rfl
theorem ev_binL {l : PT} {i : Int} {u v : VV} (op : Int) (r : PT) (h : (evE l i u v).c ≠ 0) : evE (.bin op l r) i u v = errE (evE l i u v).c := by rw [evE, ne_t h]; rfl
theorem ev_binD {l : PT} {i : Int} {u v : VV} (op : Int) (r : PT) (h : (evE l i u v).c = 0) (hd : decB op (evE l i u v).k (evE l i u v).n = true) : evE (.bin op l r) i u v = numE (trI (op == 13)) := by rw [evE, ne_f h, hd]; rfl
theorem ev_binR {l r : PT} {i : Int} {u v : VV} (op : Int) (h : (evE l i u v).c = 0) (hd : decB op (evE l i u v).k (evE l i u v).n = false) (hr : (evE r i u v).c ≠ 0) : evE (.bin op l r) i u v = errE (evE r i u v).c := by rw [evE, ne_f h, hd, ne_t hr]; rfl
theorem ev_bin0 {l r : PT} {i : Int} {u v : VV} (op : Int) (h : (evE l i u v).c = 0) (hd : decB op (evE l i u v).k (evE l i u v).n = false) (hr : (evE r i u v).c = 0) : evE (.bin op l r) i u v = ofB (binR op (evE l i u v).k (evE l i u v).n (evE l i u v).t (evE r i u v).k (evE r i u v).n (evE r i u v).t) := by rw [evE, ne_f h, hd, ne_f hr]; rfl
def after (L : List IN) (n : Nat) (i : Int) (u v : VV) (e : EV) (f : Nat) (S : List SV) (k : Nat) : EV := if e.c = 0 then runR L n i u v f (S ++ [evS e]) k else errE e.c
theorem after_ok {L : List IN} {n : Nat} {i : Int} {u v : VV} {e : EV} {f : Nat} {S : List SV} {k : Nat} (h : e.c = 0) : after L n i u v e f S k = runR L n i u v f (S ++ [evS e]) k := by unfold after; rw [if_pos h]
theorem after_err {L : List IN} {n : Nat} {i : Int} {u v : VV} {e : EV} {f : Nat} {S : List SV} {k : Nat} (h : e.c ≠ 0) : after L n i u v e f S k = errE e.c := by unfold after; rw [if_neg h]
theorem after_errE {L : List IN} {n : Nat} {i : Int} {u v : VV} {c : Int} {f : Nat} {S : List SV} {k : Nat} (h : c ≠ 0) : after L n i u v (errE c) f S k = errE c := after_err h
theorem bin_end (L : List IN) (n : Nat) (i : Int) (u v : VV) (op : Int) (S : List SV) (a b : EV) (f k : Nat) (hk : k < n) (hx : L.getD k zeroI = ⟨4, op, 0, 0, ⟨#[]⟩⟩) :
    runR L n i u v (f + 1) (S ++ [evS a] ++ [evS b]) k = after L n i u v (ofB (binR op a.k a.n a.t b.k b.n b.t)) f S (k + 1) := by
  rw [run_step _ _ _ _ _ _ _ _ hk, hx, stR4, drop_snoc, drop_snoc, last_snoc, last_snoc]
  rfl
theorem run_code (L : List IN) (n : Nat) (i : Int) (u v : VV) : ∀ (p : PT) (m : Nat) (S : List SV) (f : Nat), Seg L m (codeP p m) → m + (codeP p m).length ≤ n → n - m < f → ∃ f', n - (m + (codeP p m).length) < f' ∧ runR L n i u v f S m = after L n i u v (evE p i u v) f' S (m + (codeP p m).length)
  | .con k x t, m, S, f, hs, hn, hf => by
    obtain ⟨f, rfl⟩ : ∃ g, f = g + 1 := ⟨f - 1, by omega⟩
    simp only [codeP, List.length_singleton] at hs hn ⊢
    refine ⟨f, by omega, ?_⟩
    rw [run_step _ _ _ _ _ _ _ _ (by omega), hs.one]
    rfl
  | .col c, m, S, f, hs, hn, hf => by
    obtain ⟨f, rfl⟩ : ∃ g, f = g + 1 := ⟨f - 1, by omega⟩
    simp only [codeP, List.length_singleton] at hs hn ⊢
    refine ⟨f, by omega, ?_⟩
    rw [run_step _ _ _ _ _ _ _ _ (by omega), hs.one, evE, after_ok (col_c _ _ _ _)]
    rfl
  | .una op p, m, S, f, hs, hn, hf => by
    rw [codeP] at hs hn ⊢
    rw [List.length_append, List.length_singleton] at hn ⊢
    obtain ⟨f1, h1, e1⟩ := run_code L n i u v p m S f hs.left (by omega) hf
    have hx := hs.right.one
    obtain ⟨f1, rfl⟩ : ∃ g, f1 = g + 1 := ⟨f1 - 1, by omega⟩
    refine ⟨f1, by omega, ?_⟩
    rw [e1]
    by_cases hc : (evE p i u v).c = 0
    · rw [after_ok hc, run_step _ _ _ _ _ _ _ _ (by omega), hx, stR3, drop_snoc, last_snoc, ev_una0 op hc]
      rfl
    · rw [after_err hc, ev_unaE op hc, after_errE hc]
  | .bin op l r, m, S, f, hs, hn, hf => by
    rw [codeP] at hs hn ⊢
    by_cases hj : jmpI op = 0
    · rw [if_pos hj] at hs hn ⊢
      simp only [List.length_append, List.length_singleton] at hn ⊢
      obtain ⟨f1, h1, e1⟩ := run_code L n i u v l m S f hs.left.left (by omega) hf
      rw [e1]
      by_cases hl : (evE l i u v).c = 0
      · obtain ⟨f2, h2, e2⟩ := run_code L n i u v r (m + (codeP l m).length) (S ++ [evS (evE l i u v)]) f1 hs.left.right (by omega) h1
        have hx := hs.right.one
        rw [List.length_append, ← Nat.add_assoc] at hx
        obtain ⟨f2, rfl⟩ : ∃ g, f2 = g + 1 := ⟨f2 - 1, by omega⟩
        refine ⟨f2, by omega, ?_⟩
        rw [after_ok hl, e2]
        by_cases hr : (evE r i u v).c = 0
        · rw [after_ok hr, bin_end _ _ _ _ _ op _ _ _ _ _ (by omega) hx, ev_bin0 op hl (dec_no hj) hr]
          simp only [Nat.add_assoc]
        · rw [after_err hr, ev_binR op hl (dec_no hj) hr, after_errE hr]
      · refine ⟨n + 1, by omega, ?_⟩
        rw [after_err hl, ev_binL op r hl, after_errE hl]
    · rw [if_neg hj] at hs hn ⊢
      simp only [List.length_append, List.length_singleton] at hn ⊢
      obtain ⟨f1, h1, e1⟩ := run_code L n i u v l m S f hs.left.left.left (by omega) hf
      rw [e1]
      by_cases hl : (evE l i u v).c = 0
      · have hxj := hs.left.left.right.one
        obtain ⟨f1, rfl⟩ : ∃ g, f1 = g + 1 := ⟨f1 - 1, by omega⟩
        cases hd : decB op (evE l i u v).k (evE l i u v).n with
        | true =>
          refine ⟨f1, by omega, ?_⟩
          rw [after_ok hl, run_step _ _ _ _ _ _ _ _ (by omega), hxj, stRj _ _ _ _ _ _ _ hj, last_snoc, drop_snoc]
          rw [show decB op (evS (evE l i u v)).k (evS (evE l i u v)).n = true from hd, ev_binD op r hl hd, after_ok rfl]
          simp only [if_true, Int.toNat_natCast]
          rw [show m + ((codeP l m).length + 1 + (codeP r (m + (codeP l m).length + 1)).length + 1) = m + (codeP l m).length + 1 + (codeP r (m + (codeP l m).length + 1)).length + 1 by omega]
          rfl
        | false =>
          have sr := hs.left.right
          rw [List.length_append, List.length_singleton, ← Nat.add_assoc] at sr
          obtain ⟨f2, h2, e2⟩ := run_code L n i u v r (m + (codeP l m).length + 1) (S ++ [evS (evE l i u v)]) f1 sr (by omega) (by omega)
          have hx := hs.right.one
          simp only [List.length_append, List.length_singleton] at hx
          obtain ⟨f2, rfl⟩ : ∃ g, f2 = g + 1 := ⟨f2 - 1, by omega⟩
          refine ⟨f2, by omega, ?_⟩
          rw [after_ok hl, run_step _ _ _ _ _ _ _ _ (by omega), hxj, stRj _ _ _ _ _ _ _ hj, last_snoc]
          rw [show decB op (evS (evE l i u v)).k (evS (evE l i u v)).n = false from hd]
          simp only [Bool.false_eq_true, if_false, if_true]
          rw [e2]
          by_cases hr : (evE r i u v).c = 0
          · rw [after_ok hr, bin_end _ _ _ _ _ op _ _ _ _ _ (by omega) (by rw [show m + (codeP l m).length + 1 + (codeP r (m + (codeP l m).length + 1)).length = m + ((codeP l m).length + 1 + (codeP r (m + (codeP l m).length + 1)).length) by omega]; exact hx), ev_bin0 op hl hd hr]
            rw [show m + (codeP l m).length + 1 + (codeP r (m + (codeP l m).length + 1)).length + 1 = m + ((codeP l m).length + 1 + (codeP r (m + (codeP l m).length + 1)).length + 1) by omega]
          · rw [after_err hr, ev_binR op hl hd hr, after_errE hr]
      · refine ⟨n + 1, by omega, ?_⟩
        rw [after_err hl, ev_binL op r hl, after_errE hl]
/-- The code of a part, run from its beginning, tells what the part means. -/
theorem run_all (p : PT) (i : Int) (u v : VV) (f : Nat) (hf : (codeP p 0).length < f) : (runR (codeP p 0) (codeP p 0).length i u v f [] 0).c = (evE p i u v).c ∧ ((evE p i u v).c = 0 → runR (codeP p 0) (codeP p 0).length i u v f [] 0 = evE p i u v) ∧ ((evE p i u v).c ≠ 0 → runR (codeP p 0) (codeP p 0).length i u v f [] 0 = errE (evE p i u v).c) := by
  obtain ⟨f', h1, e⟩ := run_code (codeP p 0) (codeP p 0).length i u v p 0 [] f (fun j hj => by rw [Nat.zero_add]) (by omega) (by omega)
  rw [e]
  by_cases hc : (evE p i u v).c = 0
  · rw [after_ok hc]
    obtain ⟨f', rfl⟩ : ∃ g, f' = g + 1 := ⟨f' - 1, by omega⟩
    rw [runR, if_neg (by omega), List.nil_append, show lastS [evS (evE p i u v)] = evS (evE p i u v) from rfl]
    have : (⟨(evS (evE p i u v)).k, (evS (evE p i u v)).n, (evS (evE p i u v)).t, 0⟩ : EV) = evE p i u v := by
      rw [← hc]; rfl
    rw [this]
    exact ⟨rfl, fun _ => rfl, fun h => absurd hc h⟩
  · rw [after_err hc]
    exact ⟨rfl, fun h => absurd h hc, fun _ => rfl⟩

end Go.Proofs.YtcgcaomaofppiaaDoor
namespace Go.Proofs.YtcgcaomaofppiaaDoor
open Go Go.RowKit

set_option linter.unusedVariables false
set_option linter.unusedSimpArgs false
theorem zV0 (o p : Int) : zV ⟨o, p, 0, 0, ⟨#[]⟩⟩ = true := by unfold zV; rw [emptyL]; rfl
theorem ju1 (n i : Nat) (k x : Int) (t : ByteArray) (h : valB k x t = true) : justB n i ⟨1, 0, k, x, t⟩ = true := by unfold justB; rw [if_pos rfl]; simpa using h
theorem ju2 (n i : Nat) (c : Int) (h : inB c 0 2 = true) : justB n i ⟨2, c, 0, 0, ⟨#[]⟩⟩ = true := by unfold justB; dsimp only; rw [if_neg (by decide), if_pos rfl, zV0, h]; rfl
theorem ju3 (n i : Nat) (c : Int) (h : inB c 3 5 = true) : justB n i ⟨3, c, 0, 0, ⟨#[]⟩⟩ = true := by unfold justB; dsimp only; rw [if_neg (by decide), if_neg (by decide), if_pos rfl, zV0, h]; rfl
theorem ju4 (n i : Nat) (c : Int) (h : inB c 6 13 = true) : justB n i ⟨4, c, 0, 0, ⟨#[]⟩⟩ = true := by unfold justB; dsimp only; rw [if_neg (by decide), if_neg (by decide), if_neg (by decide), if_pos rfl, zV0, h]; rfl
theorem ju5 (n i : Nat) (op q : Int) (hj : jmpI op ≠ 0) (h1 : (i : Int) + 1 ≤ q) (h2 : q ≤ n) : justB n i ⟨jmpI op, q, 0, 0, ⟨#[]⟩⟩ = true ∧ jmp (jmpI op) = true := by
  obtain ⟨_, h⟩ := jop_j hj
  have e : jmp (jmpI op) = true := by unfold jmp; rcases h with h | h <;> rw [h] <;> rfl
  refine ⟨?_, e⟩
  unfold justB
  dsimp only
  rw [if_neg (by omega), if_neg (by omega), if_neg (by omega), if_neg (by omega), zV0, e]
  unfold inB
  rw [decide_eq_true ⟨h1, h2⟩]
  rfl
theorem go_plain {n : Nat} {L : List IN} {f k : Nat} {ds : List Int} {x : IN} (hx : L.getD k zeroI = x) (hj : jmp x.o = false) (hu : justB n k x = true) (ht : tak x.o ≤ ds.getD k 0) (h60 : ds.getD k 0 - tak x.o + 1 ≤ 60) (hd : ds.getD (k + 1) 0 < 0 ∨ ds.getD (k + 1) 0 = ds.getD k 0 - tak x.o + 1) : goS n L (f + 1) k ds = goS n L f (k + 1) (ds.set (k + 1) (ds.getD k 0 - tak x.o + 1)) := by
  rw [goS, hx]
  have e : stS n k x ds = some (ds.set (k + 1) (ds.getD k 0 - tak x.o + 1)) := by
    unfold stS
    rw [if_pos ⟨hu, ht⟩, if_pos (by unfold okJ; rw [hj]; rfl)]
    have es : setJ x (ds.getD k 0) ds = ds := by unfold setJ; rw [hj]; rfl
    rw [es, if_pos]
    unfold okN
    rw [decide_eq_true h60, Bool.true_and]
    rcases hd with h | h
    · rw [decide_eq_true h]; rfl
    · rw [h]; simp
  rw [e]
theorem go_jump {n : Nat} {L : List IN} {f k T : Nat} {ds : List Int} {x : IN} (hx : L.getD k zeroI = x) (hj : jmp x.o = true) (hu : justB n k x = true) (hT : x.p.toNat = T) (hne : k + 1 < T) (ht : 1 ≤ ds.getD k 0) (h60 : ds.getD k 0 ≤ 60) (hd : ds.getD (k + 1) 0 < 0) (hd2 : ds.getD T 0 < 0) : goS n L (f + 1) k ds = goS n L f (k + 1) ((ds.set T (ds.getD k 0)).set (k + 1) (ds.getD k 0)) := by
  rw [goS, hx]
  have e : stS n k x ds = some ((ds.set T (ds.getD k 0)).set (k + 1) (ds.getD k 0)) := by
    have t1 := tak_j hj
    unfold stS
    rw [if_pos ⟨hu, by rw [t1]; exact ht⟩, if_pos (by unfold okJ; rw [hT, decide_eq_true hd2]; simp)]
    have es : setJ x (ds.getD k 0) ds = ds.set T (ds.getD k 0) := by unfold setJ; rw [hj, hT]; rfl
    rw [es, t1, show ds.getD k 0 - 1 + 1 = ds.getD k 0 by omega, if_pos]
    unfold okN
    rw [getD_set_ne (by omega), decide_eq_true h60, decide_eq_true hd]
    rfl
  rw [e]
/-- What a segment of code makes of the numbers: one value more behind it, none above d + c. -/
structure Did (n : Nat) (ds ds' : List Int) (m e : Nat) (d c : Int) : Prop where
  l : ds'.length = n + 1
  v : ds'.getD e 0 = d + 1
  hi : ∀ j, e < j → ds'.getD j 0 = ds.getD j 0
  lo : ∀ j, j ≤ m → ds'.getD j 0 = ds.getD j 0
  b : ∀ j, m < j → j ≤ e → 0 ≤ ds'.getD j 0 ∧ ds'.getD j 0 ≤ d + c
theorem did_one {n m : Nat} {ds : List Int} {d c : Int} (hl : ds.length = n + 1) (hm : m + 1 ≤ n) (h0 : 0 ≤ d) (hc : 1 ≤ c) : Did n ds (ds.set (m + 1) (d + 1)) m (m + 1) d c :=
  ⟨by simp [hl], getD_set_self (by omega), fun j hj => getD_set_ne (by omega), fun j hj => getD_set_ne (by omega), fun j h1 h2 => by
    obtain rfl : j = m + 1 := by omega
    rw [getD_set_self (by omega)]
    omega⟩
theorem seg_go (L : List IN) (n : Nat) : ∀ (p : PT) (m g : Nat) (ds : List Int) (d : Int), p.ok = true → Seg L m (codeP p m) → m + (codeP p m).length ≤ n → ds.length = n + 1 → ds.getD m 0 = d → 0 ≤ d → d + p.cnt ≤ 60 → (∀ j, m < j → j ≤ m + (codeP p m).length → ds.getD j 0 < 0) → ∃ ds', goS n L (g + (codeP p m).length) m ds = goS n L g (m + (codeP p m).length) ds' ∧ Did n ds ds' m (m + (codeP p m).length) d p.cnt
  | .con k x t, m, g, ds, d, ok, hs, hn, hl, hd, h0, h60, hf => by
    simp only [codeP, List.length_singleton] at hs hn hf ⊢
    have e := go_plain (n := n) (f := g) hs.one rfl (ju1 n m k x t ok) (by rw [hd]; exact h0) (by rw [hd]; simp [tak, jmp, PT.cnt] at h60 ⊢; omega) (.inl (hf (m + 1) (by omega) (by omega)))
    refine ⟨_, e, ?_⟩
    rw [hd, show d - tak 1 + 1 = d + 1 by simp [tak, jmp]]
    exact did_one hl hn h0 (by simp [PT.cnt])
  | .col c, m, g, ds, d, ok, hs, hn, hl, hd, h0, h60, hf => by
    simp only [codeP, List.length_singleton] at hs hn hf ⊢
    have e := go_plain (n := n) (f := g) hs.one rfl (ju2 n m c ok) (by rw [hd]; exact h0) (by rw [hd]; simp [tak, jmp, PT.cnt] at h60 ⊢; omega) (.inl (hf (m + 1) (by omega) (by omega)))
    refine ⟨_, e, ?_⟩
    rw [hd, show d - tak 2 + 1 = d + 1 by simp [tak, jmp]]
    exact did_one hl hn h0 (by simp [PT.cnt])
  | .una op p, m, g, ds, d, ok, hs, hn, hl, hd, h0, h60, hf => by
    rw [codeP] at hs hn hf ⊢
    rw [List.length_append, List.length_singleton] at hn hf ⊢
    have ok2 : inB op 3 5 = true ∧ p.ok = true := by simpa [PT.ok] using ok
    have hc : d + p.cnt + 1 ≤ 60 := by simp [PT.cnt] at h60; omega
    obtain ⟨d1, e1, D1⟩ := seg_go L n p m (g + 1) ds d ok2.2 hs.left (by omega) hl hd h0 (by omega) (fun j h1 h2 => hf j h1 (by omega))
    have hx := hs.right.one
    have e2 := go_plain (n := n) (f := g) hx rfl (ju3 n _ op ok2.1) (ds := d1) (by rw [D1.v]; simp [tak]; omega) (by rw [D1.v]; simp [tak]; omega) (.inl (by rw [D1.hi _ (by omega)]; exact hf _ (by omega) (by omega)))
    rw [D1.v, show d + 1 - tak 3 + 1 = d + 1 by simp [tak]] at e2
    refine ⟨_, by rw [show g + ((codeP p m).length + 1) = g + 1 + (codeP p m).length by omega, e1, e2, Nat.add_assoc], ?_⟩
    have hpc : ((PT.una op p).cnt : Int) = p.cnt + 1 := by simp [PT.cnt]
    rw [hpc, ← Nat.add_assoc]
    refine ⟨by simp [D1.l], getD_set_self (by rw [D1.l]; omega), fun j hj => ?_, fun j hj => ?_, fun j h1 h2 => ?_⟩
    · rw [getD_set_ne (by omega)]; exact D1.hi j (by omega)
    · rw [getD_set_ne (by omega)]; exact D1.lo j (by omega)
    · by_cases hj : j = m + (codeP p m).length + 1
      · subst hj
        rw [getD_set_self (by rw [D1.l]; omega)]
        omega
      · rw [getD_set_ne (by omega)]
        have := D1.b j h1 (by omega)
        omega
  | .bin op l r, m, g, ds, d, ok, hs, hn, hl, hd, h0, h60, hf => by
    have ok2 : inB op 6 13 = true ∧ l.ok = true ∧ r.ok = true := by simpa [PT.ok] using ok
    have hpc : ((PT.bin op l r).cnt : Int) = l.cnt + r.cnt + 1 := by simp [PT.cnt]
    rw [hpc] at h60 ⊢
    have cl1 : 1 ≤ (l.cnt : Int) := by have := code_len l m; omega
    rw [codeP] at hs hn hf ⊢
    by_cases hj : jmpI op = 0
    · rw [if_pos hj] at hs hn hf ⊢
      simp only [List.length_append, List.length_singleton] at hn hf ⊢
      obtain ⟨A, hA⟩ : ∃ A, m + (codeP l m).length = A := ⟨_, rfl⟩
      obtain ⟨d1, e1, D1⟩ := seg_go L n l m (g + 1 + (codeP r A).length) ds d ok2.2.1 hs.left.left (by omega) hl hd h0 (by omega) (fun j h1 h2 => hf j h1 (by omega))
      have sr := hs.left.right
      have hx := hs.right.one
      rw [List.length_append, ← Nat.add_assoc] at hx
      rw [hA] at e1 D1 sr hn hf hx ⊢
      obtain ⟨d2, e2, D2⟩ := seg_go L n r A (g + 1) d1 (d + 1) ok2.2.2 sr (by omega) D1.l D1.v (by omega) (by omega) (fun j h1 h2 => by rw [D1.hi j (by omega)]; exact hf j (by omega) (by omega))
      obtain ⟨E, hE⟩ : ∃ E, A + (codeP r A).length = E := ⟨_, rfl⟩
      rw [hE] at e2 D2 hx
      have e3 := go_plain (n := n) (f := g) hx rfl (ju4 n _ op ok2.1) (ds := d2) (by rw [D2.v]; simp [tak]; omega) (by rw [D2.v]; simp [tak]; omega) (.inl (by rw [D2.hi _ (by omega), D1.hi _ (by omega)]; exact hf _ (by omega) (by omega)))
      rw [D2.v, show d + 1 + 1 - tak 4 + 1 = d + 1 by simp [tak]; omega] at e3
      refine ⟨_, by rw [show g + ((codeP l m).length + (codeP r A).length + 1) = g + 1 + (codeP r A).length + (codeP l m).length by omega, e1, e2, e3, show m + ((codeP l m).length + (codeP r A).length + 1) = E + 1 by omega], ?_⟩
      rw [show m + ((codeP l m).length + (codeP r A).length + 1) = E + 1 by omega]
      refine ⟨by simp [D2.l], getD_set_self (by rw [D2.l]; omega), fun j hj => ?_, fun j hj => ?_, fun j h1 h2 => ?_⟩
      · rw [getD_set_ne (by omega), D2.hi j (by omega)]; exact D1.hi j (by omega)
      · rw [getD_set_ne (by omega), D2.lo j (by omega)]; exact D1.lo j (by omega)
      · by_cases hjE : j = E + 1
        · subst hjE
          rw [getD_set_self (by rw [D2.l]; omega)]
          omega
        · rw [getD_set_ne (by omega)]
          by_cases hjA : A < j
          · have := D2.b j hjA (by omega)
            omega
          · rw [D2.lo j (by omega)]
            have := D1.b j h1 (by omega)
            omega
    · rw [if_neg hj] at hs hn hf ⊢
      simp only [List.length_append, List.length_singleton] at hn hf ⊢
      obtain ⟨A, hA⟩ : ∃ A, m + (codeP l m).length = A := ⟨_, rfl⟩
      obtain ⟨d1, e1, D1⟩ := seg_go L n l m (g + 1 + (codeP r (A + 1)).length + 1) ds d ok2.2.1 hs.left.left.left (by omega) hl hd h0 (by omega) (fun j h1 h2 => hf j h1 (by omega))
      have hxj := hs.left.left.right.one
      have sr := hs.left.right
      rw [List.length_append, List.length_singleton, ← Nat.add_assoc] at sr
      have hx := hs.right.one
      simp only [List.length_append, List.length_singleton] at hx
      rw [hA] at e1 D1 sr hn hf hx hxj ⊢
      obtain ⟨E, hE⟩ : ∃ E, A + 1 + (codeP r (A + 1)).length = E := ⟨_, rfl⟩
      rw [show m + ((codeP l m).length + 1 + (codeP r (A + 1)).length) = E by omega] at hx
      rw [hE] at hxj
      have hj5 := ju5 n A op ((E + 1 : Nat) : Int) hj (by omega) (by omega)
      have ej := go_jump (n := n) (f := g + 1 + (codeP r (A + 1)).length) (T := E + 1) hxj hj5.2 hj5.1 (by simp) (by omega) (ds := d1) (by rw [D1.v]; omega) (by rw [D1.v]; omega) (by rw [D1.hi _ (by omega)]; exact hf _ (by omega) (by omega)) (by rw [D1.hi _ (by omega)]; exact hf _ (by omega) (by omega))
      rw [D1.v] at ej
      obtain ⟨dj, hdj⟩ : ∃ x, (d1.set (E + 1) (d + 1)).set (A + 1) (d + 1) = x := ⟨_, rfl⟩
      rw [hdj] at ej
      have jl : dj.length = n + 1 := by rw [← hdj]; simp [D1.l]
      have jA : dj.getD (A + 1) 0 = d + 1 := by rw [← hdj]; exact getD_set_self (by simp [D1.l]; omega)
      have jE : dj.getD (E + 1) 0 = d + 1 := by rw [← hdj, getD_set_ne (by omega)]; exact getD_set_self (by rw [D1.l]; omega)
      have jo : ∀ j, j ≠ A + 1 → j ≠ E + 1 → dj.getD j 0 = d1.getD j 0 := fun j h1 h2 => by rw [← hdj, getD_set_ne (by omega), getD_set_ne (by omega)]
      obtain ⟨d2, e2, D2⟩ := seg_go L n r (A + 1) (g + 1) dj (d + 1) ok2.2.2 sr (by omega) jl jA (by omega) (by omega) (fun j h1 h2 => by rw [jo j (by omega) (by omega), D1.hi j (by omega)]; exact hf j (by omega) (by omega))
      rw [hE] at e2 D2
      have e3 := go_plain (n := n) (f := g) hx rfl (ju4 n _ op ok2.1) (ds := d2) (by rw [D2.v]; simp [tak]; omega) (by rw [D2.v]; simp [tak]; omega) (.inr (by rw [D2.hi _ (by omega), jE, D2.v]; simp [tak]; omega))
      rw [D2.v, show d + 1 + 1 - tak 4 + 1 = d + 1 by simp [tak]; omega] at e3
      refine ⟨_, by rw [show g + ((codeP l m).length + 1 + (codeP r (A + 1)).length + 1) = g + 1 + (codeP r (A + 1)).length + 1 + (codeP l m).length by omega, e1, ej, e2, e3, show m + ((codeP l m).length + 1 + (codeP r (A + 1)).length + 1) = E + 1 by omega], ?_⟩
      rw [show m + ((codeP l m).length + 1 + (codeP r (A + 1)).length + 1) = E + 1 by omega]
      refine ⟨by simp [D2.l], getD_set_self (by rw [D2.l]; omega), fun j hj => ?_, fun j hj => ?_, fun j h1 h2 => ?_⟩
      · rw [getD_set_ne (by omega), D2.hi j (by omega), jo j (by omega) (by omega)]; exact D1.hi j (by omega)
      · rw [getD_set_ne (by omega), D2.lo j (by omega), jo j (by omega) (by omega)]; exact D1.lo j (by omega)
      · by_cases hjE : j = E + 1
        · subst hjE
          rw [getD_set_self (by rw [D2.l]; omega)]
          omega
        · rw [getD_set_ne (by omega)]
          by_cases hjA : A + 1 < j
          · have := D2.b j hjA (by omega)
            omega
          · rw [D2.lo j (by omega)]
            by_cases hj1 : j = A + 1
            · subst hj1; rw [jA]; omega
            · rw [jo j hj1 hjE]
              have := D1.b j h1 (by omega)
              omega
theorem mxF_le : ∀ (ds : List Int) (m c : Int), m ≤ c → (∀ x ∈ ds, x ≤ c) → mxF m ds ≤ c
  | [], m, c, h, _ => h
  | a :: ds, m, c, h, hx => mxF_le ds (max m a) c (by have := hx a (List.mem_cons_self ..); omega) (fun x hy => hx x (List.mem_cons_of_mem _ hy))
theorem mxF_ge : ∀ (ds : List Int) (m : Int), m ≤ mxF m ds ∧ ∀ x ∈ ds, x ≤ mxF m ds
  | [], m => ⟨Int.le_refl _, fun _ h => by cases h⟩
  | a :: ds, m => by
    have := mxF_ge ds (max m a)
    have e : mxF m (a :: ds) = mxF (max m a) ds := rfl
    rw [e]
    refine ⟨by omega, fun x hx => ?_⟩
    rcases List.mem_cons.1 hx with rfl | hx
    · omega
    · exact this.2 x hx
/-- The code of a part of 60 nodes at most is right; it holds a value at least, and no more than the part has nodes. -/
theorem code_right (p : PT) (ok : p.ok = true) (h60 : p.cnt ≤ 60) : ∃ ds, resC (codeP p 0).length (codeP p 0) = some ds ∧ 1 ≤ mxF 0 ds ∧ mxF 0 ds ≤ p.cnt := by
  obtain ⟨n, hn⟩ : ∃ n, (codeP p 0).length = n := ⟨_, rfl⟩
  obtain ⟨ds, e, D⟩ := seg_go (codeP p 0) n p 0 0 (ds0 n) 0 ok (fun j hj => by rw [Nat.zero_add]) (by omega) (by simp [ds0]) (by simp [ds0]) (by omega) (by omega) (fun j h1 h2 => by
    obtain ⟨j, rfl⟩ : ∃ i, j = i + 1 := ⟨j - 1, by omega⟩
    simp only [ds0, List.getD_cons_succ]
    rw [List.getD_eq_getElem?_getD, List.getElem?_replicate, if_pos (by omega)]
    decide)
  rw [hn] at e D ⊢
  rw [Nat.zero_add] at e
  rw [Nat.zero_add] at D
  refine ⟨ds, ?_, ?_, ?_⟩
  · unfold resC
    rw [e, goS, finD, if_pos (by rw [D.v]; rfl)]
  · have hv := D.v
    have hm : ds.getD n 0 ∈ ds := by
      rw [List.getD_eq_getElem?_getD, List.getElem?_eq_getElem (by rw [D.l]; omega)]
      exact List.getElem_mem _
    have := (mxF_ge ds 0).2 _ hm
    omega
  · refine mxF_le ds 0 _ (by omega) (fun x hx => ?_)
    obtain ⟨j, hj, rfl⟩ := List.getElem_of_mem hx
    have hg : ds.getD j 0 = ds[j] := by rw [List.getD_eq_getElem?_getD, List.getElem?_eq_getElem hj]; rfl
    rw [← hg]
    by_cases h : j = 0
    · subst h
      rw [D.lo 0 (by omega)]
      simp [ds0]
    · have := D.b j (by omega) (by rw [D.l] at hj; omega)
      omega

end Go.Proofs.YtcgcaomaofppiaaDoor
namespace Go.Proofs.YtcgcaomaofppiaaDoor
open Go Go.RowKit

set_option linter.unusedVariables false
set_option linter.unusedSimpArgs false
theorem pF_stp (L : List EN) (fu k : Nat) : pF L (fu + 1) (k + 1) =
    cond ((L.getD k zeroE).o == 1) (cond ((L.getD k zeroE).a == 0 && ((L.getD k zeroE).b == 0 && ((L.getD k zeroE).c == 0 && valB (L.getD k zeroE).k (L.getD k zeroE).n (L.getD k zeroE).t))) (some (.con (L.getD k zeroE).k (L.getD k zeroE).n (L.getD k zeroE).t, k)) none)
    (cond ((L.getD k zeroE).o == 2) (cond ((L.getD k zeroE).a == 0 && ((L.getD k zeroE).b == 0 && (noV (L.getD k zeroE) && inB (L.getD k zeroE).c 0 2))) (some (.col (L.getD k zeroE).c, k)) none)
    (cond (inB (L.getD k zeroE).o 3 5) (cond ((L.getD k zeroE).a == (k : Int) - 1 && ((L.getD k zeroE).b == 0 && ((L.getD k zeroE).c == 0 && noV (L.getD k zeroE)))) (match pF L fu k with | none => none | some (p, f) => some (.una (L.getD k zeroE).o p, f)) none)
    (cond (inB (L.getD k zeroE).o 6 13) (match pF L fu k with | none => none | some (r, f) => cond ((L.getD k zeroE).a == (f : Int) - 1 && ((L.getD k zeroE).b == (k : Int) - 1 && ((L.getD k zeroE).c == 0 && noV (L.getD k zeroE)))) (match pF L fu f with | none => none | some (l, g) => some (.bin (L.getD k zeroE).o l r, g)) none)
    none))) := by
  rw [pF]
  generalize L.getD k zeroE = x
  unfold inB
  cases pF L fu k with
  | none => simp only [Bool.cond_decide, Bool.cond_eq_ite, beq_iff_eq, decide_eq_true_eq] <;> rfl
  | some q => simp only [Bool.cond_decide, Bool.cond_eq_ite, beq_iff_eq, decide_eq_true_eq] <;> rfl
def nodesP : PT → Nat → List EN
  | .con k n t, _ => [⟨1, 0, 0, 0, k, n, t⟩]
  | .col c, _ => [⟨2, 0, 0, c, 0, 0, ⟨#[]⟩⟩]
  | .una op p, m => nodesP p m ++ [⟨op, ((m + (nodesP p m).length : Nat) : Int) - 1, 0, 0, 0, 0, ⟨#[]⟩⟩]
  | .bin op l r, m => nodesP l m ++ nodesP r (m + (nodesP l m).length) ++ [⟨op, ((m + (nodesP l m).length : Nat) : Int) - 1, ((m + (nodesP l m).length + (nodesP r (m + (nodesP l m).length)).length : Nat) : Int) - 1, 0, 0, 0, ⟨#[]⟩⟩]
theorem nodes_len : ∀ (p : PT) (m : Nat), (nodesP p m).length = p.cnt
  | .con _ _ _, _ => rfl
  | .col _, _ => rfl
  | .una _ p, m => by rw [nodesP, PT.cnt, List.length_append, nodes_len p m]; rfl
  | .bin _ l r, m => by rw [nodesP, PT.cnt, List.length_append, List.length_append, nodes_len l, nodes_len r]; rfl
def SegE (L : List EN) (m : Nat) (C : List EN) : Prop := ∀ j, j < C.length → L.getD (m + j) zeroE = C.getD j zeroE
theorem SegE.left {L : List EN} {m : Nat} {A C : List EN} (h : SegE L m (A ++ C)) : SegE L m A := fun j hj => by
  rw [h j (by rw [List.length_append]; omega), List.getD_eq_getElem?_getD, List.getElem?_append_left hj, ← List.getD_eq_getElem?_getD]
theorem SegE.right {L : List EN} {m : Nat} {A C : List EN} (h : SegE L m (A ++ C)) : SegE L (m + A.length) C := fun j hj => by
  have := h (A.length + j) (by rw [List.length_append]; omega)
  rw [Nat.add_assoc, this, List.getD_eq_getElem?_getD, List.getElem?_append_right (by omega), Nat.add_sub_cancel_left, ← List.getD_eq_getElem?_getD]
theorem SegE.one {L : List EN} {m : Nat} {x : EN} (h : SegE L m [x]) : L.getD m zeroE = x := by
  have := h 0 (by simp)
  simpa using this
theorem noV0 (o a b c : Int) : noV ⟨o, a, b, c, 0, 0, ⟨#[]⟩⟩ = true := by unfold noV; rw [emptyL]; rfl
theorem cnt_pos : ∀ (p : PT), 1 ≤ p.cnt
  | .con _ _ _ => Nat.le_refl _
  | .col _ => Nat.le_refl _
  | .una _ _ => by simp [PT.cnt]
  | .bin _ _ _ => by simp [PT.cnt]
theorem pF_nodes (L : List EN) : ∀ (p : PT) (m fu : Nat), p.ok = true → SegE L m (nodesP p m) → p.cnt ≤ fu → pF L fu (m + p.cnt) = some (p, m)
  | .con k x t, m, fu, ok, hs, hf => by
    obtain ⟨fu, rfl⟩ : ∃ g, fu = g + 1 := ⟨fu - 1, by simp [PT.cnt] at hf; omega⟩
    have hx := SegE.one hs
    rw [show m + (PT.con k x t).cnt = m + 1 from rfl, pF_stp, hx]
    have hv : valB k x t = true := ok
    simp only [hv]
    rfl
  | .col c, m, fu, ok, hs, hf => by
    obtain ⟨fu, rfl⟩ : ∃ g, fu = g + 1 := ⟨fu - 1, by simp [PT.cnt] at hf; omega⟩
    have hx := SegE.one hs
    rw [show m + (PT.col c).cnt = m + 1 from rfl, pF_stp, hx]
    have hv : inB c 0 2 = true := ok
    simp only [hv, noV0]
    rfl
  | .una op p, m, fu, ok, hs, hf => by
    obtain ⟨fu, rfl⟩ : ∃ g, fu = g + 1 := ⟨fu - 1, by simp [PT.cnt] at hf; omega⟩
    have ok2 : inB op 3 5 = true ∧ p.ok = true := by simpa [PT.ok] using ok
    rw [nodesP] at hs
    have hx := hs.right.one
    have ih := pF_nodes L p m fu ok2.2 hs.left (by simp [PT.cnt] at hf; omega)
    rw [nodes_len] at hx
    rw [show m + (PT.una op p).cnt = m + p.cnt + 1 from rfl, pF_stp, hx, ih]
    have h35 : 3 ≤ op ∧ op ≤ 5 := of_decide_eq_true ok2.1
    have o1 : (op == 1) = false := by simp; omega
    have o2 : (op == 2) = false := by simp; omega
    have oa : ((((m + p.cnt : Nat) : Int) - 1) == ((m + p.cnt : Nat) : Int) - 1) = true := by simp
    simp only [o1, o2, ok2.1, noV0, oa]
    rfl
  | .bin op l r, m, fu, ok, hs, hf => by
    obtain ⟨fu, rfl⟩ : ∃ g, fu = g + 1 := ⟨fu - 1, by simp [PT.cnt] at hf; omega⟩
    have ok2 : inB op 6 13 = true ∧ l.ok = true ∧ r.ok = true := by simpa [PT.ok] using ok
    rw [nodesP] at hs
    have hx := hs.right.one
    have sr := hs.left.right
    simp only [List.length_append, nodes_len] at hx sr
    have ihl := pF_nodes L l m fu ok2.2.1 hs.left.left (by simp [PT.cnt] at hf; omega)
    have ihr := pF_nodes L r (m + l.cnt) fu ok2.2.2 sr (by simp [PT.cnt] at hf; omega)
    rw [← Nat.add_assoc] at hx
    rw [show m + (PT.bin op l r).cnt = m + l.cnt + r.cnt + 1 by simp [PT.cnt]; omega, pF_stp, hx, ihr]
    dsimp only
    rw [ihl]
    have h613 : 6 ≤ op ∧ op ≤ 13 := of_decide_eq_true ok2.1
    have o1 : (op == 1) = false := by simp; omega
    have o2 : (op == 2) = false := by simp; omega
    have o3 : inB op 3 5 = false := decide_eq_false (by omega)
    have oa : ((((m + l.cnt : Nat) : Int) - 1) == ((m + l.cnt : Nat) : Int) - 1) = true := by simp
    have ob : ((((m + l.cnt + r.cnt : Nat) : Int) - 1) == ((m + l.cnt + r.cnt : Nat) : Int) - 1) = true := by simp
    simp only [o1, o2, o3, ok2.1, noV0, oa, ob]
    rfl

end Go.Proofs.YtcgcaomaofppiaaDoor
namespace Go.Proofs.YtcgcaomaofppiaaDoor
open Go Go.RowKit
set_option linter.unusedVariables false
set_option linter.unusedSimpArgs false

theorem wF_step (L : List EN) (fu k : Nat) : wF L (fu + 1) (k + 1) =
    cond ((L.getD k zeroE).o == 1) (k, 1, (L.getD k zeroE).a == 0 && ((L.getD k zeroE).b == 0 && ((L.getD k zeroE).c == 0 && valB (L.getD k zeroE).k (L.getD k zeroE).n (L.getD k zeroE).t)))
    (cond ((L.getD k zeroE).o == 2) (k, 1, (L.getD k zeroE).a == 0 && ((L.getD k zeroE).b == 0 && (inB (L.getD k zeroE).c 0 2 && noV (L.getD k zeroE))))
    (cond (inB (L.getD k zeroE).o 3 5) ((wF L fu k).1, (wF L fu k).2.1 + 1, (wF L fu k).2.2 && ((L.getD k zeroE).a == (k : Int) - 1 && ((L.getD k zeroE).b == 0 && ((L.getD k zeroE).c == 0 && noV (L.getD k zeroE)))))
    (cond (inB (L.getD k zeroE).o 6 13) (cond (wF L fu k).2.2 ((wF L fu (wF L fu k).1).1, max (wF L fu (wF L fu k).1).2.1 (wF L fu k).2.1 + 1, (wF L fu (wF L fu k).1).2.2 && ((L.getD k zeroE).a == ((wF L fu k).1 : Int) - 1 && ((L.getD k zeroE).b == (k : Int) - 1 && ((L.getD k zeroE).c == 0 && noV (L.getD k zeroE))))) (0, 0, false))
    (0, 0, false)))) := by
  rw [wF]
  generalize L.getD k zeroE = x
  unfold inB
  simp only [Bool.cond_decide]
  cases (wF L fu k).2.2 <;> simp only [beq_iff_eq, cond_true, cond_false, if_true, reduceCtorEq, if_false, ← Bool.cond_decide] <;> rfl
set_option maxRecDepth 100000 in
set_option maxHeartbeats 4000000 in
theorem c_lW_0 (a : Option Addr) (n c : Nat) (w : World) : Calls Tryd.prog 65 #[.agg #[.slice a n c], .int .i64 (-1)] w fun e w' => e = .returned (.tuple #[.int .i64 0, .int .i64 0, .bool false]) ∧ Below w.heap.size w w' := by
  go_enter Tryd.func65, Tryd.ntmps65
  go_wp2
  go_ret3
  exact ⟨rfl, (Below.refl _ _).alloc (Nat.le_refl _) _⟩
theorem cast_pred (k : Nat) : ((k + 1 : Nat) : Int) - 1 = (k : Int) := by omega
set_option maxHeartbeats 2000000 in
theorem c_walk (L : List EN) (a : Option Addr) (n c : Nat) (hn : n ≤ 1048576) (hs : ∀ v ∈ L, v.t.size ≤ maxLen) : ∀ (fu k : Nat) (w : World), k ≤ fu → k ≤ n → fu ≤ 1048576 → RdE w a n L →
    Calls Tryd.prog 65 #[.agg #[.slice a n c], .int .i64 ((k : Int) - 1)] w fun e w' => e = .returned (.tuple #[.int .i64 ((wF L fu k).1 : Int), .int .i64 ((wF L fu k).2.1 : Int), .bool (wF L fu k).2.2]) ∧ Below w.heap.size w w'
  | 0, 0, w, _, _, _, _ => c_lW_0 a n c w
  | _ + 1, 0, w, _, _, _, _ => c_lW_0 a n c w
  | 0, k + 1, _, h, _, _, _ => absurd h (by omega)
  | fu + 1, k + 1, w, hkf, hk, hfu, hr => by
    rw [cast_pred]
    obtain ⟨x, hx⟩ : ∃ x, x = L.getD k zeroE := ⟨_, rfl⟩
    have hxs : x.t.size ≤ maxLen := by
      rw [hx]
      exact getD_ofX (Q := fun v : EN => v.t.size ≤ maxLen) hs (by have := hr.1; omega)
    have rl : (wF L fu k).1 ≤ 1048576 := Nat.le_trans (wF_le L fu k) (by omega)
    have rd : (wF L fu k).2.1 ≤ 1048576 := Nat.le_trans (wF_dep L fu k) (by omega)
    have sl : (wF L fu (wF L fu k).1).1 ≤ 1048576 := Nat.le_trans (wF_le L fu _) rl
    have sd : (wF L fu (wF L fu k).1).2.1 ≤ 1048576 := Nat.le_trans (wF_dep L fu _) (by omega)
    have IH : Hid (∀ W, Below w.heap.size w W → Calls Tryd.prog 65 #[.agg #[.slice a n c], .int .i64 ((k : Int) - 1)] W fun e w' => e = .returned (.tuple #[.int .i64 ((wF L fu k).1 : Int), .int .i64 ((wF L fu k).2.1 : Int), .bool (wF L fu k).2.2]) ∧ Below W.heap.size W w') := fun W hW => c_walk L a n c hn hs fu k W (by omega) (by omega) (by omega) (hr.below hW)
    have IJ : Hid (∀ W, Below w.heap.size w W → Calls Tryd.prog 65 #[.agg #[.slice a n c], .int .i64 (((wF L fu k).1 : Int) - 1)] W fun e w' => e = .returned (.tuple #[.int .i64 ((wF L fu (wF L fu k).1).1 : Int), .int .i64 ((wF L fu (wF L fu k).1).2.1 : Int), .bool (wF L fu (wF L fu k).1).2.2]) ∧ Below W.heap.size W w') := fun W hW => c_walk L a n c hn hs fu (wF L fu k).1 W (by have := wF_le L fu k; omega) (by have := wF_le L fu k; omega) (by omega) (hr.below hW)
    cases o1 : (x.o == 1)
    · cases o2 : (x.o == 2)
      · cases u : inB x.o 3 5
        · cases bi : inB x.o 6 13
          · exact c_lW_5 L a n c k x w hr hk hn hx hxs  o1 o2 u bi _ (by unfold Hid; rw [wF_step, ← hx]; simp only [o1, o2, u, bi, cond_true, cond_false, Bool.and_true, Bool.and_false, Bool.true_and, Bool.false_and, noV])
          · cases ok : (wF L fu k).2.2
            · exact c_lW_4N L a n c k x w hr hk hn hx hxs (wF L fu k) rl rd IH o1 o2 u bi ok _ (by unfold Hid; rw [wF_step, ← hx]; simp only [o1, o2, u, bi, ok, cond_true, cond_false, Bool.and_true, Bool.and_false, Bool.true_and, Bool.false_and, noV])
            · skip
              cases fi : (wF L fu (wF L fu k).1).2.2
              · exact c_lW_4f L a n c k x w hr hk hn hx hxs (wF L fu k) rl rd IH (wF L fu (wF L fu k).1) sl sd IJ o1 o2 u bi ok fi _ (by unfold Hid; rw [wF_step, ← hx]; simp only [o1, o2, u, bi, ok, fi, cond_true, cond_false, Bool.and_true, Bool.and_false, Bool.true_and, Bool.false_and, noV])
              · skip
                cases aw : (x.a == ((wF L fu k).1 : Int) - 1)
                · exact c_lW_4a L a n c k x w hr hk hn hx hxs (wF L fu k) rl rd IH (wF L fu (wF L fu k).1) sl sd IJ o1 o2 u bi ok fi aw _ (by unfold Hid; rw [wF_step, ← hx]; simp only [o1, o2, u, bi, ok, fi, aw, cond_true, cond_false, Bool.and_true, Bool.and_false, Bool.true_and, Bool.false_and, noV])
                · skip
                  cases bm : (x.b == (k : Int) - 1)
                  · exact c_lW_4b L a n c k x w hr hk hn hx hxs (wF L fu k) rl rd IH (wF L fu (wF L fu k).1) sl sd IJ o1 o2 u bi ok fi aw bm _ (by unfold Hid; rw [wF_step, ← hx]; simp only [o1, o2, u, bi, ok, fi, aw, bm, cond_true, cond_false, Bool.and_true, Bool.and_false, Bool.true_and, Bool.false_and, noV])
                  · skip
                    cases c0 : (x.c == 0)
                    · exact c_lW_4c L a n c k x w hr hk hn hx hxs (wF L fu k) rl rd IH (wF L fu (wF L fu k).1) sl sd IJ o1 o2 u bi ok fi aw bm c0 _ (by unfold Hid; rw [wF_step, ← hx]; simp only [o1, o2, u, bi, ok, fi, aw, bm, c0, cond_true, cond_false, Bool.and_true, Bool.and_false, Bool.true_and, Bool.false_and, noV])
                    · skip
                      cases k0 : (x.k == 0)
                      · exact c_lW_4k L a n c k x w hr hk hn hx hxs (wF L fu k) rl rd IH (wF L fu (wF L fu k).1) sl sd IJ o1 o2 u bi ok fi aw bm c0 k0 _ (by unfold Hid; rw [wF_step, ← hx]; simp only [o1, o2, u, bi, ok, fi, aw, bm, c0, k0, cond_true, cond_false, Bool.and_true, Bool.and_false, Bool.true_and, Bool.false_and, noV])
                      · skip
                        cases n0 : (x.n == 0)
                        · exact c_lW_4n L a n c k x w hr hk hn hx hxs (wF L fu k) rl rd IH (wF L fu (wF L fu k).1) sl sd IJ o1 o2 u bi ok fi aw bm c0 k0 n0 _ (by unfold Hid; rw [wF_step, ← hx]; simp only [o1, o2, u, bi, ok, fi, aw, bm, c0, k0, n0, cond_true, cond_false, Bool.and_true, Bool.and_false, Bool.true_and, Bool.false_and, noV])
                        · skip
                          cases t0 : (x.t.toList == [])
                          · exact c_lW_4t L a n c k x w hr hk hn hx hxs (wF L fu k) rl rd IH (wF L fu (wF L fu k).1) sl sd IJ o1 o2 u bi ok fi aw bm c0 k0 n0 t0 _ (by unfold Hid; rw [wF_step, ← hx]; simp only [o1, o2, u, bi, ok, fi, aw, bm, c0, k0, n0, t0, cond_true, cond_false, Bool.and_true, Bool.and_false, Bool.true_and, Bool.false_and, noV])
                          · skip
                            exact c_lW_4v L a n c k x w hr hk hn hx hxs (wF L fu k) rl rd IH (wF L fu (wF L fu k).1) sl sd IJ o1 o2 u bi ok fi aw bm c0 k0 n0 t0 _ (by unfold Hid; rw [wF_step, ← hx]; simp only [o1, o2, u, bi, ok, fi, aw, bm, c0, k0, n0, t0, cond_true, cond_false, Bool.and_true, Bool.and_false, Bool.true_and, Bool.false_and, noV])
        · skip
          cases ok : (wF L fu k).2.2
          · exact c_lW_3o L a n c k x w hr hk hn hx hxs (wF L fu k) rl rd IH o1 o2 u ok _ (by unfold Hid; rw [wF_step, ← hx]; simp only [o1, o2, u, ok, cond_true, cond_false, Bool.and_true, Bool.and_false, Bool.true_and, Bool.false_and, noV])
          · skip
            cases am : (x.a == (k : Int) - 1)
            · exact c_lW_3a L a n c k x w hr hk hn hx hxs (wF L fu k) rl rd IH o1 o2 u ok am _ (by unfold Hid; rw [wF_step, ← hx]; simp only [o1, o2, u, ok, am, cond_true, cond_false, Bool.and_true, Bool.and_false, Bool.true_and, Bool.false_and, noV])
            · skip
              cases b0 : (x.b == 0)
              · exact c_lW_3b L a n c k x w hr hk hn hx hxs (wF L fu k) rl rd IH o1 o2 u ok am b0 _ (by unfold Hid; rw [wF_step, ← hx]; simp only [o1, o2, u, ok, am, b0, cond_true, cond_false, Bool.and_true, Bool.and_false, Bool.true_and, Bool.false_and, noV])
              · skip
                cases c0 : (x.c == 0)
                · exact c_lW_3c L a n c k x w hr hk hn hx hxs (wF L fu k) rl rd IH o1 o2 u ok am b0 c0 _ (by unfold Hid; rw [wF_step, ← hx]; simp only [o1, o2, u, ok, am, b0, c0, cond_true, cond_false, Bool.and_true, Bool.and_false, Bool.true_and, Bool.false_and, noV])
                · skip
                  cases k0 : (x.k == 0)
                  · exact c_lW_3k L a n c k x w hr hk hn hx hxs (wF L fu k) rl rd IH o1 o2 u ok am b0 c0 k0 _ (by unfold Hid; rw [wF_step, ← hx]; simp only [o1, o2, u, ok, am, b0, c0, k0, cond_true, cond_false, Bool.and_true, Bool.and_false, Bool.true_and, Bool.false_and, noV])
                  · skip
                    cases n0 : (x.n == 0)
                    · exact c_lW_3n L a n c k x w hr hk hn hx hxs (wF L fu k) rl rd IH o1 o2 u ok am b0 c0 k0 n0 _ (by unfold Hid; rw [wF_step, ← hx]; simp only [o1, o2, u, ok, am, b0, c0, k0, n0, cond_true, cond_false, Bool.and_true, Bool.and_false, Bool.true_and, Bool.false_and, noV])
                    · skip
                      cases t0 : (x.t.toList == [])
                      · exact c_lW_3t L a n c k x w hr hk hn hx hxs (wF L fu k) rl rd IH o1 o2 u ok am b0 c0 k0 n0 t0 _ (by unfold Hid; rw [wF_step, ← hx]; simp only [o1, o2, u, ok, am, b0, c0, k0, n0, t0, cond_true, cond_false, Bool.and_true, Bool.and_false, Bool.true_and, Bool.false_and, noV])
                      · skip
                        exact c_lW_3v L a n c k x w hr hk hn hx hxs (wF L fu k) rl rd IH o1 o2 u ok am b0 c0 k0 n0 t0 _ (by unfold Hid; rw [wF_step, ← hx]; simp only [o1, o2, u, ok, am, b0, c0, k0, n0, t0, cond_true, cond_false, Bool.and_true, Bool.and_false, Bool.true_and, Bool.false_and, noV])
      · skip
        cases a0 : (x.a == 0)
        · exact c_lW_2a L a n c k x w hr hk hn hx hxs  o1 o2 a0 _ (by unfold Hid; rw [wF_step, ← hx]; simp only [o1, o2, a0, cond_true, cond_false, Bool.and_true, Bool.and_false, Bool.true_and, Bool.false_and, noV])
        · skip
          cases b0 : (x.b == 0)
          · exact c_lW_2b L a n c k x w hr hk hn hx hxs  o1 o2 a0 b0 _ (by unfold Hid; rw [wF_step, ← hx]; simp only [o1, o2, a0, b0, cond_true, cond_false, Bool.and_true, Bool.and_false, Bool.true_and, Bool.false_and, noV])
          · skip
            cases cl : inB x.c 0 2
            · exact c_lW_2l L a n c k x w hr hk hn hx hxs  o1 o2 a0 b0 cl _ (by unfold Hid; rw [wF_step, ← hx]; simp only [o1, o2, a0, b0, cl, cond_true, cond_false, Bool.and_true, Bool.and_false, Bool.true_and, Bool.false_and, noV])
            · skip
              cases k0 : (x.k == 0)
              · exact c_lW_2k L a n c k x w hr hk hn hx hxs  o1 o2 a0 b0 cl k0 _ (by unfold Hid; rw [wF_step, ← hx]; simp only [o1, o2, a0, b0, cl, k0, cond_true, cond_false, Bool.and_true, Bool.and_false, Bool.true_and, Bool.false_and, noV])
              · skip
                cases n0 : (x.n == 0)
                · exact c_lW_2n L a n c k x w hr hk hn hx hxs  o1 o2 a0 b0 cl k0 n0 _ (by unfold Hid; rw [wF_step, ← hx]; simp only [o1, o2, a0, b0, cl, k0, n0, cond_true, cond_false, Bool.and_true, Bool.and_false, Bool.true_and, Bool.false_and, noV])
                · skip
                  cases t0 : (x.t.toList == [])
                  · exact c_lW_2t L a n c k x w hr hk hn hx hxs  o1 o2 a0 b0 cl k0 n0 t0 _ (by unfold Hid; rw [wF_step, ← hx]; simp only [o1, o2, a0, b0, cl, k0, n0, t0, cond_true, cond_false, Bool.and_true, Bool.and_false, Bool.true_and, Bool.false_and, noV])
                  · skip
                    exact c_lW_2v L a n c k x w hr hk hn hx hxs  o1 o2 a0 b0 cl k0 n0 t0 _ (by unfold Hid; rw [wF_step, ← hx]; simp only [o1, o2, a0, b0, cl, k0, n0, t0, cond_true, cond_false, Bool.and_true, Bool.and_false, Bool.true_and, Bool.false_and, noV])
    · skip
      cases a0 : (x.a == 0)
      · exact c_lW_1a L a n c k x w hr hk hn hx hxs  o1 a0 _ (by unfold Hid; rw [wF_step, ← hx]; simp only [o1, a0, cond_true, cond_false, Bool.and_true, Bool.and_false, Bool.true_and, Bool.false_and, noV])
      · skip
        cases b0 : (x.b == 0)
        · exact c_lW_1b L a n c k x w hr hk hn hx hxs  o1 a0 b0 _ (by unfold Hid; rw [wF_step, ← hx]; simp only [o1, a0, b0, cond_true, cond_false, Bool.and_true, Bool.and_false, Bool.true_and, Bool.false_and, noV])
        · skip
          cases c0 : (x.c == 0)
          · exact c_lW_1c L a n c k x w hr hk hn hx hxs  o1 a0 b0 c0 _ (by unfold Hid; rw [wF_step, ← hx]; simp only [o1, a0, b0, c0, cond_true, cond_false, Bool.and_true, Bool.and_false, Bool.true_and, Bool.false_and, noV])
          · skip
            exact c_lW_1v L a n c k x w hr hk hn hx hxs  o1 a0 b0 c0 _ (by unfold Hid; rw [wF_step, ← hx]; simp only [o1, a0, b0, c0, cond_true, cond_false, Bool.and_true, Bool.and_false, Bool.true_and, Bool.false_and, noV])

end Go.Proofs.YtcgcaomaofppiaaDoor
namespace Go.Proofs.YtcgcaomaofppiaaDoor
open Go Go.RowKit
set_option linter.unusedVariables false
set_option linter.unusedSimpArgs false

theorem c_dbin (op : Int) (l r : PT) (hl : DepC l) (hr : DepC r) (dl : l.dep ≤ 1048576) (dr : r.dep ≤ 1048576) : DepC (.bin op l r) := by
  cases l with
  | con k1 n1 t1 =>
    cases r with
    | con k2 n2 t2 => exact c_dbin_concon op k1 n1 t1 k2 n2 t2 hl hr dl dr
    | col c2 => exact c_dbin_concol op k1 n1 t1 c2 hl hr dl dr
    | una o2 p2 => exact c_dbin_conuna op k1 n1 t1 o2 p2 hl hr dl dr
    | bin o2 p2 u2 => exact c_dbin_conbin op k1 n1 t1 o2 p2 u2 hl hr dl dr
  | col c1 =>
    cases r with
    | con k2 n2 t2 => exact c_dbin_colcon op c1 k2 n2 t2 hl hr dl dr
    | col c2 => exact c_dbin_colcol op c1 c2 hl hr dl dr
    | una o2 p2 => exact c_dbin_coluna op c1 o2 p2 hl hr dl dr
    | bin o2 p2 u2 => exact c_dbin_colbin op c1 o2 p2 u2 hl hr dl dr
  | una o1 p1 =>
    cases r with
    | con k2 n2 t2 => exact c_dbin_unacon op o1 p1 k2 n2 t2 hl hr dl dr
    | col c2 => exact c_dbin_unacol op o1 p1 c2 hl hr dl dr
    | una o2 p2 => exact c_dbin_unauna op o1 p1 o2 p2 hl hr dl dr
    | bin o2 p2 u2 => exact c_dbin_unabin op o1 p1 o2 p2 u2 hl hr dl dr
  | bin o1 p1 u1 =>
    cases r with
    | con k2 n2 t2 => exact c_dbin_bincon op o1 p1 u1 k2 n2 t2 hl hr dl dr
    | col c2 => exact c_dbin_bincol op o1 p1 u1 c2 hl hr dl dr
    | una o2 p2 => exact c_dbin_binuna op o1 p1 u1 o2 p2 hl hr dl dr
    | bin o2 p2 u2 => exact c_dbin_binbin op o1 p1 u1 o2 p2 u2 hl hr dl dr
theorem c_dep : ∀ p : PT, p.dep ≤ 1048576 → DepC p
  | .con k n t, _ => fun w => c_dcon k n t w
  | .col c, _ => fun w => c_dcol c w
  | .una op p, h => c_duna op p (c_dep p (by have : (PT.una op p).dep = p.dep + 1 := rfl; omega)) (by have : (PT.una op p).dep = p.dep + 1 := rfl; omega)
  | .bin op l r, h => c_dbin op l r (c_dep l (by have : (PT.bin op l r).dep = max l.dep r.dep + 1 := rfl; omega)) (c_dep r (by have : (PT.bin op l r).dep = max l.dep r.dep + 1 := rfl; omega)) (by have : (PT.bin op l r).dep = max l.dep r.dep + 1 := rfl; omega) (by have : (PT.bin op l r).dep = max l.dep r.dep + 1 := rfl; omega)
/-- All of an expression, if it is right. -/
def topX (L : List EN) (n : Nat) : Option PT :=
  if 40 < n then none else match pF L n n with | some (p, 0) => (if 12 < p.dep then none else some p) | _ => none
def encT : Option PT → Value
  | none => .nilIface
  | some p => p.enc
def okX (L : List EN) (n : Nat) : Bool := inB (n : Int) 1 40 && ((wF L n n).2.2 && ((wF L n n).1 == 0 && decide ((wF L n n).2.1 ≤ 12)))
theorem top_ok (L : List EN) (n : Nat) : (topX L n).isSome = okX L n := by
  unfold topX okX
  have h := agree L n n
  by_cases h1 : 40 < n
  · rw [if_pos h1, show inB (n : Int) 1 40 = false by unfold inB; simp; omega]; rfl
  rw [if_neg h1]
  cases n with
  | zero => simp [pF, wF, inB]
  | succ m =>
    rw [show inB ((m + 1 : Nat) : Int) 1 40 = true by unfold inB; simp; omega]
    cases e : pF L (m + 1) (m + 1) with
    | none => rw [e] at h; have h' : (wF L (m + 1) (m + 1)).2.2 = false := h; rw [h']; rfl
    | some q =>
      obtain ⟨p, f⟩ := q
      rw [e] at h
      have h' : wF L (m + 1) (m + 1) = (f, p.dep, true) := h
      rw [h']
      cases f with
      | zero =>
        by_cases h2 : 12 < p.dep
        · simp [h2]
        · simp [h2]; omega
      | succ g => simp
set_option maxRecDepth 100000 in
set_option maxHeartbeats 4000000 in
theorem c_partOf (L : List EN) (a : Option Addr) (n c : Nat) (w : World) (hr : RdE w a n L) (hn : n ≤ 1048576) (hs : ∀ v ∈ L, v.t.size ≤ maxLen) : Calls Tryd.prog 33 #[.agg #[.slice a n c]] w fun e w' => e = .returned (encT (topX L n)) ∧ Below w.heap.size w w' := by
  by_cases h1 : 40 < n
  · have E : Hid (topX L n = none) := by unfold Hid topX; rw [if_pos h1]
    have d1 : (40 : Int) < (n : Int) := by omega
    clear h1
    go_enter Tryd.func33, Tryd.ntmps33
    go_wp2
    go_ret
    exact ⟨by rw [E.out]; rfl, (Below.refl _ _).alloc (Nat.le_refl _) _⟩
  have d1 : ¬ (40 : Int) < (n : Int) := by omega
  have CP : Hid (∀ W, Below w.heap.size w W → Calls Tryd.prog 60 #[.slice a n c, .int .i64 ((n : Int) - 1)] W fun e w' => e = .returned (.tuple #[encO (pF L n n), .int .i64 (ahO n (pF L n n))]) ∧ Below W.heap.size W w') := fun W hW => c_part L a n c hn hs n n W (Nat.le_refl _) (Nat.le_refl _) (hr.below hW)
  have hag := agree L n n
  have hwd := wF_dep L n n
  cases e : pF L n n with
  | none =>
    have E : Hid (topX L n = none) := by unfold Hid topX; rw [if_neg h1]; simp only [e]
    rw [e] at CP
    clear hag hwd h1 e
    go_enter Tryd.func33, Tryd.ntmps33
    go_wp2_with fail
    refine (CP.out _ ((Below.refl _ _).alloc (Nat.le_refl _) _)).mono ?_
    rintro e w1 ⟨rfl, hb⟩
    have HB : Hid (Below w.heap.size w w1) := ((Below.refl w.heap.size w).alloc (Nat.le_refl _) _).trans (hb.mono (by simp))
    clear hb
    simp only [encO, ahO]
    go_wp2
    go_ret
    exact ⟨by rw [E.out]; rfl, HB.out⟩
  | some q =>
    obtain ⟨p, f⟩ := q
    rw [e] at hag
    have hag' : wF L n n = (f, p.dep, true) := hag
    have hdp : p.dep ≤ 1048576 := by rw [hag'] at hwd; dsimp only at hwd; omega
    clear hag hag' hwd
    cases f with
    | succ g =>
      have E : Hid (topX L n = none) := by unfold Hid topX; rw [if_neg h1]; simp only [e]
      rw [e] at CP
      obtain ⟨T, v, hv⟩ := enc_if p
      have g0 : (0 : Int) ≤ ((g + 1 : Nat) : Int) - 1 := by omega
      clear h1 e hdp
      go_enter Tryd.func33, Tryd.ntmps33
      go_wp2_with fail
      refine (CP.out _ ((Below.refl _ _).alloc (Nat.le_refl _) _)).mono ?_
      rintro e w1 ⟨rfl, hb⟩
      have HB : Hid (Below w.heap.size w w1) := ((Below.refl w.heap.size w).alloc (Nat.le_refl _) _).trans (hb.mono (by simp))
      clear hb
      simp only [encO, ahO]
      rw [hv]
      clear hv
      go_wp2
      go_ret
      exact ⟨by rw [E.out]; rfl, HB.out⟩
    | zero =>
    cases p with
    | con k1 n1 t1 =>
      have CD := c_dep (PT.con k1 n1 t1) (by omega)
      unfold DepC at CD
      obtain ⟨d, hd⟩ : ∃ d : Int, d = ((PT.con k1 n1 t1).dep : Nat) := ⟨_, rfl⟩
      have CD' : Hid (∀ W, Calls Tryd.prog 115 #[.agg #[.int .i64 k1, .int .i64 n1, .string t1]] W fun e w' => e = .returned (.int .i64 d) ∧ Below W.heap.size W w') := by rw [hd]; exact CD
      by_cases h2 : 12 < (PT.con k1 n1 t1).dep
      · have E : Hid (topX L n = none) := by unfold Hid topX; rw [if_neg h1]; simp only [e]; rw [if_pos h2]
        have d2 : (12 : Int) < d := by omega
        rw [e] at CP
        clear CD hd h2 hdp
        go_enter Tryd.func33, Tryd.ntmps33
        go_wp2_with fail
        refine (CP.out _ ((Below.refl _ _).alloc (Nat.le_refl _) _)).mono ?_
        rintro e w1 ⟨rfl, hb⟩
        have HB : Hid (Below w.heap.size w w1) := ((Below.refl w.heap.size w).alloc (Nat.le_refl _) _).trans (hb.mono (by simp))
        clear hb
        simp only [encO, ahO, PT.enc]
        go_wp2_with fail
        refine (CD'.out _).mono ?_
        rintro e' w2 ⟨rfl, hb⟩
        have HB2 : Hid (Below w.heap.size w w2) := HB.out.trans (hb.mono HB.out.size)
        clear hb
        go_wp2
        go_ret
        exact ⟨by rw [E.out]; rfl, HB2.out⟩
      · have E : Hid (topX L n = some (PT.con k1 n1 t1)) := by unfold Hid topX; rw [if_neg h1]; simp only [e]; rw [if_neg h2]
        have d2 : ¬ (12 : Int) < d := by omega
        rw [e] at CP
        clear CD hd h2 hdp
        go_enter Tryd.func33, Tryd.ntmps33
        go_wp2_with fail
        refine (CP.out _ ((Below.refl _ _).alloc (Nat.le_refl _) _)).mono ?_
        rintro e w1 ⟨rfl, hb⟩
        have HB : Hid (Below w.heap.size w w1) := ((Below.refl w.heap.size w).alloc (Nat.le_refl _) _).trans (hb.mono (by simp))
        clear hb
        simp only [encO, ahO, PT.enc]
        go_wp2_with fail
        refine (CD'.out _).mono ?_
        rintro e' w2 ⟨rfl, hb⟩
        have HB2 : Hid (Below w.heap.size w w2) := HB.out.trans (hb.mono HB.out.size)
        clear hb
        go_wp2
        go_ret
        exact ⟨by rw [E.out]; simp only [encT, PT.enc]; rfl, HB2.out⟩
    | col c1 =>
      have CD := c_dep (PT.col c1) (by omega)
      unfold DepC at CD
      obtain ⟨d, hd⟩ : ∃ d : Int, d = ((PT.col c1).dep : Nat) := ⟨_, rfl⟩
      have CD' : Hid (∀ W, Calls Tryd.prog 114 #[.agg #[.int .i64 c1]] W fun e w' => e = .returned (.int .i64 d) ∧ Below W.heap.size W w') := by rw [hd]; exact CD
      by_cases h2 : 12 < (PT.col c1).dep
      · have E : Hid (topX L n = none) := by unfold Hid topX; rw [if_neg h1]; simp only [e]; rw [if_pos h2]
        have d2 : (12 : Int) < d := by omega
        rw [e] at CP
        clear CD hd h2 hdp
        go_enter Tryd.func33, Tryd.ntmps33
        go_wp2_with fail
        refine (CP.out _ ((Below.refl _ _).alloc (Nat.le_refl _) _)).mono ?_
        rintro e w1 ⟨rfl, hb⟩
        have HB : Hid (Below w.heap.size w w1) := ((Below.refl w.heap.size w).alloc (Nat.le_refl _) _).trans (hb.mono (by simp))
        clear hb
        simp only [encO, ahO, PT.enc]
        go_wp2_with fail
        refine (CD'.out _).mono ?_
        rintro e' w2 ⟨rfl, hb⟩
        have HB2 : Hid (Below w.heap.size w w2) := HB.out.trans (hb.mono HB.out.size)
        clear hb
        go_wp2
        go_ret
        exact ⟨by rw [E.out]; rfl, HB2.out⟩
      · have E : Hid (topX L n = some (PT.col c1)) := by unfold Hid topX; rw [if_neg h1]; simp only [e]; rw [if_neg h2]
        have d2 : ¬ (12 : Int) < d := by omega
        rw [e] at CP
        clear CD hd h2 hdp
        go_enter Tryd.func33, Tryd.ntmps33
        go_wp2_with fail
        refine (CP.out _ ((Below.refl _ _).alloc (Nat.le_refl _) _)).mono ?_
        rintro e w1 ⟨rfl, hb⟩
        have HB : Hid (Below w.heap.size w w1) := ((Below.refl w.heap.size w).alloc (Nat.le_refl _) _).trans (hb.mono (by simp))
        clear hb
        simp only [encO, ahO, PT.enc]
        go_wp2_with fail
        refine (CD'.out _).mono ?_
        rintro e' w2 ⟨rfl, hb⟩
        have HB2 : Hid (Below w.heap.size w w2) := HB.out.trans (hb.mono HB.out.size)
        clear hb
        go_wp2
        go_ret
        exact ⟨by rw [E.out]; simp only [encT, PT.enc]; rfl, HB2.out⟩
    | una o1 p1 =>
      have CD := c_dep (PT.una o1 p1) (by omega)
      unfold DepC at CD
      obtain ⟨d, hd⟩ : ∃ d : Int, d = ((PT.una o1 p1).dep : Nat) := ⟨_, rfl⟩
      have CD' : Hid (∀ W, Calls Tryd.prog 113 #[.agg #[.int .i64 o1, p1.enc]] W fun e w' => e = .returned (.int .i64 d) ∧ Below W.heap.size W w') := by rw [hd]; exact CD
      by_cases h2 : 12 < (PT.una o1 p1).dep
      · have E : Hid (topX L n = none) := by unfold Hid topX; rw [if_neg h1]; simp only [e]; rw [if_pos h2]
        have d2 : (12 : Int) < d := by omega
        rw [e] at CP
        clear CD hd h2 hdp
        go_enter Tryd.func33, Tryd.ntmps33
        go_wp2_with fail
        refine (CP.out _ ((Below.refl _ _).alloc (Nat.le_refl _) _)).mono ?_
        rintro e w1 ⟨rfl, hb⟩
        have HB : Hid (Below w.heap.size w w1) := ((Below.refl w.heap.size w).alloc (Nat.le_refl _) _).trans (hb.mono (by simp))
        clear hb
        simp only [encO, ahO, PT.enc]
        go_wp2_with fail
        refine (CD'.out _).mono ?_
        rintro e' w2 ⟨rfl, hb⟩
        have HB2 : Hid (Below w.heap.size w w2) := HB.out.trans (hb.mono HB.out.size)
        clear hb
        go_wp2
        go_ret
        exact ⟨by rw [E.out]; rfl, HB2.out⟩
      · have E : Hid (topX L n = some (PT.una o1 p1)) := by unfold Hid topX; rw [if_neg h1]; simp only [e]; rw [if_neg h2]
        have d2 : ¬ (12 : Int) < d := by omega
        rw [e] at CP
        clear CD hd h2 hdp
        go_enter Tryd.func33, Tryd.ntmps33
        go_wp2_with fail
        refine (CP.out _ ((Below.refl _ _).alloc (Nat.le_refl _) _)).mono ?_
        rintro e w1 ⟨rfl, hb⟩
        have HB : Hid (Below w.heap.size w w1) := ((Below.refl w.heap.size w).alloc (Nat.le_refl _) _).trans (hb.mono (by simp))
        clear hb
        simp only [encO, ahO, PT.enc]
        go_wp2_with fail
        refine (CD'.out _).mono ?_
        rintro e' w2 ⟨rfl, hb⟩
        have HB2 : Hid (Below w.heap.size w w2) := HB.out.trans (hb.mono HB.out.size)
        clear hb
        go_wp2
        go_ret
        exact ⟨by rw [E.out]; simp only [encT, PT.enc]; rfl, HB2.out⟩
    | bin o1 p1 u1 =>
      have CD := c_dep (PT.bin o1 p1 u1) (by omega)
      unfold DepC at CD
      obtain ⟨d, hd⟩ : ∃ d : Int, d = ((PT.bin o1 p1 u1).dep : Nat) := ⟨_, rfl⟩
      have CD' : Hid (∀ W, Calls Tryd.prog 112 #[.agg #[.int .i64 o1, p1.enc, u1.enc]] W fun e w' => e = .returned (.int .i64 d) ∧ Below W.heap.size W w') := by rw [hd]; exact CD
      by_cases h2 : 12 < (PT.bin o1 p1 u1).dep
      · have E : Hid (topX L n = none) := by unfold Hid topX; rw [if_neg h1]; simp only [e]; rw [if_pos h2]
        have d2 : (12 : Int) < d := by omega
        rw [e] at CP
        clear CD hd h2 hdp
        go_enter Tryd.func33, Tryd.ntmps33
        go_wp2_with fail
        refine (CP.out _ ((Below.refl _ _).alloc (Nat.le_refl _) _)).mono ?_
        rintro e w1 ⟨rfl, hb⟩
        have HB : Hid (Below w.heap.size w w1) := ((Below.refl w.heap.size w).alloc (Nat.le_refl _) _).trans (hb.mono (by simp))
        clear hb
        simp only [encO, ahO, PT.enc]
        go_wp2_with fail
        refine (CD'.out _).mono ?_
        rintro e' w2 ⟨rfl, hb⟩
        have HB2 : Hid (Below w.heap.size w w2) := HB.out.trans (hb.mono HB.out.size)
        clear hb
        go_wp2
        go_ret
        exact ⟨by rw [E.out]; rfl, HB2.out⟩
      · have E : Hid (topX L n = some (PT.bin o1 p1 u1)) := by unfold Hid topX; rw [if_neg h1]; simp only [e]; rw [if_neg h2]
        have d2 : ¬ (12 : Int) < d := by omega
        rw [e] at CP
        clear CD hd h2 hdp
        go_enter Tryd.func33, Tryd.ntmps33
        go_wp2_with fail
        refine (CP.out _ ((Below.refl _ _).alloc (Nat.le_refl _) _)).mono ?_
        rintro e w1 ⟨rfl, hb⟩
        have HB : Hid (Below w.heap.size w w1) := ((Below.refl w.heap.size w).alloc (Nat.le_refl _) _).trans (hb.mono (by simp))
        clear hb
        simp only [encO, ahO, PT.enc]
        go_wp2_with fail
        refine (CD'.out _).mono ?_
        rintro e' w2 ⟨rfl, hb⟩
        have HB2 : Hid (Below w.heap.size w w2) := HB.out.trans (hb.mono HB.out.size)
        clear hb
        go_wp2
        go_ret
        exact ⟨by rw [E.out]; simp only [encT, PT.enc]; rfl, HB2.out⟩
set_option maxRecDepth 100000 in
set_option maxHeartbeats 4000000 in
theorem c_specX (L : List EN) (a : Option Addr) (n c : Nat) (w : World) (hr : RdE w a n L) (hn : n ≤ 1048576) (hs : ∀ v ∈ L, v.t.size ≤ maxLen) : Calls Tryd.prog 36 #[.agg #[.slice a n c]] w fun e w' => e = .returned (.bool (okX L n)) ∧ Below w.heap.size w w' := by
  have CW : Hid (∀ W, Below w.heap.size w W → Calls Tryd.prog 65 #[.agg #[.slice a n c], .int .i64 ((n : Int) - 1)] W fun e w' => e = .returned (.tuple #[.int .i64 ((wF L n n).1 : Int), .int .i64 ((wF L n n).2.1 : Int), .bool (wF L n n).2.2]) ∧ Below W.heap.size W w') := fun W hW => c_walk L a n c hn hs n n W (Nat.le_refl _) (Nat.le_refl _) hn (hr.below hW)
  cases h1 : inB (n : Int) 1 40
  · have E : Hid (okX L n = false) := by unfold Hid okX; rw [h1]; rfl
    go_enter Tryd.func36, Tryd.ntmps36
    go_wp2_with (go_at_call 40; refine (c_in _ _ _ _).mono ?_; rintro e w' ⟨rfl, rfl⟩)
    go_ret
    exact ⟨ret_bool E.out.symm, (Below.refl _ _).alloc (Nat.le_refl _) _⟩
  generalize hq : wF L n n = q at CW
  obtain ⟨f, d, ok⟩ := q
  have E : Hid (okX L n = (ok && (f == 0 && decide (d ≤ 12)))) := by unfold Hid okX; rw [h1, hq]; rfl
  clear hq
  cases ok
  · go_enter Tryd.func36, Tryd.ntmps36
    go_wp2_with (go_at_call 40; refine (c_in _ _ _ _).mono ?_; rintro e w' ⟨rfl, rfl⟩)
    refine (CW.out _ ((Below.refl _ _).alloc (Nat.le_refl _) _)).mono ?_
    rintro e w1 ⟨rfl, hb⟩
    have HB : Hid (Below w.heap.size w w1) := ((Below.refl w.heap.size w).alloc (Nat.le_refl _) _).trans (hb.mono (by simp))
    clear hb
    go_wp2
    go_ret
    exact ⟨ret_bool E.out.symm, HB.out⟩
  · by_cases hf : f = 0
    · have hf' : ((f : Int) == 0) = true := by simp [hf]
      by_cases hd : d ≤ 12
      all_goals
        have hd' : decide ((d : Int) ≤ 12) = decide (d ≤ 12) := by by_cases hx : d ≤ 12 <;> simp [hx] <;> omega
        have E2 : Hid (okX L n = decide (d ≤ 12)) := by unfold Hid; rw [E.out, hf]; rfl
        clear E
        go_enter Tryd.func36, Tryd.ntmps36
        go_wp2_with (go_at_call 40; refine (c_in _ _ _ _).mono ?_; rintro e w' ⟨rfl, rfl⟩)
        refine (CW.out _ ((Below.refl _ _).alloc (Nat.le_refl _) _)).mono ?_
        rintro e w1 ⟨rfl, hb⟩
        have HB : Hid (Below w.heap.size w w1) := ((Below.refl w.heap.size w).alloc (Nat.le_refl _) _).trans (hb.mono (by simp))
        clear hb
        go_wp2
        go_ret
        exact ⟨ret_bool (by rw [E2.out]; simp [hd]), HB.out⟩
    · have hf' : ((f : Int) == 0) = false := by simp; omega
      have E2 : Hid (okX L n = false) := by unfold Hid; rw [E.out]; simp [hf]
      clear E
      go_enter Tryd.func36, Tryd.ntmps36
      go_wp2_with (go_at_call 40; refine (c_in _ _ _ _).mono ?_; rintro e w' ⟨rfl, rfl⟩)
      refine (CW.out _ ((Below.refl _ _).alloc (Nat.le_refl _) _)).mono ?_
      rintro e w1 ⟨rfl, hb⟩
      have HB : Hid (Below w.heap.size w w1) := ((Below.refl w.heap.size w).alloc (Nat.le_refl _) _).trans (hb.mono (by simp))
      clear hb
      go_wp2
      go_ret
      exact ⟨ret_bool E2.out.symm, HB.out⟩

end Go.Proofs.YtcgcaomaofppiaaDoor
namespace Go.Proofs.YtcgcaomaofppiaaDoor.KX
open Go Go.RowKit
attribute [local go_sem ↓] Go.wp_at_zero Go.wp_at_succ

set_option linter.unusedVariables false
set_option linter.unusedSimpArgs false
theorem step_app_any {P : Program} (w : World) {ops : Array Oper} {o : Oper} {a : Act} {K : Act → World → Prop} {Q : Exit → Act → World → Prop} {E : Prop} (hgd : o.guard = none) (s x : Operand) (t : TypeId)
    (ho : o.op = .call { callee := .builtin .append, args := #[s, x], argTypes := #[t, t] })
    (base : Nat) (e : TypeId) (i : TypeInfo) (z : Value) (size bytes : Nat) (ht : P.underlying t = some (.slice e)) (hi : P.info? e = some i) (hz : i.zero = some z)
    (hsize : i.size = size) (hby : i.bytes = bytes) (hzs : z.cells.size = size) (hsz : 0 < size)
    (v : Value) (n : Nat) (xs : List Value) (hs : a.eval s = v) (hown : w.ownsRow base e size v n xs)
    (ax : Option Addr) (m c : Nat) (news : List Value) (hx : a.eval x = .slice ax m c) (hnone : ax = none → m = 0 ∧ c = 0) (hl : news.length = m * size) (hnews : ∀ ad, ax = some ad → ∀ j u, news[j]? = some u → w.cell? (ad.add j) = some u) (h1 : ∀ u ∈ news, u.oneCell' = true)
    (h63 : n + m ≤ maxLen) (hbytes : (n + m) * bytes ≤ 140737488355328) (hbase : base ≤ w.heap.size)
    (h : ∀ a' c' w', w'.ownsRow base e size (.slice a' (n + m) c') (n + m) (xs ++ news) → w.grownBy w' v.ownBlock → (∀ g, ob a' = some g → v.ownBlock = some g ∨ g = w.heap.size) → K (a.put o.dst (.slice a' (n + m) c')) w') :
    if Region.wanted o (yielded ops a.tmps) = true then Oper.wp P o a w K Q else E := by
  have hw : Region.wanted o (yielded ops a.tmps) = true := by simp [Region.wanted, hgd]
  rw [if_pos hw]
  cases ax with
  | none =>
    obtain ⟨rfl, rfl⟩ := hnone rfl
    have hn : news = [] := List.eq_nil_of_length_eq_zero (by simpa using hl)
    subst hn
    obtain ⟨a', c', rfl, _⟩ := own_slc hown
    have hrun := run_append_owned_none (P := P) (w := w) base t o.type e i size ht hi _ n xs hown
    unfold Oper.wp execOp
    simp only [ho, resolve, invoke, builtin, Sem.run_bind, Sem.run_pure, Result.andThen_ok, List.map_toArray, List.map_cons, List.map_nil, hs, hx, hrun]
    exact h a' c' w (by simpa using hown) (World.grownBy.refl _ _) (fun g e => .inl (by rw [ob_slice]; exact e))
  | some ad =>
    obtain ⟨v', w', hr, hown', hgr, _, hblk⟩ := run_append_own_at (P := P) w base t o.type e i z size bytes ht hi hz hsize hby hzs hsz v n xs hown ad m c news hl (hnews ad rfl) h1 h63 hbytes hbase
    obtain ⟨a', c', rfl, _⟩ := own_slc hown'
    rw [ob_slice] at hblk
    unfold Oper.wp execOp
    simp only [ho, resolve, invoke, builtin, Sem.run_bind, Sem.run_pure, Result.andThen_ok, List.map_toArray, List.map_cons, List.map_nil, hs, hx, hr]
    exact h a' c' w' hown' hgr (fun g e => hblk.elim (fun k => .inl (k ▸ e)) (fun k => .inr (Option.some.inj (e.symm.trans k))))

def E0 : ByteArray := ⟨#[]⟩
theorem cellsI_append (xs ys : List IN) : cellsI (xs ++ ys) = cellsI xs ++ cellsI ys := by unfold cellsI; rw [List.flatMap_append]
theorem cellsI_one (x : IN) : cellsI [x] = cI x := by simp [cellsI]
theorem oneI (x : IN) : ∀ y ∈ cI x, y.oneCell' = true := by
  intro y hy
  simp only [cI, List.mem_cons, List.not_mem_nil, or_false] at hy
  rcases hy with rfl | rfl | rfl | rfl | rfl <;> rfl
theorem infoIns : (Tryd.prog.info? 59).map (fun i => (i.zero, i.size, i.bytes)) = some (some (.agg #[.int .i64 0, .int .i64 0, .int .i64 0, .int .i64 0, .string ⟨#[]⟩]), 5, 48) := by kernel_rfl
/-- A list of the call's own that is grown by more. -/
structure App (w w' : World) (B : Nat) (a a' : Option Addr) (cap' : Nat) (M : List IN) : Prop where
  own : w'.ownsRow B 59 5 (.slice a' M.length cap') M.length (cellsI M)
  gr : w.grownBy w' (ob a)
  new : ∀ g, ob a' = some g → ob a = some g ∨ w.heap.size ≤ g
theorem App.blk {w : World} {B n cap : Nat} {a : Option Addr} {M : List IN} (h : w.ownsRow B 59 5 (.slice a n cap) n (cellsI M)) : ∀ g, ob a = some g → B ≤ g ∧ g < w.heap.size := fun g hg => by
  rcases own_form h with ⟨e, _⟩ | ⟨g', c', hv, hb, hl⟩
  · simp only [Value.slice.injEq] at e; rw [e.1] at hg; cases hg
  · simp only [Value.slice.injEq] at hv; rw [hv.1] at hg; cases hg; exact ⟨hb, hl⟩
theorem grown_pre {w v w' : World} {r : Option Nat} (h : Below w.heap.size w v) (g : v.grownBy w' r) : w.grownBy w' r := (grown_of_below h r).trans g
theorem App.trans {w v w' : World} {B : Nat} {a a1 a2 : Option Addr} {c1 c2 : Nat} {M1 M2 : List IN} (h : App w v B a a1 c1 M1) (k : App v w' B a1 a2 c2 M2) : App w w' B a a2 c2 M2 := by
  refine ⟨k.own, ⟨k.gr.os.trans h.gr.os, k.gr.tape.trans h.gr.tape, k.gr.output.trans h.gr.output, Nat.le_trans h.gr.size k.gr.size, fun j hj hne => ?_⟩, fun g hg => ?_⟩
  · rw [k.gr.block j (Nat.lt_of_lt_of_le hj h.gr.size) (fun e => by rcases h.new j e.symm with q | q; exact hne q.symm; omega)]
    exact h.gr.block j hj hne
  · rcases k.new g hg with q | q
    · exact h.new g q
    · exact .inr (Nat.le_trans h.gr.size q)
theorem App.pre {w v w' : World} {B : Nat} {a a1 : Option Addr} {c1 : Nat} {M1 : List IN} (h : Below w.heap.size w v) (k : App v w' B a a1 c1 M1) : App w w' B a a1 c1 M1 :=
  ⟨k.own, grown_pre h k.gr, fun g hg => by rcases k.new g hg with q | q; exact .inl q; exact .inr (Nat.le_trans h.size q)⟩
theorem App.box {w w' : World} {B : Nat} {a a' : Option Addr} {cap' : Nat} {M : List IN} (h : App w w' B a a' cap' M) {g : Nat} {t : TypeId} {x : Array Value} (hx : Box w g t x) (hg : ob a ≠ some g) : Box w' g t x := hx.grown h.gr hg
theorem set_mid {α : Type} (A C : List α) (x y : α) : (A ++ x :: C).set A.length y = A ++ y :: C := by
  rw [List.set_append, if_neg (by omega), Nat.sub_self]; rfl
theorem cells_setp : ∀ (vs : List IN) (i : Nat) (q : Int), i < vs.length → (cellsI vs).set (i * 5 + 1) (.int .i64 q) = cellsI (vs.set i { (vs.getD i zeroI) with p := q })
  | u :: vs, 0, q, _ => rfl
  | u :: vs, i + 1, q, h => by
    have ih := cells_setp vs i q (by simpa using h)
    rw [show cellsI (u :: vs) = .int .i64 u.o :: .int .i64 u.p :: .int .i64 u.k :: .int .i64 u.n :: .string u.t :: cellsI vs from rfl, show (i + 1) * 5 + 1 = (i * 5 + 1) + 1 + 1 + 1 + 1 + 1 by omega]
    rw [List.set_cons_succ, List.set_cons_succ, List.set_cons_succ, List.set_cons_succ, List.set_cons_succ, ih]
    rfl

end Go.Proofs.YtcgcaomaofppiaaDoor.KX
namespace Go.Proofs.YtcgcaomaofppiaaDoor.KX
open Go Go.RowKit
attribute [local go_sem ↓] Go.wp_at_zero Go.wp_at_succ

set_option linter.unusedVariables false
set_option linter.unusedSimpArgs false
theorem news_at (X : World) (x : IN) (g : Nat) (hg : X.heap.size = g) : ∀ ad, some (⟨g, 0, none⟩ : Addr) = some ad → ∀ j y, (cI x)[j]? = some y → (X.alloc (.cells #[.int .i64 x.o, .int .i64 x.p, .int .i64 x.k, .int .i64 x.n, .string x.t] 59)).cell? (ad.add j) = some y := by
  intro ad ea j y hj
  cases ea
  have hx := (Box.new X #[.int .i64 x.o, .int .i64 x.p, .int .i64 x.k, .int .i64 x.n, .string x.t] 59).cell j
  rw [hg] at hx
  rw [addr_add, Nat.zero_add, hx]
  simpa [cI] using hj
def APost (w w' : World) (B : Nat) (a : Option Addr) (M : List IN) (e : Ending) : Prop := ∃ a' cap', e = .returned (.slice a' M.length cap') ∧ App w w' B a a' cap' M
theorem ta_con_bin (k n : Int) (t : ByteArray) (wx : World) : (Instr.typeAssert (.iface 115 (.agg #[.int .i64 k, .int .i64 n, .string t])) 72 105 true).run Tryd.prog wx = .ok (.tuple #[(.agg #[.int .i64 0, .nilIface, .nilIface]), .bool false]) wx := by kernel_rfl
theorem ta_con_una (k n : Int) (t : ByteArray) (wx : World) : (Instr.typeAssert (.iface 115 (.agg #[.int .i64 k, .int .i64 n, .string t])) 72 109 true).run Tryd.prog wx = .ok (.tuple #[(.agg #[.int .i64 0, .nilIface]), .bool false]) wx := by kernel_rfl
theorem ta_con_col (k n : Int) (t : ByteArray) (wx : World) : (Instr.typeAssert (.iface 115 (.agg #[.int .i64 k, .int .i64 n, .string t])) 72 112 true).run Tryd.prog wx = .ok (.tuple #[(.agg #[.int .i64 0]), .bool false]) wx := by kernel_rfl
theorem ta_col_bin (c : Int) (wx : World) : (Instr.typeAssert (.iface 112 (.agg #[.int .i64 c])) 72 105 true).run Tryd.prog wx = .ok (.tuple #[(.agg #[.int .i64 0, .nilIface, .nilIface]), .bool false]) wx := by kernel_rfl
theorem ta_col_una (c : Int) (wx : World) : (Instr.typeAssert (.iface 112 (.agg #[.int .i64 c])) 72 109 true).run Tryd.prog wx = .ok (.tuple #[(.agg #[.int .i64 0, .nilIface]), .bool false]) wx := by kernel_rfl
theorem ta_col_col (c : Int) (wx : World) : (Instr.typeAssert (.iface 112 (.agg #[.int .i64 c])) 72 112 true).run Tryd.prog wx = .ok (.tuple #[(.agg #[.int .i64 c]), .bool true]) wx := by kernel_rfl
theorem ta_una_bin (op : Int) (p : Value) (wx : World) : (Instr.typeAssert (.iface 109 (.agg #[.int .i64 op, p])) 72 105 true).run Tryd.prog wx = .ok (.tuple #[(.agg #[.int .i64 0, .nilIface, .nilIface]), .bool false]) wx := by kernel_rfl
theorem ta_una_una (op : Int) (p : Value) (wx : World) : (Instr.typeAssert (.iface 109 (.agg #[.int .i64 op, p])) 72 109 true).run Tryd.prog wx = .ok (.tuple #[(.agg #[.int .i64 op, p]), .bool true]) wx := by kernel_rfl
theorem ta_bin_bin (op : Int) (l r : Value) (wx : World) : (Instr.typeAssert (.iface 105 (.agg #[.int .i64 op, l, r])) 72 105 true).run Tryd.prog wx = .ok (.tuple #[(.agg #[.int .i64 op, l, r]), .bool true]) wx := by kernel_rfl
theorem ta_con (k n : Int) (t : ByteArray) (wx : World) : (Instr.typeAssert (.iface 115 (.agg #[.int .i64 k, .int .i64 n, .string t])) 72 115 false).run Tryd.prog wx = .ok (.agg #[.int .i64 k, .int .i64 n, .string t]) wx := by kernel_rfl
theorem fl_con (k n : Int) (t : ByteArray) (wx : World) : (Instr.field 115 (.agg #[.int .i64 k, .int .i64 n, .string t]) 0).run Tryd.prog wx = .ok (.agg #[.int .i64 k, .int .i64 n, .string t]) wx := by kernel_rfl
set_option maxRecDepth 100000 in
set_option maxHeartbeats 4000000 in
theorem c_ac_con (k n : Int) (t : ByteArray) (M : List IN) (a : Option Addr) (cap B : Nat) (w : World) (h : w.ownsRow B 59 5 (.slice a M.length cap) M.length (cellsI M)) (hB : B ≤ w.heap.size) (hl : M.length ≤ 1000) :
    Calls Tryd.prog 34 #[.slice a M.length cap, .iface 115 (.agg #[.int .i64 k, .int .i64 n, .string t])] w fun e w' => APost w w' B a (M ++ [(⟨1, 0, k, n, t⟩ : IN)]) e := by
  obtain ⟨iI, giV, gz0, gz1, gz2⟩ := info_parts infoIns
  have hiI : Hid (Tryd.prog.info? 59 = some iI) := giV
  have hz0 : Hid (iI.zero = some (.agg #[.int .i64 0, .int .i64 0, .int .i64 0, .int .i64 0, .string ⟨#[]⟩])) := gz0
  have hz1 : Hid (iI.size = 5) := gz1
  have hz2 : Hid (iI.bytes = 48) := gz2
  clear giV gz0 gz1 gz2
  have HO : Hid (w.ownsRow B 59 5 (.slice a M.length cap) M.length (cellsI M)) := h
  clear h
  have ta0 := ta_con_bin k n t
  have ta1 := ta_con_una k n t
  have ta2 := ta_con_col k n t
  have ta3 := ta_con k n t
  have ta4 := fl_con k n t
  go_enter Tryd.func34, Tryd.ntmps34
  go_wp2_with (at_builtin; refine app_any _ rfl (.tmp 47) (.tmp 52) 32 rfl B 59 iI (.agg #[.int .i64 0, .int .i64 0, .int .i64 0, .int .i64 0, .string ⟨#[]⟩]) 5 48 Tryd.underlying32 hiI.out hz0.out hz1.out hz2.out rfl (by omega) (.slice a M.length cap) M.length (cellsI M) rfl (own_below HO.out (by repeat' (first | exact Below.refl _ _ | refine Below.alloc ?_ ?_ _ | (simp; done) | (simp; omega)))) _ 1 1 (cI (⟨1, 0, k, n, t⟩ : IN)) rfl (fun ex => by cases ex) rfl (news_at _ (⟨1, 0, k, n, t⟩ : IN) _ (by simp)) (oneI _) (by unfold maxLen; omega) (by omega) (by simp; omega) ?_; intro a2 c2 w5 ho5 hg5 hx5)
  have HO5 : Hid (w5.ownsRow B 59 5 (.slice a2 (M.length + 1) c2) (M.length + 1) (cellsI M ++ cI (⟨1, 0, k, n, t⟩ : IN))) := ho5
  rw [ob_slice] at hg5 hx5
  have HG5 : Hid (w.grownBy w5 (ob a)) := grown_pre (by repeat' (first | exact Below.refl _ _ | refine Below.alloc ?_ ?_ _ | (simp; done) | (simp; omega))) hg5
  have HX5 : Hid (∀ g, ob a2 = some g → ob a = some g ∨ w.heap.size ≤ g) := fun g hg => (hx5 g hg).imp id (fun q => by rw [q]; simp; omega)
  clear ho5 hg5 hx5
  go_ret
  have hlen : (M ++ [(⟨1, 0, k, n, t⟩ : IN)]).length = M.length + 1 := by simp
  exact ⟨a2, c2, by rw [hlen]; rfl, ⟨by rw [hlen, cellsI_append, cellsI_one]; exact HO5.out, HG5.out, HX5.out⟩⟩
set_option maxRecDepth 100000 in
set_option maxHeartbeats 4000000 in
theorem c_ac_col (c : Int) (M : List IN) (a : Option Addr) (cap B : Nat) (w : World) (h : w.ownsRow B 59 5 (.slice a M.length cap) M.length (cellsI M)) (hB : B ≤ w.heap.size) (hl : M.length ≤ 1000) :
    Calls Tryd.prog 34 #[.slice a M.length cap, .iface 112 (.agg #[.int .i64 c])] w fun e w' => APost w w' B a (M ++ [(⟨2, c, 0, 0, ⟨#[]⟩⟩ : IN)]) e := by
  obtain ⟨iI, giV, gz0, gz1, gz2⟩ := info_parts infoIns
  have hiI : Hid (Tryd.prog.info? 59 = some iI) := giV
  have hz0 : Hid (iI.zero = some (.agg #[.int .i64 0, .int .i64 0, .int .i64 0, .int .i64 0, .string ⟨#[]⟩])) := gz0
  have hz1 : Hid (iI.size = 5) := gz1
  have hz2 : Hid (iI.bytes = 48) := gz2
  clear giV gz0 gz1 gz2
  have HO : Hid (w.ownsRow B 59 5 (.slice a M.length cap) M.length (cellsI M)) := h
  clear h
  have ta0 := ta_col_bin c
  have ta1 := ta_col_una c
  have ta2 := ta_col_col c
  go_enter Tryd.func34, Tryd.ntmps34
  go_wp2_with (at_builtin; refine app_any _ rfl (.tmp 41) (.tmp 45) 32 rfl B 59 iI (.agg #[.int .i64 0, .int .i64 0, .int .i64 0, .int .i64 0, .string ⟨#[]⟩]) 5 48 Tryd.underlying32 hiI.out hz0.out hz1.out hz2.out rfl (by omega) (.slice a M.length cap) M.length (cellsI M) rfl (own_below HO.out (by repeat' (first | exact Below.refl _ _ | refine Below.alloc ?_ ?_ _ | (simp; done) | (simp; omega)))) _ 1 1 (cI (⟨2, c, 0, 0, ⟨#[]⟩⟩ : IN)) rfl (fun ex => by cases ex) rfl (news_at _ (⟨2, c, 0, 0, ⟨#[]⟩⟩ : IN) _ (by simp)) (oneI _) (by unfold maxLen; omega) (by omega) (by simp; omega) ?_; intro a2 c2 w5 ho5 hg5 hx5)
  have HO5 : Hid (w5.ownsRow B 59 5 (.slice a2 (M.length + 1) c2) (M.length + 1) (cellsI M ++ cI (⟨2, c, 0, 0, ⟨#[]⟩⟩ : IN))) := ho5
  rw [ob_slice] at hg5 hx5
  have HG5 : Hid (w.grownBy w5 (ob a)) := grown_pre (by repeat' (first | exact Below.refl _ _ | refine Below.alloc ?_ ?_ _ | (simp; done) | (simp; omega))) hg5
  have HX5 : Hid (∀ g, ob a2 = some g → ob a = some g ∨ w.heap.size ≤ g) := fun g hg => (hx5 g hg).imp id (fun q => by rw [q]; simp; omega)
  clear ho5 hg5 hx5
  go_ret
  have hlen : (M ++ [(⟨2, c, 0, 0, ⟨#[]⟩⟩ : IN)]).length = M.length + 1 := by simp
  exact ⟨a2, c2, by rw [hlen]; rfl, ⟨by rw [hlen, cellsI_append, cellsI_one]; exact HO5.out, HG5.out, HX5.out⟩⟩
theorem snocLen (M : List IN) (x : IN) : (M ++ [x]).length = M.length + 1 := by simp
theorem news_box {w : World} {g : Nat} (x : IN) (h : Box w g 59 #[.int .i64 x.o, .int .i64 x.p, .int .i64 x.k, .int .i64 x.n, .string x.t]) : ∀ ad, some (⟨g, 0, none⟩ : Addr) = some ad → ∀ j y, (cI x)[j]? = some y → w.cell? (ad.add j) = some y := by
  intro ad ea j y hj
  cases ea
  have hx := h.cell j
  rw [addr_add, Nat.zero_add, hx]
  simpa [cI] using hj
theorem app_fin {w1 v w5 : World} {B : Nat} {a1 a2 : Option Addr} {c2 : Nat} {M : List IN} {x : IN} (hb : Below w1.heap.size w1 v) (ho : w5.ownsRow B 59 5 (.slice a2 (M.length + 1) c2) (M.length + 1) (cellsI M ++ cI x)) (hg : v.grownBy w5 (ob a1)) (hx : ∀ g, ob a2 = some g → ob a1 = some g ∨ g = v.heap.size) : App w1 w5 B a1 a2 c2 (M ++ [x]) := by
  have hlen : (M ++ [x]).length = M.length + 1 := by simp
  refine ⟨by rw [hlen, cellsI_append, cellsI_one]; exact ho, grown_pre hb hg, fun g e => ?_⟩
  rcases hx g e with q | q
  · exact .inl q
  · exact .inr (by rw [q]; exact hb.size)
theorem box1c {w : World} {g : Nat} {t : TypeId} {v0 : Value} (h : Box w g t #[v0]) : w.cell? ⟨g, 0, none⟩ = some v0 := h.cell 0
theorem box2 {w : World} {g : Nat} {t : TypeId} {v0 v1 : Value} (h : Box w g t #[v0, v1]) : w.cell? ⟨g, 0, none⟩ = some v0 ∧ w.cell? ⟨g, 1, none⟩ = some v1 := ⟨h.cell 0, h.cell 1⟩
theorem box3p {w : World} {g : Nat} {t : TypeId} {v0 v1 v2 : Value} (h : Box w g t #[v0, v1, v2]) : w.cell? ⟨g, 0, none⟩ = some v0 ∧ w.cell? ⟨g, 1, none⟩ = some v1 ∧ w.cell? ⟨g, 2, none⟩ = some v2 := ⟨h.cell 0, h.cell 1, h.cell 2⟩
set_option maxRecDepth 100000 in
set_option maxHeartbeats 4000000 in
theorem c_ac_una (op : Int) (p : PT) (IH : Hid (∀ (M : List IN) (a : Option Addr) (cap B : Nat) (w : World), w.ownsRow B 59 5 (.slice a M.length cap) M.length (cellsI M) → B ≤ w.heap.size → M.length + 2 * p.cnt ≤ 1000 → Calls Tryd.prog 34 #[.slice a M.length cap, p.enc] w fun e w' => APost w w' B a (M ++ codeP p M.length) e)) (M : List IN) (a : Option Addr) (cap B : Nat) (w : World) (h : w.ownsRow B 59 5 (.slice a M.length cap) M.length (cellsI M)) (hB : B ≤ w.heap.size) (hl : M.length + 2 * p.cnt + 2 ≤ 1000) :
    Calls Tryd.prog 34 #[.slice a M.length cap, .iface 109 (.agg #[.int .i64 op, p.enc])] w fun e w' => APost w w' B a (M ++ codeP p M.length ++ [(⟨3, op, 0, 0, ⟨#[]⟩⟩ : IN)]) e := by
  obtain ⟨iI, giV, gz0, gz1, gz2⟩ := info_parts infoIns
  have hiI : Hid (Tryd.prog.info? 59 = some iI) := giV
  have hz0 : Hid (iI.zero = some (.agg #[.int .i64 0, .int .i64 0, .int .i64 0, .int .i64 0, .string ⟨#[]⟩])) := gz0
  have hz1 : Hid (iI.size = 5) := gz1
  have hz2 : Hid (iI.bytes = 48) := gz2
  clear giV gz0 gz1 gz2
  obtain ⟨T, pv, hpv⟩ := enc_if p
  rw [hpv] at IH ⊢
  clear hpv
  obtain ⟨V, hV⟩ : ∃ V, (w.alloc (.cells #[.int .i64 0, .nilIface, .nilIface] 105)).alloc (.cells #[.int .i64 op, .iface T pv] 109) = V := ⟨_, rfl⟩
  have bV : Below w.heap.size w V := by rw [← hV]; exact ((Below.refl _ _).alloc (Nat.le_refl _) _).alloc (by simp) _
  have UV : Hid (Box V (w.heap.size + 1) 109 #[.int .i64 op, .iface T pv]) := by unfold Hid; rw [← hV]; exact Box.new2 _ _ _ _
  have OW : Hid (V.ownsRow B 59 5 (.slice a M.length cap) M.length (cellsI M)) := own_below h bV
  have lBW : B ≤ V.heap.size := by have := bV.size; omega
  have HbV : Hid (Below w.heap.size w V) := bV
  have UVN : Hid (ob a ≠ some (w.heap.size + 1)) := fun e => by have := App.blk h _ e; omega
  have lV : w.heap.size + 1 < V.heap.size := UV.out.lt
  have hcl := code_len p M.length
  obtain ⟨q0, q1⟩ := box2 UV.out
  clear h bV
  have ta0 := ta_una_bin op (.iface T pv)
  have ta1 := ta_una_una op (.iface T pv)
  go_enter Tryd.func34, Tryd.ntmps34
  have CA := IH.out M a cap B V.drew (own_below OW.out (Below.refl _ _).drew) (show B ≤ V.drew.heap.size from lBW) (by omega)
  have bN : Below V.heap.size V (V.drew.alloc (.cells #[.int .i64 3, .int .i64 op, .int .i64 0, .int .i64 0, .string ⟨#[]⟩] 59)) := (Below.refl _ _).drew.alloc (Nat.le_refl _) _
  have CB := IH.out M a cap B (V.drew.alloc (.cells #[.int .i64 3, .int .i64 op, .int .i64 0, .int .i64 0, .string ⟨#[]⟩] 59)) (own_below OW.out bN) (by simp; omega) (by omega)
  have NB0 : Hid (Box (V.drew.alloc (.cells #[.int .i64 3, .int .i64 op, .int .i64 0, .int .i64 0, .string ⟨#[]⟩] 59)) V.heap.size 59 #[.int .i64 3, .int .i64 op, .int .i64 0, .int .i64 0, .string ⟨#[]⟩]) := Box.new V.drew #[.int .i64 3, .int .i64 op, .int .i64 0, .int .i64 0, .string ⟨#[]⟩] 59
  obtain ⟨M1, hM1⟩ : ∃ x, M ++ codeP p M.length = x := ⟨_, rfl⟩
  have hM1l : M1.length + 1 ≤ 1000 := by rw [← hM1, List.length_append]; have := code_len p M.length; omega
  rw [hM1] at CA CB
  have HM1 : Hid (M ++ codeP p M.length = M1) := hM1
  clear hM1
  have HBK : Hid (∀ g, ob a = some g → B ≤ g ∧ g < V.heap.size) := App.blk OW.out
  have NBn : Hid (ob a ≠ some V.heap.size) := fun e => by have := HBK.out _ e; omega
  have UVD : Hid (Box V.drew (w.heap.size + 1) 109 #[.int .i64 op, .iface T pv]) := UV.out
  have UVE : Hid (Box (V.drew.alloc (.cells #[.int .i64 3, .int .i64 op, .int .i64 0, .int .i64 0, .string ⟨#[]⟩] 59)) (w.heap.size + 1) 109 #[.int .i64 op, .iface T pv]) := UV.out.belowS bN
  have HbN : Hid (Below V.heap.size V (V.drew.alloc (.cells #[.int .i64 3, .int .i64 op, .int .i64 0, .int .i64 0, .string ⟨#[]⟩] 59))) := bN
  clear bN
  go_wp2_with fail
  go_region_law (first
     | (rw [if_pos (by simp [Region.wanted])]
        go_simp
        go_at_call 34
        first
        | (refine CA.mono ?_
           rintro e wq ⟨aq, cq, rfl, Aq⟩
           have UVK : Hid (Box wq (w.heap.size + 1) 109 #[.int .i64 op, .iface T pv]) := Aq.box UVD.out (by exact UVN.out)
           obtain ⟨q0_1, q1_1⟩ := box2 UVK.out
           have HAq : Hid (App V wq B a aq cq M1) := Aq.pre (Below.refl _ _).drew
           have sq : V.heap.size ≤ wq.heap.size := Aq.gr.size
           have Oq : Hid (wq.ownsRow B 59 5 (.slice aq M1.length cq) M1.length (cellsI M1)) := Aq.own
           clear Aq)
        | (refine CB.mono ?_
           rintro e wq ⟨aq, cq, rfl, Aq⟩
           have UVK : Hid (Box wq (w.heap.size + 1) 109 #[.int .i64 op, .iface T pv]) := Aq.box UVE.out (by exact UVN.out)
           obtain ⟨q0_1, q1_1⟩ := box2 UVK.out
           have NB1 : Hid (Box wq V.heap.size 59 #[.int .i64 3, .int .i64 op, .int .i64 0, .int .i64 0, .string ⟨#[]⟩]) := Aq.box NB0.out (by exact NBn.out)
           have HAq : Hid (App V wq B a aq cq M1) := Aq.pre HbN.out
           have sq : V.heap.size < wq.heap.size := NB1.out.lt
           have Oq : Hid (wq.ownsRow B 59 5 (.slice aq M1.length cq) M1.length (cellsI M1)) := Aq.own
           clear Aq)
        go_simp)
     | (refine step_app_any _ (by rfl) (.tmp 29) (.tmp 33) 32 (by rfl) B 59 iI (.agg #[.int .i64 0, .int .i64 0, .int .i64 0, .int .i64 0, .string ⟨#[]⟩]) 5 48 Tryd.underlying32 hiI.out hz0.out hz1.out hz2.out rfl (by omega) (.slice aq M1.length cq) M1.length (cellsI M1) (by rfl) (by first | exact Oq.out | exact own_below Oq.out ((Below.refl _ _).alloc (Nat.le_refl _) _)) _ 1 1 (cI (⟨3, op, 0, 0, ⟨#[]⟩⟩ : IN)) (by rfl) (fun ex => by cases ex) rfl (by first | exact news_box (⟨3, op, 0, 0, ⟨#[]⟩⟩ : IN) NB1.out | exact news_at _ (⟨3, op, 0, 0, ⟨#[]⟩⟩ : IN) _ rfl) (oneI _) (by unfold maxLen; omega) (by omega) (by first | (have := sq; omega) | (simp; omega)) ?_
        intro a2 c2 w5 ho5 hg5 hx5
        rw [ob_slice] at hg5 hx5
        have A5 : Hid (App V w5 B a a2 c2 (M1 ++ [(⟨3, op, 0, 0, ⟨#[]⟩⟩ : IN)])) := HAq.out.trans (app_fin (by first | exact Below.refl _ _ | exact (Below.refl _ _).alloc (Nat.le_refl _) _) ho5 hg5 hx5)
        clear ho5 hg5 hx5))
  all_goals
    go_wp2
    go_ret
    exact ⟨a2, c2, by rw [HM1.out, snocLen]; rfl, by rw [HM1.out]; exact A5.out.pre HbV.out⟩

end Go.Proofs.YtcgcaomaofppiaaDoor.KX
namespace Go.Proofs.YtcgcaomaofppiaaDoor.KX
open Go Go.RowKit
attribute [local go_sem ↓] Go.wp_at_zero Go.wp_at_succ

set_option linter.unusedVariables false
set_option linter.unusedSimpArgs false
set_option maxRecDepth 100000 in
set_option maxHeartbeats 4000000 in
theorem c_jo (op : Int) (w : World) : Calls Tryd.prog 83 #[.int .i64 op] w fun e w' => e = .returned (.int .i64 (jmpI op)) ∧ w' = w := by
  by_cases h1 : op = 12
  · subst h1
    go_enter Tryd.func83, Tryd.ntmps83
    go_wp2
    go_ret
    exact ⟨rfl, rfl⟩
  · by_cases h2 : op = 13
    · subst h2
      go_enter Tryd.func83, Tryd.ntmps83
      go_wp2
      go_ret
      exact ⟨rfl, rfl⟩
    · have e1 : (op == 12) = false := by simp [h1]
      have e2 : (op == 13) = false := by simp [h2]
      have E : Hid (jmpI op = 0) := by unfold Hid jmpI; rw [if_neg h1, if_neg h2]
      clear h1 h2
      go_enter Tryd.func83, Tryd.ntmps83
      go_wp2
      go_ret
      exact ⟨by rw [E.out]; rfl, rfl⟩
theorem getD_mid (A C : List IN) (x : IN) : (A ++ x :: C).getD A.length zeroI = x := by
  rw [List.getD_eq_getElem?_getD, List.getElem?_append_right (Nat.le_refl _), Nat.sub_self]; rfl
theorem own_addr {w : World} {B cap : Nat} {a : Option Addr} {M : List IN} (h : w.ownsRow B 59 5 (.slice a M.length cap) M.length (cellsI M)) (h0 : 0 < M.length) (i : Nat) (hi : i < M.length) : ∃ g, a = some ⟨g, 0, none⟩ ∧ (∃ u, w.cell? ⟨g, i * 5 + 1, none⟩ = some u) ∧ w.frozen? ⟨g, i * 5 + 1, none⟩ = false := by
  rcases own_form h with ⟨_, e⟩ | ⟨g, c, hv, hb, hl⟩
  · omega
  · simp only [Value.slice.injEq] at hv
    obtain ⟨rfl, _, rfl⟩ := hv
    exact ⟨g, rfl, ⟨_, (h.cellAt (i * 5 + 1) (by omega)).trans (List.getElem?_eq_getElem (by rw [cellsI_len]; omega))⟩, h.frozenAt _⟩
theorem App.setp {w w' : World} {B g cap' : Nat} {a : Option Addr} {M : List IN} (h : App w w' B a (some ⟨g, 0, none⟩) cap' M) (i : Nat) (q : Int) (hi : i < M.length) : App w (w'.setCell ⟨g, i * 5 + 1, none⟩ (.int .i64 q)) B a (some ⟨g, 0, none⟩) cap' (M.set i { (M.getD i zeroI) with p := q }) := by
  have hs := (h.own.stored (i * 5 + 1) (.int .i64 q)).1
  rw [cells_setp M i q hi] at hs
  refine ⟨by rw [List.length_set]; exact hs, ⟨h.gr.os, h.gr.tape, h.gr.output, by simpa using h.gr.size, fun j hj hne => ?_⟩, h.new⟩
  rw [Below.heap_setCell _ _ _ j (by show j ≠ g; rintro rfl; rcases h.new j rfl with e | e; exact hne e.symm; omega)]
  exact h.gr.block j hj hne
set_option maxRecDepth 100000 in
set_option maxHeartbeats 4000000 in
theorem c_aj_no (op : Int) (l r : PT) (IHl : Hid (∀ (M : List IN) (a : Option Addr) (cap B : Nat) (w : World), w.ownsRow B 59 5 (.slice a M.length cap) M.length (cellsI M) → B ≤ w.heap.size → M.length + 2 * l.cnt ≤ 1000 → Calls Tryd.prog 34 #[.slice a M.length cap, l.enc] w fun e w' => APost w w' B a (M ++ codeP l M.length) e)) (IHr : Hid (∀ (M : List IN) (a : Option Addr) (cap B : Nat) (w : World), w.ownsRow B 59 5 (.slice a M.length cap) M.length (cellsI M) → B ≤ w.heap.size → M.length + 2 * r.cnt ≤ 1000 → Calls Tryd.prog 34 #[.slice a M.length cap, r.enc] w fun e w' => APost w w' B a (M ++ codeP r M.length) e)) (M : List IN) (a : Option Addr) (cap B : Nat) (w : World) (h : w.ownsRow B 59 5 (.slice a M.length cap) M.length (cellsI M)) (hB : B ≤ w.heap.size) (hl : M.length + 2 * l.cnt + 2 * r.cnt + 2 ≤ 1000) (J : Int) (HJ : Hid (jmpI op = J)) (HZ : Hid (J = 0)) :
    Calls Tryd.prog 61 #[.slice a M.length cap, .agg #[.int .i64 op, l.enc, r.enc]] w fun e w' => APost w w' B a (M ++ codeP (.bin op l r) M.length) e := by
  obtain ⟨iI, giV, gz0, gz1, gz2⟩ := info_parts infoIns
  have hiI : Hid (Tryd.prog.info? 59 = some iI) := giV
  have hz0 : Hid (iI.zero = some (.agg #[.int .i64 0, .int .i64 0, .int .i64 0, .int .i64 0, .string ⟨#[]⟩])) := gz0
  have hz1 : Hid (iI.size = 5) := gz1
  have hz2 : Hid (iI.bytes = 48) := gz2
  clear giV gz0 gz1 gz2
  obtain ⟨T, lv, hlv⟩ := enc_if l
  obtain ⟨T2, rv, hrv⟩ := enc_if r
  rw [hlv] at IHl ⊢
  rw [hrv] at IHr ⊢
  clear hlv hrv
  obtain ⟨V, hV⟩ : ∃ V, w.alloc (.cells #[.int .i64 op, .iface T lv, .iface T2 rv] 105) = V := ⟨_, rfl⟩
  have bV : Below w.heap.size w V := by rw [← hV]; exact (Below.refl _ _).alloc (Nat.le_refl _) _
  have BV : Hid (Box V w.heap.size 105 #[.int .i64 op, .iface T lv, .iface T2 rv]) := by unfold Hid; rw [← hV]; exact Box.new _ _ _
  have HbV : Hid (Below w.heap.size w V) := bV
  have O0 := own_below h bV
  have nB : ∀ g, ob a = some g → g ≠ w.heap.size := fun g e => by have := App.blk h g e; omega
  have C1 := IHl.out M a cap B V O0 (by have := bV.size; omega) (by omega)
  obtain ⟨M1, hM1⟩ : ∃ x, M ++ codeP l M.length = x := ⟨_, rfl⟩
  have hM1l : M1.length = M.length + (codeP l M.length).length := by rw [← hM1, List.length_append]
  have hcl := code_len l M.length
  have hM1b : M1.length + 1 ≤ M.length + 2 * l.cnt := by omega
  rw [hM1] at C1
  have HM1 : Hid (M ++ codeP l M.length = M1) := hM1
  have HM1L : Hid (M1.length = M.length + (codeP l M.length).length) := hM1l
  obtain ⟨q0, q1, q2⟩ := box3p BV.out
  have lV : w.heap.size < V.heap.size := BV.out.lt
  have HnB : Hid (∀ g, ob a = some g → g ≠ w.heap.size) := nB
  clear h bV O0 nB hM1 hM1l hcl
  go_enter Tryd.func61, Tryd.ntmps61
  go_wp2_with fail
  refine C1.mono ?_
  rintro e w1 ⟨a1, c1, rfl, A1⟩
  have B1 : Hid (Box w1 w.heap.size 105 #[.int .i64 op, .iface T lv, .iface T2 rv]) := A1.box BV.out (fun e => HnB.out _ e rfl)
  have HA1 : Hid (App w w1 B a a1 c1 M1) := A1.pre HbV.out
  have s1 : w.heap.size < w1.heap.size := B1.out.lt
  have O1 : Hid (w1.ownsRow B 59 5 (.slice a1 M1.length c1) M1.length (cellsI M1)) := A1.own
  have lB1 : B ≤ w1.heap.size := by omega
  have N1 : Hid (∀ g, ob a1 = some g → g ≠ w.heap.size) := fun g e => by
    rcases A1.new g e with q | q
    · exact HnB.out g q
    · omega
  clear A1 C1 q0 q1 q2 BV HbV HnB hV
  obtain ⟨q0, q1, q2⟩ := box3p B1.out
  have CJ : Hid (∀ W, Calls Tryd.prog 83 #[.int .i64 op] W fun e w' => e = .returned (.int .i64 J) ∧ w' = W) := fun W => by rw [← HJ.out]; exact c_jo op W
  have hJ0 : (J != 0) = false := by rw [HZ.out]; rfl
  have OW := O1
  have lBW := lB1
  have B1N : Hid (ob a1 ≠ some w.heap.size) := fun e => N1.out _ e rfl
  go_wp2_with (go_at_call 83; refine (CJ.out _).mono ?_; rintro e w1 ⟨rfl, rfl⟩)
  have CA := IHr.out M1 a1 c1 B w1.drew (own_below OW.out (Below.refl _ _).drew) (show B ≤ w1.drew.heap.size from lBW) (by omega)
  have bN : Below w1.heap.size w1 (w1.drew.alloc (.cells #[.int .i64 4, .int .i64 op, .int .i64 0, .int .i64 0, .string ⟨#[]⟩] 59)) := (Below.refl _ _).drew.alloc (Nat.le_refl _) _
  have CB := IHr.out M1 a1 c1 B (w1.drew.alloc (.cells #[.int .i64 4, .int .i64 op, .int .i64 0, .int .i64 0, .string ⟨#[]⟩] 59)) (own_below OW.out bN) (by simp; omega) (by omega)
  have NB0 : Hid (Box (w1.drew.alloc (.cells #[.int .i64 4, .int .i64 op, .int .i64 0, .int .i64 0, .string ⟨#[]⟩] 59)) w1.heap.size 59 #[.int .i64 4, .int .i64 op, .int .i64 0, .int .i64 0, .string ⟨#[]⟩]) := Box.new w1.drew #[.int .i64 4, .int .i64 op, .int .i64 0, .int .i64 0, .string ⟨#[]⟩] 59
  obtain ⟨M2, hM2⟩ : ∃ x, M1 ++ codeP r M1.length = x := ⟨_, rfl⟩
  have hM2l : M2.length + 1 ≤ 1000 := by rw [← hM2, List.length_append]; have := code_len r M1.length; omega
  rw [hM2] at CA CB
  have HM2 : Hid (M1 ++ codeP r M1.length = M2) := hM2
  clear hM2
  have HBK : Hid (∀ g, ob a1 = some g → B ≤ g ∧ g < w1.heap.size) := App.blk OW.out
  have NBn : Hid (ob a1 ≠ some w1.heap.size) := fun e => by have := HBK.out _ e; omega
  have B1D : Hid (Box w1.drew w.heap.size 105 #[.int .i64 op, .iface T lv, .iface T2 rv]) := B1.out
  have B1E : Hid (Box (w1.drew.alloc (.cells #[.int .i64 4, .int .i64 op, .int .i64 0, .int .i64 0, .string ⟨#[]⟩] 59)) w.heap.size 105 #[.int .i64 op, .iface T lv, .iface T2 rv]) := B1.out.belowS bN
  have HbN : Hid (Below w1.heap.size w1 (w1.drew.alloc (.cells #[.int .i64 4, .int .i64 op, .int .i64 0, .int .i64 0, .string ⟨#[]⟩] 59))) := bN
  clear bN
  go_region_law (first
     | (rw [if_pos (by simp [Region.wanted])]
        go_simp
        go_at_call 34
        first
        | (refine CA.mono ?_
           rintro e wq ⟨aq, cq, rfl, Aq⟩
           have B1K : Hid (Box wq w.heap.size 105 #[.int .i64 op, .iface T lv, .iface T2 rv]) := Aq.box B1D.out (by exact B1N.out)
           obtain ⟨q0_1, q1_1, q2_1⟩ := box3p B1K.out
           have HAq : Hid (App w1 wq B a1 aq cq M2) := Aq.pre (Below.refl _ _).drew
           have sq : w1.heap.size ≤ wq.heap.size := Aq.gr.size
           have Oq : Hid (wq.ownsRow B 59 5 (.slice aq M2.length cq) M2.length (cellsI M2)) := Aq.own
           clear Aq)
        | (refine CB.mono ?_
           rintro e wq ⟨aq, cq, rfl, Aq⟩
           have B1K : Hid (Box wq w.heap.size 105 #[.int .i64 op, .iface T lv, .iface T2 rv]) := Aq.box B1E.out (by exact B1N.out)
           obtain ⟨q0_1, q1_1, q2_1⟩ := box3p B1K.out
           have NB1 : Hid (Box wq w1.heap.size 59 #[.int .i64 4, .int .i64 op, .int .i64 0, .int .i64 0, .string ⟨#[]⟩]) := Aq.box NB0.out (by exact NBn.out)
           have HAq : Hid (App w1 wq B a1 aq cq M2) := Aq.pre HbN.out
           have sq : w1.heap.size < wq.heap.size := NB1.out.lt
           have Oq : Hid (wq.ownsRow B 59 5 (.slice aq M2.length cq) M2.length (cellsI M2)) := Aq.own
           clear Aq)
        go_simp)
     | (refine step_app_any _ (by rfl) (.tmp 26) (.tmp 30) 32 (by rfl) B 59 iI (.agg #[.int .i64 0, .int .i64 0, .int .i64 0, .int .i64 0, .string ⟨#[]⟩]) 5 48 Tryd.underlying32 hiI.out hz0.out hz1.out hz2.out rfl (by omega) (.slice aq M2.length cq) M2.length (cellsI M2) (by rfl) (by first | exact Oq.out | exact own_below Oq.out ((Below.refl _ _).alloc (Nat.le_refl _) _)) _ 1 1 (cI (⟨4, op, 0, 0, ⟨#[]⟩⟩ : IN)) (by rfl) (fun ex => by cases ex) rfl (by first | exact news_box (⟨4, op, 0, 0, ⟨#[]⟩⟩ : IN) NB1.out | exact news_at _ (⟨4, op, 0, 0, ⟨#[]⟩⟩ : IN) _ rfl) (oneI _) (by unfold maxLen; omega) (by omega) (by first | (have := sq; omega) | (simp; omega)) ?_
        intro a2 c2 w5 ho5 hg5 hx5
        rw [ob_slice] at hg5 hx5
        have A5 : Hid (App w1 w5 B a1 a2 c2 (M2 ++ [(⟨4, op, 0, 0, ⟨#[]⟩⟩ : IN)])) := HAq.out.trans (app_fin (by first | exact Below.refl _ _ | exact (Below.refl _ _).alloc (Nat.le_refl _) _) ho5 hg5 hx5)
        clear ho5 hg5 hx5))
  all_goals
    go_wp2
    go_ret
    have E : M ++ codeP (.bin op l r) M.length = M2 ++ [(⟨4, op, 0, 0, ⟨#[]⟩⟩ : IN)] := by
      rw [codeP, if_pos (HJ.out.trans HZ.out), ← HM2.out, ← HM1.out]
      simp [List.append_assoc, List.length_append]
    exact ⟨a2, c2, by rw [E, snocLen]; rfl, by rw [E]; exact HA1.out.trans A5.out⟩
set_option maxRecDepth 100000 in
set_option maxHeartbeats 4000000 in
theorem c_aj_yes (op : Int) (l r : PT) (IHl : Hid (∀ (M : List IN) (a : Option Addr) (cap B : Nat) (w : World), w.ownsRow B 59 5 (.slice a M.length cap) M.length (cellsI M) → B ≤ w.heap.size → M.length + 2 * l.cnt ≤ 1000 → Calls Tryd.prog 34 #[.slice a M.length cap, l.enc] w fun e w' => APost w w' B a (M ++ codeP l M.length) e)) (IHr : Hid (∀ (M : List IN) (a : Option Addr) (cap B : Nat) (w : World), w.ownsRow B 59 5 (.slice a M.length cap) M.length (cellsI M) → B ≤ w.heap.size → M.length + 2 * r.cnt ≤ 1000 → Calls Tryd.prog 34 #[.slice a M.length cap, r.enc] w fun e w' => APost w w' B a (M ++ codeP r M.length) e)) (M : List IN) (a : Option Addr) (cap B : Nat) (w : World) (h : w.ownsRow B 59 5 (.slice a M.length cap) M.length (cellsI M)) (hB : B ≤ w.heap.size) (hl : M.length + 2 * l.cnt + 2 * r.cnt + 2 ≤ 1000) (J : Int) (HJ : Hid (jmpI op = J)) (HZ : Hid (¬ J = 0)) :
    Calls Tryd.prog 61 #[.slice a M.length cap, .agg #[.int .i64 op, l.enc, r.enc]] w fun e w' => APost w w' B a (M ++ codeP (.bin op l r) M.length) e := by
  obtain ⟨iI, giV, gz0, gz1, gz2⟩ := info_parts infoIns
  have hiI : Hid (Tryd.prog.info? 59 = some iI) := giV
  have hz0 : Hid (iI.zero = some (.agg #[.int .i64 0, .int .i64 0, .int .i64 0, .int .i64 0, .string ⟨#[]⟩])) := gz0
  have hz1 : Hid (iI.size = 5) := gz1
  have hz2 : Hid (iI.bytes = 48) := gz2
  clear giV gz0 gz1 gz2
  obtain ⟨T, lv, hlv⟩ := enc_if l
  obtain ⟨T2, rv, hrv⟩ := enc_if r
  rw [hlv] at IHl ⊢
  rw [hrv] at IHr ⊢
  clear hlv hrv
  obtain ⟨V, hV⟩ : ∃ V, w.alloc (.cells #[.int .i64 op, .iface T lv, .iface T2 rv] 105) = V := ⟨_, rfl⟩
  have bV : Below w.heap.size w V := by rw [← hV]; exact (Below.refl _ _).alloc (Nat.le_refl _) _
  have BV : Hid (Box V w.heap.size 105 #[.int .i64 op, .iface T lv, .iface T2 rv]) := by unfold Hid; rw [← hV]; exact Box.new _ _ _
  have HbV : Hid (Below w.heap.size w V) := bV
  have O0 := own_below h bV
  have nB : ∀ g, ob a = some g → g ≠ w.heap.size := fun g e => by have := App.blk h g e; omega
  have C1 := IHl.out M a cap B V O0 (by have := bV.size; omega) (by omega)
  obtain ⟨M1, hM1⟩ : ∃ x, M ++ codeP l M.length = x := ⟨_, rfl⟩
  have hM1l : M1.length = M.length + (codeP l M.length).length := by rw [← hM1, List.length_append]
  have hcl := code_len l M.length
  have hM1b : M1.length + 1 ≤ M.length + 2 * l.cnt := by omega
  rw [hM1] at C1
  have HM1 : Hid (M ++ codeP l M.length = M1) := hM1
  have HM1L : Hid (M1.length = M.length + (codeP l M.length).length) := hM1l
  obtain ⟨q0, q1, q2⟩ := box3p BV.out
  have lV : w.heap.size < V.heap.size := BV.out.lt
  have HnB : Hid (∀ g, ob a = some g → g ≠ w.heap.size) := nB
  clear h bV O0 nB hM1 hM1l hcl
  go_enter Tryd.func61, Tryd.ntmps61
  go_wp2_with fail
  refine C1.mono ?_
  rintro e w1 ⟨a1, c1, rfl, A1⟩
  have B1 : Hid (Box w1 w.heap.size 105 #[.int .i64 op, .iface T lv, .iface T2 rv]) := A1.box BV.out (fun e => HnB.out _ e rfl)
  have HA1 : Hid (App w w1 B a a1 c1 M1) := A1.pre HbV.out
  have s1 : w.heap.size < w1.heap.size := B1.out.lt
  have O1 : Hid (w1.ownsRow B 59 5 (.slice a1 M1.length c1) M1.length (cellsI M1)) := A1.own
  have lB1 : B ≤ w1.heap.size := by omega
  have N1 : Hid (∀ g, ob a1 = some g → g ≠ w.heap.size) := fun g e => by
    rcases A1.new g e with q | q
    · exact HnB.out g q
    · omega
  clear A1 C1 q0 q1 q2 BV HbV HnB hV
  obtain ⟨q0, q1, q2⟩ := box3p B1.out
  have CJ : Hid (∀ W, Calls Tryd.prog 83 #[.int .i64 op] W fun e w' => e = .returned (.int .i64 J) ∧ w' = W) := fun W => by rw [← HJ.out]; exact c_jo op W
  have hJ1 : (J != 0) = true := by simp [bne]; exact HZ.out
  obtain ⟨VN, hVN⟩ : ∃ W, w1.alloc (.cells #[.int .i64 J, .int .i64 0, .int .i64 0, .int .i64 0, .string ⟨#[]⟩] 59) = W := ⟨_, rfl⟩
  have bN : Below w1.heap.size w1 VN := by rw [← hVN]; exact (Below.refl _ _).alloc (Nat.le_refl _) _
  have NB1 : Hid (Box VN w1.heap.size 59 #[.int .i64 J, .int .i64 0, .int .i64 0, .int .i64 0, .string ⟨#[]⟩]) := by unfold Hid; rw [← hVN]; exact Box.new _ _ _
  have ON := own_below O1.out bN
  have HbN : Hid (Below w1.heap.size w1 VN) := bN
  have HON : Hid (VN.ownsRow B 59 5 (.slice a1 M1.length c1) M1.length (cellsI M1)) := ON
  have lBN : B ≤ VN.heap.size := by have := bN.size; omega
  clear bN ON
  go_wp2_with (first | (go_at_call 83; refine (CJ.out _).mono ?_; rintro e w1 ⟨rfl, rfl⟩) | (at_builtin; refine app_any _ rfl (.tmp 18) (.tmp 21) 32 rfl B 59 iI (.agg #[.int .i64 0, .int .i64 0, .int .i64 0, .int .i64 0, .string ⟨#[]⟩]) 5 48 Tryd.underlying32 hiI.out hz0.out hz1.out hz2.out rfl (by omega) (.slice a1 M1.length c1) M1.length (cellsI M1) rfl HON.out _ 1 1 (cI (⟨J, 0, 0, 0, ⟨#[]⟩⟩ : IN)) rfl (fun ex => by cases ex) rfl (news_box (⟨J, 0, 0, 0, ⟨#[]⟩⟩ : IN) NB1.out) (oneI _) (by unfold maxLen; omega) (by omega) lBN ?_; intro aj cj w2 ho5 hg5 hx5; rw [ob_slice] at hg5 hx5; have A2 : Hid (App w1 w2 B a1 aj cj (M1 ++ [(⟨J, 0, 0, 0, ⟨#[]⟩⟩ : IN)])) := (app_fin HbN.out ho5 hg5 hx5); clear ho5 hg5 hx5))
  obtain ⟨MJ, hMJ⟩ : ∃ x, M1 ++ [(⟨J, 0, 0, 0, ⟨#[]⟩⟩ : IN)] = x := ⟨_, rfl⟩
  have hMJL : MJ.length = M1.length + 1 := by rw [← hMJ, snocLen]
  have HMJ : Hid (M1 ++ [(⟨J, 0, 0, 0, ⟨#[]⟩⟩ : IN)] = MJ) := hMJ
  have HMJL : Hid (MJ.length = M1.length + 1) := hMJL
  rw [hMJ] at A2
  rw [← hMJL]
  have hMJb : MJ.length ≤ M.length + 2 * l.cnt := by omega
  clear hMJ hMJL
  have B2 : Hid (Box w2 w.heap.size 105 #[.int .i64 op, .iface T lv, .iface T2 rv]) := A2.out.box B1.out (fun e => N1.out _ e rfl)
  have OW : Hid (w2.ownsRow B 59 5 (.slice aj MJ.length cj) MJ.length (cellsI MJ)) := A2.out.own
  have s2 : w.heap.size < w2.heap.size := B2.out.lt
  have lBW : B ≤ w2.heap.size := by omega
  have B2N : Hid (ob aj ≠ some w.heap.size) := fun e => by
    rcases A2.out.new _ e with q | q
    · exact N1.out _ q rfl
    · omega
  clear q0 q1 q2 NB1 HON HbN hVN
  obtain ⟨q0, q1, q2⟩ := box3p B2.out
  have CA := IHr.out MJ aj cj B w2.drew (own_below OW.out (Below.refl _ _).drew) (show B ≤ w2.drew.heap.size from lBW) (by omega)
  have bN : Below w2.heap.size w2 (w2.drew.alloc (.cells #[.int .i64 4, .int .i64 op, .int .i64 0, .int .i64 0, .string ⟨#[]⟩] 59)) := (Below.refl _ _).drew.alloc (Nat.le_refl _) _
  have CB := IHr.out MJ aj cj B (w2.drew.alloc (.cells #[.int .i64 4, .int .i64 op, .int .i64 0, .int .i64 0, .string ⟨#[]⟩] 59)) (own_below OW.out bN) (by simp; omega) (by omega)
  have NB0 : Hid (Box (w2.drew.alloc (.cells #[.int .i64 4, .int .i64 op, .int .i64 0, .int .i64 0, .string ⟨#[]⟩] 59)) w2.heap.size 59 #[.int .i64 4, .int .i64 op, .int .i64 0, .int .i64 0, .string ⟨#[]⟩]) := Box.new w2.drew #[.int .i64 4, .int .i64 op, .int .i64 0, .int .i64 0, .string ⟨#[]⟩] 59
  obtain ⟨M2, hM2⟩ : ∃ x, MJ ++ codeP r MJ.length = x := ⟨_, rfl⟩
  have hM2l : M2.length + 1 ≤ 1000 := by rw [← hM2, List.length_append]; have := code_len r MJ.length; omega
  rw [hM2] at CA CB
  have HM2 : Hid (MJ ++ codeP r MJ.length = M2) := hM2
  clear hM2
  have HBK : Hid (∀ g, ob aj = some g → B ≤ g ∧ g < w2.heap.size) := App.blk OW.out
  have NBn : Hid (ob aj ≠ some w2.heap.size) := fun e => by have := HBK.out _ e; omega
  have B2D : Hid (Box w2.drew w.heap.size 105 #[.int .i64 op, .iface T lv, .iface T2 rv]) := B2.out
  have B2E : Hid (Box (w2.drew.alloc (.cells #[.int .i64 4, .int .i64 op, .int .i64 0, .int .i64 0, .string ⟨#[]⟩] 59)) w.heap.size 105 #[.int .i64 op, .iface T lv, .iface T2 rv]) := B2.out.belowS bN
  have HbN : Hid (Below w2.heap.size w2 (w2.drew.alloc (.cells #[.int .i64 4, .int .i64 op, .int .i64 0, .int .i64 0, .string ⟨#[]⟩] 59))) := bN
  clear bN
  go_region_law (first
     | (rw [if_pos (by simp [Region.wanted])]
        go_simp
        go_at_call 34
        first
        | (refine CA.mono ?_
           rintro e wq ⟨aq, cq, rfl, Aq⟩
           have B2K : Hid (Box wq w.heap.size 105 #[.int .i64 op, .iface T lv, .iface T2 rv]) := Aq.box B2D.out (by exact B2N.out)
           obtain ⟨q0_1, q1_1, q2_1⟩ := box3p B2K.out
           have HAq : Hid (App w2 wq B aj aq cq M2) := Aq.pre (Below.refl _ _).drew
           have sq : w2.heap.size ≤ wq.heap.size := Aq.gr.size
           have Oq : Hid (wq.ownsRow B 59 5 (.slice aq M2.length cq) M2.length (cellsI M2)) := Aq.own
           clear Aq)
        | (refine CB.mono ?_
           rintro e wq ⟨aq, cq, rfl, Aq⟩
           have B2K : Hid (Box wq w.heap.size 105 #[.int .i64 op, .iface T lv, .iface T2 rv]) := Aq.box B2E.out (by exact B2N.out)
           obtain ⟨q0_1, q1_1, q2_1⟩ := box3p B2K.out
           have NB1 : Hid (Box wq w2.heap.size 59 #[.int .i64 4, .int .i64 op, .int .i64 0, .int .i64 0, .string ⟨#[]⟩]) := Aq.box NB0.out (by exact NBn.out)
           have HAq : Hid (App w2 wq B aj aq cq M2) := Aq.pre HbN.out
           have sq : w2.heap.size < wq.heap.size := NB1.out.lt
           have Oq : Hid (wq.ownsRow B 59 5 (.slice aq M2.length cq) M2.length (cellsI M2)) := Aq.own
           clear Aq)
        go_simp)
     | (refine step_app_any _ (by rfl) (.tmp 26) (.tmp 30) 32 (by rfl) B 59 iI (.agg #[.int .i64 0, .int .i64 0, .int .i64 0, .int .i64 0, .string ⟨#[]⟩]) 5 48 Tryd.underlying32 hiI.out hz0.out hz1.out hz2.out rfl (by omega) (.slice aq M2.length cq) M2.length (cellsI M2) (by rfl) (by first | exact Oq.out | exact own_below Oq.out ((Below.refl _ _).alloc (Nat.le_refl _) _)) _ 1 1 (cI (⟨4, op, 0, 0, ⟨#[]⟩⟩ : IN)) (by rfl) (fun ex => by cases ex) rfl (by first | exact news_box (⟨4, op, 0, 0, ⟨#[]⟩⟩ : IN) NB1.out | exact news_at _ (⟨4, op, 0, 0, ⟨#[]⟩⟩ : IN) _ rfl) (oneI _) (by unfold maxLen; omega) (by omega) (by first | (have := sq; omega) | (simp; omega)) ?_
        intro a2 c2 w5 ho5 hg5 hx5
        rw [ob_slice] at hg5 hx5
        have A5 : Hid (App w2 w5 B aj a2 c2 (M2 ++ [(⟨4, op, 0, 0, ⟨#[]⟩⟩ : IN)])) := HAq.out.trans (app_fin (by first | exact Below.refl _ _ | exact (Below.refl _ _).alloc (Nat.le_refl _) _) ho5 hg5 hx5)
        clear ho5 hg5 hx5))
  all_goals
    have AF : Hid (App w w5 B a a2 c2 (M2 ++ [(⟨4, op, 0, 0, ⟨#[]⟩⟩ : IN)])) := (HA1.out.trans A2.out).trans A5.out
    have hfl : (M2 ++ [(⟨4, op, 0, 0, ⟨#[]⟩⟩ : IN)]).length = M2.length + 1 := snocLen _ _
    have hM2L : MJ.length ≤ M2.length := by rw [← HM2.out, List.length_append]; omega
    have hJL := HMJL.out
    obtain ⟨g, hg, hgc, hgf⟩ := own_addr AF.out.own (by omega) M1.length (by omega)
    subst hg
    obtain ⟨u0, hu0⟩ := hgc
    have g1 : (0 : Int) ≤ (M1.length : Int) := by omega
    have g2 : (M1.length : Int) < (M2.length : Int) + 1 := by omega
    have AS := AF.out.setp M1.length ((M2.length : Int) + 1) (by omega)
    have HAS : Hid (App w (w5.setCell ⟨g, M1.length * 5 + 1, none⟩ (.int .i64 ((M2.length : Int) + 1))) B a (some ⟨g, 0, none⟩) c2 ((M2 ++ [(⟨4, op, 0, 0, ⟨#[]⟩⟩ : IN)]).set M1.length { ((M2 ++ [(⟨4, op, 0, 0, ⟨#[]⟩⟩ : IN)]).getD M1.length zeroI) with p := (M2.length : Int) + 1 })) := AS
    have E : Hid ((M2 ++ [(⟨4, op, 0, 0, ⟨#[]⟩⟩ : IN)]).set M1.length { ((M2 ++ [(⟨4, op, 0, 0, ⟨#[]⟩⟩ : IN)]).getD M1.length zeroI) with p := (M2.length : Int) + 1 } = M ++ codeP (.bin op l r) M.length) := by
      unfold Hid
      have e2 : M2 = M1 ++ (⟨J, 0, 0, 0, ⟨#[]⟩⟩ : IN) :: codeP r MJ.length := by rw [← HM2.out, ← HMJ.out, List.append_assoc]; rfl
      have e3 : M2 ++ [(⟨4, op, 0, 0, ⟨#[]⟩⟩ : IN)] = M1 ++ (⟨J, 0, 0, 0, ⟨#[]⟩⟩ : IN) :: (codeP r MJ.length ++ [(⟨4, op, 0, 0, ⟨#[]⟩⟩ : IN)]) := by rw [e2, List.append_assoc]; rfl
      rw [e3, getD_mid, set_mid, codeP, if_neg (by rw [HJ.out]; exact HZ.out), HJ.out, ← HM1L.out, ← HMJL.out, ← HM1.out]
      have e4 : (M2.length : Int) + 1 = ((MJ.length + (codeP r MJ.length).length + 1 : Nat) : Int) := by
        have := congrArg List.length HM2.out
        rw [List.length_append] at this
        omega
      rw [e4]
      simp [List.append_assoc]
    have HL2 : Hid ((M ++ codeP (.bin op l r) M.length).length = M2.length + 1) := by unfold Hid; rw [← E.out, List.length_set, hfl]
    clear AS AF hfl hM2L hJL A5
    go_wp2
    go_ret
    refine ⟨_, c2, by rw [HL2.out]; rfl, ?_⟩
    rw [← E.out]
    exact HAS.out

end Go.Proofs.YtcgcaomaofppiaaDoor.KX
namespace Go.Proofs.YtcgcaomaofppiaaDoor.KX
open Go Go.RowKit
attribute [local go_sem ↓] Go.wp_at_zero Go.wp_at_succ

set_option linter.unusedVariables false
set_option linter.unusedSimpArgs false
set_option maxRecDepth 100000 in
set_option maxHeartbeats 4000000 in
theorem c_ac_bin (op : Int) (l r : PT) (IHl : Hid (∀ (M : List IN) (a : Option Addr) (cap B : Nat) (w : World), w.ownsRow B 59 5 (.slice a M.length cap) M.length (cellsI M) → B ≤ w.heap.size → M.length + 2 * l.cnt ≤ 1000 → Calls Tryd.prog 34 #[.slice a M.length cap, l.enc] w fun e w' => APost w w' B a (M ++ codeP l M.length) e)) (IHr : Hid (∀ (M : List IN) (a : Option Addr) (cap B : Nat) (w : World), w.ownsRow B 59 5 (.slice a M.length cap) M.length (cellsI M) → B ≤ w.heap.size → M.length + 2 * r.cnt ≤ 1000 → Calls Tryd.prog 34 #[.slice a M.length cap, r.enc] w fun e w' => APost w w' B a (M ++ codeP r M.length) e)) (M : List IN) (a : Option Addr) (cap B : Nat) (w : World) (h : w.ownsRow B 59 5 (.slice a M.length cap) M.length (cellsI M)) (hB : B ≤ w.heap.size) (hl : M.length + 2 * l.cnt + 2 * r.cnt + 2 ≤ 1000) :
    Calls Tryd.prog 34 #[.slice a M.length cap, .iface 105 (.agg #[.int .i64 op, l.enc, r.enc])] w fun e w' => APost w w' B a (M ++ codeP (.bin op l r) M.length) e := by
  have CJ : Hid (∀ W, Below w.heap.size w W → Calls Tryd.prog 61 #[.slice a M.length cap, .agg #[.int .i64 op, l.enc, r.enc]] W fun e w' => APost W w' B a (M ++ codeP (.bin op l r) M.length) e) := fun W hW => by
    by_cases hz : jmpI op = 0
    · exact c_aj_no op l r IHl IHr M a cap B W (own_below h hW) (Nat.le_trans hB hW.size) hl _ rfl hz
    · exact c_aj_yes op l r IHl IHr M a cap B W (own_below h hW) (Nat.le_trans hB hW.size) hl _ rfl hz
  obtain ⟨M2, hM2⟩ : ∃ x, M ++ codeP (.bin op l r) M.length = x := ⟨_, rfl⟩
  rw [hM2] at CJ ⊢
  obtain ⟨T, lv, hlv⟩ := enc_if l
  obtain ⟨T2, rv, hrv⟩ := enc_if r
  rw [hlv, hrv] at CJ ⊢
  clear hlv hrv h IHl IHr hM2
  obtain ⟨V, hV⟩ : ∃ V, w.alloc (.cells #[.int .i64 op, .iface T lv, .iface T2 rv] 105) = V := ⟨_, rfl⟩
  have bV : Below w.heap.size w V := by rw [← hV]; exact (Below.refl _ _).alloc (Nat.le_refl _) _
  have BV : Box V w.heap.size 105 #[.int .i64 op, .iface T lv, .iface T2 rv] := by rw [← hV]; exact Box.new _ _ _
  have HbV : Hid (Below w.heap.size w V) := bV
  have C := CJ.out V bV
  obtain ⟨q0, q1, q2⟩ := box3p BV
  clear bV BV
  have ta0 := ta_bin_bin op (.iface T lv) (.iface T2 rv)
  go_enter Tryd.func34, Tryd.ntmps34
  go_wp2_with fail
  refine C.mono ?_
  rintro e w1 ⟨a1, c1, rfl, A1⟩
  have HA1 : Hid (App w w1 B a a1 c1 M2) := A1.pre HbV.out
  clear A1 C
  go_wp2
  go_ret
  exact ⟨a1, c1, rfl, HA1.out⟩
theorem c_ac : ∀ (p : PT), (∀ (M : List IN) (a : Option Addr) (cap B : Nat) (w : World), w.ownsRow B 59 5 (.slice a M.length cap) M.length (cellsI M) → B ≤ w.heap.size → M.length + 2 * p.cnt ≤ 1000 → Calls Tryd.prog 34 #[.slice a M.length cap, p.enc] w fun e w' => APost w w' B a (M ++ codeP p M.length) e)
  | .con k n t, M, a, cap, B, w, h, hB, hl => c_ac_con k n t M a cap B w h hB (by simp [PT.cnt] at hl; omega)
  | .col c, M, a, cap, B, w, h, hB, hl => c_ac_col c M a cap B w h hB (by simp [PT.cnt] at hl; omega)
  | .una op p, M, a, cap, B, w, h, hB, hl => by
    have := c_ac_una op p (c_ac p) M a cap B w h hB (by simp [PT.cnt] at hl; omega)
    rw [show M ++ codeP (.una op p) M.length = M ++ codeP p M.length ++ [(⟨3, op, 0, 0, ⟨#[]⟩⟩ : IN)] by rw [codeP, List.append_assoc]]
    exact this
  | .bin op l r, M, a, cap, B, w, h, hB, hl => c_ac_bin op l r (c_ac l) (c_ac r) M a cap B w h hB (by simp [PT.cnt] at hl; omega)
theorem pF_cnt (L : List EN) : ∀ (fu k : Nat) (p : PT) (f : Nat), pF L fu k = some (p, f) → p.cnt + f = k
  | 0, _, _, _, h => by simp [pF] at h
  | _ + 1, 0, _, _, h => by simp [pF] at h
  | fu + 1, k + 1, p, f, h => by
    unfold pF at h
    dsimp only at h
    split at h
    · split at h
      · simp only [Option.some.injEq, Prod.mk.injEq] at h; obtain ⟨rfl, rfl⟩ := h; simp [PT.cnt]; omega
      · cases h
    · split at h
      · split at h
        · simp only [Option.some.injEq, Prod.mk.injEq] at h; obtain ⟨rfl, rfl⟩ := h; simp [PT.cnt]; omega
        · cases h
      · split at h
        · split at h
          · cases e : pF L fu k with
            | none => rw [e] at h; cases h
            | some q => obtain ⟨q, g⟩ := q; rw [e] at h; simp only [Option.some.injEq, Prod.mk.injEq] at h; obtain ⟨rfl, rfl⟩ := h; have := pF_cnt L fu k q g e; simp [PT.cnt]; omega
          · cases h
        · split at h
          · cases e : pF L fu k with
            | none => rw [e] at h; cases h
            | some q =>
              obtain ⟨q, g⟩ := q
              rw [e] at h
              dsimp only at h
              split at h
              · cases e2 : pF L fu g with
                | none => rw [e2] at h; cases h
                | some q2 => obtain ⟨q2, g2⟩ := q2; rw [e2] at h; simp only [Option.some.injEq, Prod.mk.injEq] at h; obtain ⟨rfl, rfl⟩ := h; have := pF_cnt L fu k q g e; have := pF_cnt L fu g q2 g2 e2; simp [PT.cnt]; omega
              · cases h
          · cases h
theorem top_parts {L : List EN} {n : Nat} {p : PT} (h : topX L n = some p) : n ≤ 40 ∧ pF L n n = some (p, 0) ∧ p.cnt = n := by
  unfold topX at h
  split at h
  · cases h
  · rename_i hn
    split at h
    · rename_i q e
      split at h
      · cases h
      · simp only [Option.some.injEq] at h
        subst h
        exact ⟨by omega, e, by have := pF_cnt L n n q 0 e; omega⟩
    · cases h
def ceL (L : List EN) (n : Nat) : List IN := match topX L n with | none => [] | some p => codeP p 0
def ceC (L : List EN) (n : Nat) : Int := if (topX L n).isSome then 0 else 1
def CPost (w w' : World) (R : List IN) (c : Int) (e : Ending) : Prop := (∃ a' cap', e = .returned (.tuple #[.slice a' R.length cap', .int .i64 c]) ∧ w'.ownsRow w.heap.size 59 5 (.slice a' R.length cap') R.length (cellsI R)) ∧ Below w.heap.size w w'
theorem App.below {w w' : World} {B : Nat} {a a' : Option Addr} {cap' : Nat} {M : List IN} (h : App w w' B a a' cap' M) (ha : ∀ g, ob a = some g → w.heap.size ≤ g) : Below w.heap.size w w' := ⟨h.gr.os, h.gr.tape, h.gr.output, h.gr.size, fun j hj => h.gr.block j hj (fun e => by have := ha j e.symm; omega)⟩
set_option maxRecDepth 100000 in
set_option maxHeartbeats 4000000 in
theorem c_implCE (L : List EN) (ea : Option Addr) (n ec : Nat) (w : World) (hr : RdE w ea n L) (hn : n ≤ 1048576) (hs : ∀ v ∈ L, v.t.size ≤ maxLen) :
    Calls Tryd.prog 15 #[.agg #[.slice ea n ec]] w fun e w' => CPost w w' (ceL L n) (ceC L n) e := by
  obtain ⟨V, hV⟩ : ∃ V, w.alloc (.cells #[.slice ea n ec] 43) = V := ⟨_, rfl⟩
  have bV : Below w.heap.size w V := by rw [← hV]; exact (Below.refl _ _).alloc (Nat.le_refl _) _
  have BV : Box V w.heap.size 43 #[.slice ea n ec] := by rw [← hV]; exact Box.new _ _ _
  have HbV : Hid (Below w.heap.size w V) := bV
  have C1 := c_partOf L ea n ec V (hr.below bV) hn hs
  have q0 : V.cell? ⟨w.heap.size, 0, none⟩ = some (.slice ea n ec) := BV.cell 0
  clear hr hs bV BV
  cases hp : topX L n with
  | none =>
    have E : Hid (ceL L n = [] ∧ ceC L n = 1) := by unfold Hid ceL ceC; rw [hp]; exact ⟨rfl, rfl⟩
    rw [hp, show encT none = .nilIface from rfl] at C1
    clear hp
    go_enter Tryd.func15, Tryd.ntmps15
    go_wp2_with fail
    refine C1.mono ?_
    rintro e w1 ⟨rfl, hb⟩
    have B1 : Hid (Below w.heap.size w w1) := HbV.out.trans (hb.mono HbV.out.size)
    clear hb C1
    go_wp2
    go_ret2
    refine ⟨⟨none, 0, ?_, ?_⟩, B1.out⟩
    · rw [E.out.1, E.out.2]; rfl
    · rw [E.out.1]; exact World.ownsRow_nil _ _ _ _
  | some p =>
    have E : Hid (ceL L n = codeP p 0 ∧ ceC L n = 0) := by unfold Hid ceL ceC; rw [hp]; exact ⟨rfl, rfl⟩
    obtain ⟨hn40, _, hcnt⟩ := top_parts hp
    rw [hp] at C1
    have CA : Hid (∀ W, w.heap.size ≤ W.heap.size → Calls Tryd.prog 34 #[.slice none 0 0, p.enc] W fun e w' => APost W w' W.heap.size none (codeP p 0) e) := fun W hW => by
      have := c_ac p [] none 0 W.heap.size W (World.ownsRow_nil _ _ _ _) (Nat.le_refl _) (by simp; omega)
      simpa using this
    obtain ⟨T, pv, hpv⟩ := enc_if p
    rw [show encT (some p) = p.enc from rfl, hpv] at C1
    rw [hpv] at CA
    clear hp hpv hcnt hn40
    go_enter Tryd.func15, Tryd.ntmps15
    go_wp2_with fail
    refine C1.mono ?_
    rintro e w1 ⟨rfl, hb⟩
    have B1 : Hid (Below w.heap.size w w1) := HbV.out.trans (hb.mono HbV.out.size)
    clear hb C1
    have C2 := CA.out w1 B1.out.size
    go_wp2_with fail
    refine C2.mono ?_
    rintro e w2 ⟨a2, c2, rfl, A2⟩
    have B2 : Hid (Below w.heap.size w w2) := B1.out.trans ((A2.below (fun g e => by cases e)).mono B1.out.size)
    have O2 : Hid (w2.ownsRow w.heap.size 59 5 (.slice a2 (codeP p 0).length c2) (codeP p 0).length (cellsI (codeP p 0))) := A2.own.down B1.out.size
    clear A2 C2
    go_wp2
    go_ret2
    refine ⟨⟨a2, c2, ?_, ?_⟩, B2.out⟩
    · rw [E.out.1, E.out.2]; rfl
    · rw [E.out.1]; exact O2.out

end Go.Proofs.YtcgcaomaofppiaaDoor.KX
