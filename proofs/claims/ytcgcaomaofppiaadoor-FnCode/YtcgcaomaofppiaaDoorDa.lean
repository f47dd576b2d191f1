/-
  The run of code as a function of lists.
-/
import Derived.Test.YtcgcaomaofppiaaDoorCe
import Derived.Test.YtcgcaomaofppiaaDoorEa
namespace Go.Proofs.YtcgcaomaofppiaaDoor
open Go Go.RowKit

set_option linter.unusedVariables false
set_option linter.unusedSimpArgs false
structure SV where
  k : Int
  n : Int
  t : ByteArray
def zeroC : SV := ⟨0, 0, ⟨#[]⟩⟩
def cC (v : SV) : List Value := [.int .i64 v.k, .int .i64 v.n, .string v.t]
def cellsC (vs : List SV) : List Value := vs.flatMap cC
theorem cellsC_len (vs : List SV) : (cellsC vs).length = vs.length * 3 := by
  induction vs with
  | nil => rfl
  | cons v vs ih => rw [show cellsC (v :: vs) = cC v ++ cellsC vs from rfl, List.length_append, ih, List.length_cons]; simp only [cC, List.length_cons, List.length_nil]; omega
theorem cellsC_get : ∀ (vs : List SV) (i : Nat), i < vs.length → ∀ j, j < 3 → (cellsC vs)[i * 3 + j]? = (cC (vs.getD i zeroC))[j]?
  | v :: vs, 0, _, j, hj => by
    rw [show cellsC (v :: vs) = cC v ++ cellsC vs from rfl, List.getElem?_append_left (by simp [cC]; omega)]
    simp
  | v :: vs, i + 1, h, j, hj => by
    have ih := cellsC_get vs i (by simpa using h) j hj
    rw [show cellsC (v :: vs) = cC v ++ cellsC vs from rfl, List.getElem?_append_right (by simp [cC]; omega), show (i + 1) * 3 + j - (cC v).length = i * 3 + j by simp [cC]; omega, ih]
    rfl
def setC (L : List Value) (o : Nat) (v : SV) : List Value := (((L).set (o) (.int .i64 v.k)).set (o + 1) (.int .i64 v.n)).set (o + 2) (.string v.t)
theorem setC_cons (x : Value) (L : List Value) (o : Nat) (v : SV) : setC (x :: L) (o + 1) v = x :: setC L o v := rfl
theorem cellsC_set : ∀ (vs : List SV) (i : Nat) (v : SV), i < vs.length → setC (cellsC vs) (i * 3) v = cellsC (vs.set i v)
  | u :: vs, 0, v, _ => rfl
  | u :: vs, i + 1, v, h => by
    have ih := cellsC_set vs i v (by simpa using h)
    rw [show cellsC (u :: vs) = .int .i64 u.k :: .int .i64 u.n :: .string u.t :: cellsC vs from rfl, show (i + 1) * 3 = i * 3 + 1 + 1 + 1 by omega]
    rw [setC_cons, setC_cons, setC_cons, ih]
    rfl
/-- The slice at a reads as the structs vs. -/
def RdC (w : World) (a : Option Addr) (n : Nat) (vs : List SV) : Prop :=
  vs.length = n ∧ (0 < n → ∃ b off, a = some ⟨b, off, none⟩ ∧ b < w.heap.size ∧ ∀ i, i < n → ∀ j, j < 3 → w.cell? ⟨b, off + i * 3 + j, none⟩ = (cC (vs.getD i zeroC))[j]?)
theorem RdC.below {w w' : World} {a : Option Addr} {n : Nat} {vs : List SV} (h : RdC w a n vs) (hb : Below w.heap.size w w') : RdC w' a n vs := by
  obtain ⟨h1, h3⟩ := h
  refine ⟨h1, fun hn => ?_⟩
  obtain ⟨b, off, e, hlt, hc⟩ := h3 hn
  refine ⟨b, off, e, Nat.lt_of_lt_of_le hlt hb.size, fun i hi j hj => ?_⟩
  rw [hb.cell (p := ⟨b, off + i * 3 + j, none⟩) hlt]
  exact hc i hi j hj
theorem RdC.own {w : World} {base e n : Nat} {a : Option Addr} {m cap : Nat} {vs : List SV} (h : w.ownsRow base e 3 (.slice a m cap) n (cellsC vs)) : RdC w a m vs := by
  have hl : vs.length = n := by have := h.1; rw [cellsC_len] at this; omega
  rcases h.2 with ⟨hv, h0⟩ | ⟨g, cap', cur, hv, hb, hg, hnc, hcm, hcs, htake⟩
  · simp only [Value.slice.injEq] at hv
    obtain ⟨rfl, rfl, rfl⟩ := hv
    exact ⟨by omega, fun h => absurd h (by omega)⟩
  · simp only [Value.slice.injEq] at hv
    obtain ⟨rfl, rfl, rfl⟩ := hv
    refine ⟨hl, fun _ => ⟨g, 0, rfl, ?_, fun i hi j hj => ?_⟩⟩
    · rcases Nat.lt_or_ge g w.heap.size with h1 | h1
      · exact h1
      · rw [Array.getElem?_eq_none h1] at hg; cases hg
    · rw [Nat.zero_add, h.cellAt (i * 3 + j) (by omega)]
      exact cellsC_get vs i (by omega) j hj
theorem RdC.at {w : World} {b off n : Nat} {vs : List SV} {i : Nat} (hc : ∀ i, i < n → ∀ j, j < 3 → w.cell? ⟨b, off + i * 3 + j, none⟩ = (cC (vs.getD i zeroC))[j]?) (hi : i < n) {v : SV} (hv : v = vs.getD i zeroC) :
    w.cell? ⟨b, off + i * 3, none⟩ = some (.int .i64 v.k) ∧ w.cell? ⟨b, off + i * 3 + 1, none⟩ = some (.int .i64 v.n) ∧ w.cell? ⟨b, off + i * 3 + 2, none⟩ = some (.string v.t) := by
  subst hv
  exact ⟨hc i hi 0 (by omega), hc i hi 1 (by omega), hc i hi 2 (by omega)⟩
theorem okz : valB 0 0 (⟨#[]⟩ : ByteArray) = true := by rw [val0, emptyL]; rfl
theorem okt (b : Bool) : valB 1 (trI b) (⟨#[]⟩ : ByteArray) = true := by rw [val1, emptyL]; cases b <;> rfl
theorem okb (x : Int) : valB (bndB x).k (bndB x).n (⟨#[]⟩ : ByteArray) = true := by
  cases h : inB x (-1000000000) 1000000000
  · rw [bnd_no h]; exact okz
  · rw [bnd_yes h, val1, h, emptyL]; rfl
theorem okr (op a b : Int) : valB (reckB op a b).k (reckB op a b).n (⟨#[]⟩ : ByteArray) = true := by
  unfold reckB
  split
  · exact okz
  · exact okb _
theorem binR_ok (op k n : Int) (t : ByteArray) (k' n' : Int) (t' : ByteArray) : valB (binR op k n t k' n' t').k (binR op k n t k' n' t').n (⟨#[]⟩ : ByteArray) = true := by
  unfold binR
  repeat' split
  all_goals first | exact okz | exact okt _ | exact okr _ _ _
theorem okn (n : Int) (h0 : -1000000000 ≤ n) (h1 : n ≤ 1000000000) : valB 1 n (⟨#[]⟩ : ByteArray) = true := by
  rw [val1, emptyL]
  unfold inB
  rw [decide_eq_true ⟨h0, h1⟩]
  rfl
theorem unaE_ok (op k n : Int) (t : ByteArray) (h : valB k n t = true) : valB (unaE op k n).k (unaE op k n).n (unaE op k n).t = true := by
  have hr := rt_of h
  unfold unaE
  repeat' split
  all_goals first | exact okz | exact okt _ | (exact okn (-n) (by have := hr.n1; omega) (by have := hr.n0; omega))
theorem colE_ok (c i : Int) (u v : VV) (hi : inB i 0 1000 = true) (hu : okV u = true) (hv : okV v = true) : valB (colE c i u v).k (colE c i u v).n (colE c i u v).t = true := by
  unfold colE
  repeat' split
  · exact okn i (by unfold inB at hi; simp at hi; omega) (by unfold inB at hi; simp at hi; omega)
  · exact hu
  · exact hv
def evS (e : EV) : SV := ⟨e.k, e.n, e.t⟩
def brS (r : BR) : SV := ⟨r.k, r.n, ⟨#[]⟩⟩
def okS (v : SV) : Prop := valB v.k v.n v.t = true
def lastS (S : List SV) : SV := S.getD (S.length - 1) zeroC
def jop (o : Int) : Int := if o = 5 then 12 else 13
/-- What an instruction does: the values behind it, where it goes on, its code. -/
def stR (x : IN) (i : Int) (u v : VV) (S : List SV) (k : Nat) : List SV × Nat × Int :=
  if x.o = 1 then (S ++ [⟨x.k, x.n, x.t⟩], k + 1, 0)
  else if x.o = 2 then (S ++ [evS (colE x.p i u v)], k + 1, 0)
  else if x.o = 3 then (S.dropLast ++ [evS (unaE x.p (lastS S).k (lastS S).n)], k + 1, (unaE x.p (lastS S).k (lastS S).n).c)
  else if x.o = 4 then (S.dropLast.dropLast ++ [brS (binR x.p (lastS S.dropLast).k (lastS S.dropLast).n (lastS S.dropLast).t (lastS S).k (lastS S).n (lastS S).t)], k + 1, (binR x.p (lastS S.dropLast).k (lastS S.dropLast).n (lastS S.dropLast).t (lastS S).k (lastS S).n (lastS S).t).c)
  else if decB (jop x.o) (lastS S).k (lastS S).n then (S.dropLast ++ [⟨1, trI (jop x.o == 13), ⟨#[]⟩⟩], x.p.toNat, 0)
  else (S, k + 1, 0)
def runR (L : List IN) (n : Nat) (i : Int) (u v : VV) : Nat → List SV → Nat → EV
  | 0, _, _ => errE 0
  | f + 1, S, k => if k < n then (if (stR (L.getD k zeroI) i u v S k).2.2 = 0 then runR L n i u v f (stR (L.getD k zeroI) i u v S k).1 (stR (L.getD k zeroI) i u v S k).2.1 else errE (stR (L.getD k zeroI) i u v S k).2.2)
    else ⟨(lastS S).k, (lastS S).n, (lastS S).t, 0⟩
structure WFC (n : Nat) (L : List IN) (ds : List Int) : Prop where
  z : ds.getD 0 0 = 0
  e : ds.getD n 0 = 1
  j : ∀ k, k < n → justB n k (L.getD k zeroI) = true
  t : ∀ k, k < n → tak (L.getD k zeroI).o ≤ ds.getD k 0
  s : ∀ k, k < n → ds.getD (k + 1) 0 = ds.getD k 0 - tak (L.getD k zeroI).o + 1
  p : ∀ k, k < n → jmp (L.getD k zeroI).o = true → ds.getD (L.getD k zeroI).p.toNat 0 = ds.getD k 0
/-- Numbers that stand are not changed, and those of a step stand. -/
theorem stS_keep {n k : Nat} {x : IN} {ds d : List Int} (hl : ds.length = n + 1) (hk : k < n) (h : stS n k x ds = some d) : (∀ j, 0 ≤ ds.getD j 0 → d.getD j 0 = ds.getD j 0) ∧ justB n k x = true ∧ tak x.o ≤ ds.getD k 0 ∧ d.getD (k + 1) 0 = ds.getD k 0 - tak x.o + 1 ∧ (jmp x.o = true → d.getD x.p.toNat 0 = ds.getD k 0) := by
  unfold stS at h
  split at h
  case isFalse => cases h
  case isTrue hc =>
  split at h
  case isFalse => cases h
  case isTrue hJ =>
  split at h
  case isFalse => cases h
  case isTrue hN =>
  simp only [Option.some.injEq] at h
  unfold okN at hN
  rw [Bool.and_eq_true, Bool.or_eq_true] at hN
  have hN2 : (setJ x (ds.getD k 0) ds).getD (k + 1) 0 < 0 ∨ (setJ x (ds.getD k 0) ds).getD (k + 1) 0 = ds.getD k 0 - tak x.o + 1 := by
    rcases hN.2 with q | q
    · exact .inl (of_decide_eq_true q)
    · exact .inr (by simpa using q)
  have hsl : (setJ x (ds.getD k 0) ds).length = n + 1 := by unfold setJ; split <;> simp [hl]
  have hset : ∀ j, 0 ≤ ds.getD j 0 → (setJ x (ds.getD k 0) ds).getD j 0 = ds.getD j 0 := by
    intro j hj
    unfold setJ
    cases hjm : jmp x.o
    · rfl
    · simp only [if_true]
      by_cases hp : x.p.toNat = j
      · unfold okJ at hJ
        rw [hjm, hp] at hJ
        simp only [Bool.not_true, Bool.false_or, Bool.or_eq_true] at hJ
        have hpn := just_j hc.1 hjm
        rw [hp, getD_set_self (by omega)]
        rcases hJ with q | q
        · have := of_decide_eq_true q; omega
        · have : ds.getD j 0 = ds.getD k 0 := by simpa using q
          exact this.symm
      · rw [getD_set_ne hp]
  refine ⟨fun j hj => ?_, hc.1, hc.2, ?_, fun hjm => ?_⟩
  · rw [← h]
    by_cases he : k + 1 = j
    · subst he
      rw [getD_set_self (by omega)]
      rw [hset _ hj] at hN2
      omega
    · rw [getD_set_ne he]; exact hset j hj
  · rw [← h, getD_set_self (by omega)]
  · have hpn := just_j hc.1 hjm
    have t1 := tak_j hjm
    rw [← h]
    by_cases he : k + 1 = x.p.toNat
    · rw [← he, getD_set_self (by omega)]; omega
    · rw [getD_set_ne he]
      unfold setJ
      rw [hjm]
      simp only [if_true]
      rw [getD_set_self (by omega)]
theorem goS_wf {n : Nat} {L : List IN} : ∀ (f k : Nat) (ds d : List Int), k + f = n → ds.length = n + 1 → goS n L f k ds = some d → (∀ j, 0 ≤ ds.getD j 0 → d.getD j 0 = ds.getD j 0) ∧ d.getD n 0 = 1 ∧ ∀ q, k ≤ q → q < n → justB n q (L.getD q zeroI) = true ∧ tak (L.getD q zeroI).o ≤ d.getD q 0 ∧ d.getD (q + 1) 0 = d.getD q 0 - tak (L.getD q zeroI).o + 1 ∧ (jmp (L.getD q zeroI).o = true → d.getD (L.getD q zeroI).p.toNat 0 = d.getD q 0)
  | 0, k, ds, d, hf, hl, h => by
    unfold goS finD at h
    split at h
    · rename_i hd
      simp only [Option.some.injEq] at h
      subst h
      exact ⟨fun _ _ => rfl, hd, fun q h1 h2 => by omega⟩
    · cases h
  | f + 1, k, ds, d, hf, hl, h => by
    unfold goS at h
    cases hs : stS n k (L.getD k zeroI) ds with
    | none => rw [hs] at h; cases h
    | some e =>
      rw [hs] at h
      obtain ⟨k1, k2, k3, k4, k5⟩ := stS_keep hl (by omega) hs
      obtain ⟨i1, i2, i3⟩ := goS_wf f (k + 1) e d (by omega) (by rw [st_len hs]; exact hl) h
      have hd0 : 0 ≤ ds.getD k 0 := by have := tak_nn (L.getD k zeroI).o; omega
      have hek : d.getD k 0 = ds.getD k 0 := by rw [i1 k (by rw [k1 k hd0]; exact hd0), k1 k hd0]
      refine ⟨fun j hj => by rw [i1 j (by rw [k1 j hj]; exact hj), k1 j hj], i2, fun q h1 h2 => ?_⟩
      by_cases hq : q = k
      · subst hq
        refine ⟨k2, by rw [hek]; exact k3, ?_, fun hj => ?_⟩
        · rw [i1 (q + 1) (by rw [k4]; omega), k4, hek]
        · rw [i1 _ (by rw [k5 hj]; exact hd0), k5 hj, hek]
      · exact i3 q (by omega) h2
theorem wf_of {n : Nat} {L : List IN} {ds : List Int} (h : resC n L = some ds) : WFC n L ds := by
  obtain ⟨a, b, c⟩ := goS_wf n 0 (ds0 n) ds (by omega) (by simp [ds0]) h
  exact ⟨a 0 (by simp [ds0]), b, fun k hk => (c k (by omega) hk).1, fun k hk => (c k (by omega) hk).2.1, fun k hk => (c k (by omega) hk).2.2.1, fun k hk => (c k (by omega) hk).2.2.2⟩
/-- Where a run stands: as many values as were reckoned, all of them right. -/
structure InR (n : Nat) (ds : List Int) (S : List SV) (k : Nat) : Prop where
  kn : k ≤ n
  l : (S.length : Int) = ds.getD k 0
  o : ∀ s ∈ S, okS s
theorem mem_drop {S : List SV} {s : SV} (h : s ∈ S.dropLast) : s ∈ S := List.dropLast_subset S h
theorem last_mem {S : List SV} (h : 0 < S.length) : lastS S ∈ S := by
  unfold lastS
  rw [List.getD_eq_getElem?_getD, List.getElem?_eq_getElem (by omega)]
  exact List.getElem_mem _
theorem snoc_last {S : List SV} (h : 0 < S.length) : S.dropLast ++ [lastS S] = S := by
  have hne : S ≠ [] := by intro e; rw [e] at h; simp at h
  have : lastS S = S.getLast hne := by
    unfold lastS
    rw [List.getD_eq_getElem?_getD, List.getElem?_eq_getElem (by omega), List.getLast_eq_getElem]
    rfl
  rw [this]
  exact List.dropLast_concat_getLast hne
theorem snoc_ok {S : List SV} {x : SV} (h : ∀ s ∈ S, okS s) (hx : okS x) : ∀ s ∈ S ++ [x], okS s := by
  intro s hs
  rcases List.mem_append.1 hs with q | q
  · exact h s q
  · rw [List.mem_singleton.1 q]; exact hx
theorem in_step {n : Nat} {L : List IN} {ds : List Int} {i : Int} {u v : VV} {S : List SV} {k : Nat} (W : WFC n L ds) (R : InR n ds S k) (hk : k < n) (hi : inB i 0 1000 = true) (hu : okV u = true) (hv : okV v = true) :
    InR n ds (stR (L.getD k zeroI) i u v S k).1 (stR (L.getD k zeroI) i u v S k).2.1 ∧ k < (stR (L.getD k zeroI) i u v S k).2.1 := by
  obtain ⟨x, hx⟩ : ∃ x, L.getD k zeroI = x := ⟨_, rfl⟩
  have j := W.j k hk
  have t := W.t k hk
  have s := W.s k hk
  have p := W.p k hk
  rw [hx] at j t s p ⊢
  have hl := R.l
  have hop := j
  unfold stR
  by_cases h1 : x.o = 1
  · rw [if_pos h1]
    have tk : tak x.o = 0 := by rw [h1]; rfl
    unfold justB at j
    rw [if_pos h1] at j
    simp only [Bool.and_eq_true] at j
    exact ⟨⟨by show k + 1 ≤ n; omega, by simp only [List.length_append, List.length_dropLast, List.length_cons, List.length_nil]; omega, snoc_ok R.o j.2⟩, by show k < k + 1; omega⟩
  rw [if_neg h1]
  by_cases h2 : x.o = 2
  · rw [if_pos h2]
    have tk : tak x.o = 0 := by rw [h2]; rfl
    exact ⟨⟨by show k + 1 ≤ n; omega, by simp only [List.length_append, List.length_dropLast, List.length_cons, List.length_nil]; omega, snoc_ok R.o (colE_ok _ _ _ _ hi hu hv)⟩, by show k < k + 1; omega⟩
  rw [if_neg h2]
  by_cases h3 : x.o = 3
  · rw [if_pos h3]
    have tk : tak x.o = 1 := by rw [h3]; rfl
    have hpos : 0 < S.length := by omega
    exact ⟨⟨by show k + 1 ≤ n; omega, by simp only [List.length_append, List.length_dropLast, List.length_cons, List.length_nil]; omega, snoc_ok (fun s hs => R.o s (mem_drop hs)) (unaE_ok _ _ _ _ (R.o _ (last_mem hpos)))⟩, by show k < k + 1; omega⟩
  rw [if_neg h3]
  by_cases h4 : x.o = 4
  · rw [if_pos h4]
    have tk : tak x.o = 2 := by rw [h4]; rfl
    exact ⟨⟨by show k + 1 ≤ n; omega, by simp only [List.length_append, List.length_dropLast, List.length_cons, List.length_nil]; omega, snoc_ok (fun s hs => R.o s (mem_drop (mem_drop hs))) (binR_ok _ _ _ _ _ _ _)⟩, by show k < k + 1; omega⟩
  rw [if_neg h4]
  have hj : jmp x.o = true := by
    unfold justB at j
    rw [if_neg h1, if_neg h2, if_neg h3, if_neg h4] at j
    simp only [Bool.and_eq_true] at j
    exact j.1
  have tk := tak_j hj
  have hp := just_j hop hj
  split
  · refine ⟨⟨by show x.p.toNat ≤ n; omega, ?_, snoc_ok (fun s hs => R.o s (mem_drop hs)) (okt _)⟩, by show k < x.p.toNat; omega⟩
    show ((S.dropLast ++ [_]).length : Int) = ds.getD x.p.toNat 0
    rw [p hj]
    simp only [List.length_append, List.length_dropLast, List.length_cons, List.length_nil]
    omega
  · exact ⟨⟨by show k + 1 ≤ n; omega, by show (S.length : Int) = ds.getD (k + 1) 0; omega, R.o⟩, by show k < k + 1; omega⟩
def ranC (L : List IN) (n : Nat) (i : Int) (u v : VV) : EV := runR L n i u v (n + 1) [] 0
theorem run_next {L : List IN} {n : Nat} {i : Int} {u v : VV} {f : Nat} {S : List SV} {k : Nat} {E : EV} (hk : k < n) (hf : n - k < f) (h : runR L n i u v f S k = E) :
    ∃ g, f = g + 1 ∧ (if (stR (L.getD k zeroI) i u v S k).2.2 = 0 then runR L n i u v g (stR (L.getD k zeroI) i u v S k).1 (stR (L.getD k zeroI) i u v S k).2.1 else errE (stR (L.getD k zeroI) i u v S k).2.2) = E := by
  obtain ⟨g, rfl⟩ : ∃ g, f = g + 1 := ⟨f - 1, by omega⟩
  refine ⟨g, rfl, ?_⟩
  rw [runR, if_pos hk] at h
  exact h
theorem run_end {L : List IN} {n : Nat} {i : Int} {u v : VV} {f : Nat} {S : List SV} {E : EV} (hf : 0 < f) (h : runR L n i u v f S n = E) : E = ⟨(lastS S).k, (lastS S).n, (lastS S).t, 0⟩ := by
  obtain ⟨g, rfl⟩ : ∃ g, f = g + 1 := ⟨f - 1, by omega⟩
  rw [runR, if_neg (by omega)] at h
  exact h.symm

end Go.Proofs.YtcgcaomaofppiaaDoor
