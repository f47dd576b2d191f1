/-
  Lists of nodes of an expression: what they read as, sizes, copies, comparisons.
-/
import Derived.Test.YtiobobocjokgiaaBx
import Derived.Test.YtiobobocjokgiaaVal
import Derived.Deep.RegionHeld3
import Derived.Deep.DrawnRows
namespace Go.Proofs.Ytiobobocjokgiaa
open Go Go.RowKit
attribute [local go_sem ↓] Go.wp_at_zero Go.wp_at_succ

def partA {α : Type} (d : α) (xs : List α) (n k : Nat) : List α := xs.take k ++ List.replicate (n - k) d
theorem partA_step {α : Type} (d : α) (xs : List α) (n k : Nat) (hz : xs.length = n) (hk : k < n) : (partA d xs n k).set k (xs.getD k d) = partA d xs n (k + 1) := by
  unfold partA
  have hl : (xs.take k).length = k := by simp; omega
  rw [List.set_append, if_neg (by omega), hl, Nat.sub_self]
  obtain ⟨m, hm⟩ : ∃ m, n - k = m + 1 := ⟨n - k - 1, by omega⟩
  have hm' : n - (k + 1) = m := by omega
  rw [hm, hm', List.replicate_succ, List.set_cons_zero, List.take_add_one, List.append_assoc, List.getD_eq_getElem?_getD, List.getElem?_eq_getElem (by omega)]
  rfl
theorem partA_len {α : Type} (d : α) (xs : List α) (n k : Nat) (hz : xs.length = n) (hk : k ≤ n) : (partA d xs n k).length = n := by unfold partA; simp; omega
theorem partA_full {α : Type} (d : α) (xs : List α) (n : Nat) (hz : xs.length = n) : partA d xs n n = xs := by
  unfold partA; rw [List.take_of_length_le (by omega), Nat.sub_self]; simp
theorem getD_ofX {α : Type} {Q : α → Prop} {vs : List α} {d : α} {k : Nat} (h : ∀ v ∈ vs, Q v) (hk : k < vs.length) : Q (vs.getD k d) := by
  rw [List.getD_eq_getElem?_getD, List.getElem?_eq_getElem hk]
  exact h _ (List.getElem_mem hk)
structure EN where
  o : Int
  a : Int
  b : Int
  c : Int
  k : Int
  n : Int
  t : ByteArray
def zeroE : EN := ⟨0, 0, 0, 0, 0, 0, ⟨#[]⟩⟩
def cE (v : EN) : List Value := [.int .i64 v.o, .int .i64 v.a, .int .i64 v.b, .int .i64 v.c, .int .i64 v.k, .int .i64 v.n, .string v.t]
def cellsE (vs : List EN) : List Value := vs.flatMap cE
theorem cellsE_len (vs : List EN) : (cellsE vs).length = vs.length * 7 := by
  induction vs with
  | nil => rfl
  | cons v vs ih => rw [show cellsE (v :: vs) = cE v ++ cellsE vs from rfl, List.length_append, ih, List.length_cons]; simp only [cE, List.length_cons, List.length_nil]; omega
theorem cellsE_get : ∀ (vs : List EN) (i : Nat), i < vs.length → ∀ j, j < 7 → (cellsE vs)[i * 7 + j]? = (cE (vs.getD i zeroE))[j]?
  | v :: vs, 0, _, j, hj => by
    rw [show cellsE (v :: vs) = cE v ++ cellsE vs from rfl, List.getElem?_append_left (by simp [cE]; omega)]
    simp
  | v :: vs, i + 1, h, j, hj => by
    have ih := cellsE_get vs i (by simpa using h) j hj
    rw [show cellsE (v :: vs) = cE v ++ cellsE vs from rfl, List.getElem?_append_right (by simp [cE]; omega), show (i + 1) * 7 + j - (cE v).length = i * 7 + j by simp [cE]; omega, ih]
    rfl
def setE (L : List Value) (o : Nat) (v : EN) : List Value := (((((((L).set (o) (.int .i64 v.o)).set (o + 1) (.int .i64 v.a)).set (o + 2) (.int .i64 v.b)).set (o + 3) (.int .i64 v.c)).set (o + 4) (.int .i64 v.k)).set (o + 5) (.int .i64 v.n)).set (o + 6) (.string v.t)
theorem setE_cons (x : Value) (L : List Value) (o : Nat) (v : EN) : setE (x :: L) (o + 1) v = x :: setE L o v := rfl
theorem cellsE_set : ∀ (vs : List EN) (i : Nat) (v : EN), i < vs.length → setE (cellsE vs) (i * 7) v = cellsE (vs.set i v)
  | u :: vs, 0, v, _ => rfl
  | u :: vs, i + 1, v, h => by
    have ih := cellsE_set vs i v (by simpa using h)
    rw [show cellsE (u :: vs) = .int .i64 u.o :: .int .i64 u.a :: .int .i64 u.b :: .int .i64 u.c :: .int .i64 u.k :: .int .i64 u.n :: .string u.t :: cellsE vs from rfl, show (i + 1) * 7 = i * 7 + 1 + 1 + 1 + 1 + 1 + 1 + 1 by omega]
    rw [setE_cons, setE_cons, setE_cons, setE_cons, setE_cons, setE_cons, setE_cons, ih]
    rfl
/-- The slice at a reads as the structs vs. -/
def RdE (w : World) (a : Option Addr) (n : Nat) (vs : List EN) : Prop :=
  vs.length = n ∧ (0 < n → ∃ b off, a = some ⟨b, off, none⟩ ∧ b < w.heap.size ∧ ∀ i, i < n → ∀ j, j < 7 → w.cell? ⟨b, off + i * 7 + j, none⟩ = (cE (vs.getD i zeroE))[j]?)
theorem RdE.below {w w' : World} {a : Option Addr} {n : Nat} {vs : List EN} (h : RdE w a n vs) (hb : Below w.heap.size w w') : RdE w' a n vs := by
  obtain ⟨h1, h3⟩ := h
  refine ⟨h1, fun hn => ?_⟩
  obtain ⟨b, off, e, hlt, hc⟩ := h3 hn
  refine ⟨b, off, e, Nat.lt_of_lt_of_le hlt hb.size, fun i hi j hj => ?_⟩
  rw [hb.cell (p := ⟨b, off + i * 7 + j, none⟩) hlt]
  exact hc i hi j hj
theorem RdE.own {w : World} {base e n : Nat} {a : Option Addr} {m cap : Nat} {vs : List EN} (h : w.ownsRow base e 7 (.slice a m cap) n (cellsE vs)) : RdE w a m vs := by
  have hl : vs.length = n := by have := h.1; rw [cellsE_len] at this; omega
  rcases h.2 with ⟨hv, h0⟩ | ⟨g, cap', cur, hv, hb, hg, hnc, hcm, hcs, htake⟩
  · simp only [Value.slice.injEq] at hv
    obtain ⟨rfl, rfl, rfl⟩ := hv
    exact ⟨by omega, fun h => absurd h (by omega)⟩
  · simp only [Value.slice.injEq] at hv
    obtain ⟨rfl, rfl, rfl⟩ := hv
    refine ⟨hl, fun _ => ⟨g, 0, rfl, ?_, fun i hi j hj => ?_⟩⟩
    · rcases Nat.lt_or_ge g w.heap.size with h1 | h1
      · exact h1
      · rw [Array.getElem?_eq_none h1] at hg; cases hg
    · rw [Nat.zero_add, h.cellAt (i * 7 + j) (by omega)]
      exact cellsE_get vs i (by omega) j hj
theorem RdE.at {w : World} {b off n : Nat} {vs : List EN} {i : Nat} (hc : ∀ i, i < n → ∀ j, j < 7 → w.cell? ⟨b, off + i * 7 + j, none⟩ = (cE (vs.getD i zeroE))[j]?) (hi : i < n) {v : EN} (hv : v = vs.getD i zeroE) :
    w.cell? ⟨b, off + i * 7, none⟩ = some (.int .i64 v.o) ∧ w.cell? ⟨b, off + i * 7 + 1, none⟩ = some (.int .i64 v.a) ∧ w.cell? ⟨b, off + i * 7 + 2, none⟩ = some (.int .i64 v.b) ∧ w.cell? ⟨b, off + i * 7 + 3, none⟩ = some (.int .i64 v.c) ∧ w.cell? ⟨b, off + i * 7 + 4, none⟩ = some (.int .i64 v.k) ∧ w.cell? ⟨b, off + i * 7 + 5, none⟩ = some (.int .i64 v.n) ∧ w.cell? ⟨b, off + i * 7 + 6, none⟩ = some (.string v.t) := by
  subst hv
  exact ⟨hc i hi 0 (by omega), hc i hi 1 (by omega), hc i hi 2 (by omega), hc i hi 3 (by omega), hc i hi 4 (by omega), hc i hi 5 (by omega), hc i hi 6 (by omega)⟩

set_option maxRecDepth 100000 in
set_option maxHeartbeats 4000000 in
theorem c_eqV1 (k n : Int) (t : ByteArray) (w : World) : Calls Try.prog 41 #[.agg #[.int .i64 k, .int .i64 n, .string t], .agg #[.int .i64 k, .int .i64 n, .string t]] w fun e w' => e = .returned (.bool true) ∧ Below w.heap.size w w' := by
  have e1 : (k != k) = false := by simp
  have e2 : (n != n) = false := by simp
  go_enter Try.func41, Try.ntmps41
  go_wp2
  go_ret
  exact ⟨rfl, ((Below.refl _ _).alloc (Nat.le_refl _) _).alloc (by simp) _⟩
end Go.Proofs.Ytiobobocjokgiaa
