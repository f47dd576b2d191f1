/-
  Walks over slices of values (three cells each): copies, sizes, comparisons, marks.
-/
import Derived.Test.YtkfkhfagehcmiaaDoorMk
import Derived.Test.YtkfkhfagehcmiaaDoorVal
namespace Go.Proofs.YtkfkhfagehcmiaaDoor
open Go Go.RowKit
attribute [local go_sem ↓] Go.wp_at_zero Go.wp_at_succ

abbrev VV := Int × Int × ByteArray
def dV : VV := (0, 0, ⟨#[]⟩)
def cV (v : VV) : List Value := [.int .i64 v.1, .int .i64 v.2.1, .string v.2.2]
def cellsV (vs : List VV) : List Value := vs.flatMap cV
theorem cellsV_len (vs : List VV) : (cellsV vs).length = vs.length * 3 := by
  induction vs with
  | nil => rfl
  | cons v vs ih => rw [show cellsV (v :: vs) = cV v ++ cellsV vs from rfl, List.length_append, ih, List.length_cons]; simp only [cV, List.length_cons, List.length_nil]; omega
theorem cellsV_get : ∀ (vs : List VV) (i : Nat), i < vs.length → (cellsV vs)[i * 3]? = some (.int .i64 (vs.getD i dV).1) ∧ (cellsV vs)[i * 3 + 1]? = some (.int .i64 (vs.getD i dV).2.1) ∧ (cellsV vs)[i * 3 + 2]? = some (.string (vs.getD i dV).2.2)
  | v :: vs, 0, _ => by simp [cellsV, cV]
  | v :: vs, i + 1, h => by
    have := cellsV_get vs i (by simpa using h)
    have e : cellsV (v :: vs) = cV v ++ cellsV vs := rfl
    rw [e]
    have el : ∀ j, (cV v ++ cellsV vs)[j + 3]? = (cellsV vs)[j]? := fun j => by rw [List.getElem?_append_right (by simp [cV])]; simp [cV]
    rw [show (i + 1) * 3 = i * 3 + 3 by omega, show i * 3 + 3 + 1 = i * 3 + 1 + 3 by omega, show i * 3 + 3 + 2 = i * 3 + 2 + 3 by omega, el, el, el]
    simpa using this
theorem cellsV_set : ∀ (vs : List VV) (i : Nat) (v : VV), i < vs.length → (((cellsV vs).set (i * 3) (.int .i64 v.1)).set (i * 3 + 1) (.int .i64 v.2.1)).set (i * 3 + 2) (.string v.2.2) = cellsV (vs.set i v)
  | u :: vs, 0, v, _ => by simp [cellsV, cV]
  | u :: vs, i + 1, v, h => by
    have ih := cellsV_set vs i v (by simpa using h)
    have e : cellsV (u :: vs) = .int .i64 u.1 :: .int .i64 u.2.1 :: .string u.2.2 :: cellsV vs := rfl
    have e2 : cellsV ((u :: vs).set (i + 1) v) = .int .i64 u.1 :: .int .i64 u.2.1 :: .string u.2.2 :: cellsV (vs.set i v) := rfl
    rw [e, e2, show (i + 1) * 3 = i * 3 + 1 + 1 + 1 by omega, ← ih]
    rfl
/-- The slice at a reads as the values vs. -/
def RdC (w : World) (a : Option Addr) (n : Nat) (vs : List VV) : Prop :=
  vs.length = n ∧ (0 < n → ∃ b off, a = some ⟨b, off, none⟩ ∧ b < w.heap.size ∧ ∀ i, i < n → w.cell? ⟨b, off + i * 3, none⟩ = some (.int .i64 (vs.getD i dV).1) ∧ w.cell? ⟨b, off + i * 3 + 1, none⟩ = some (.int .i64 (vs.getD i dV).2.1) ∧ w.cell? ⟨b, off + i * 3 + 2, none⟩ = some (.string (vs.getD i dV).2.2))
theorem RdC.below {w w' : World} {a : Option Addr} {n : Nat} {vs : List VV} (h : RdC w a n vs) (hb : Below w.heap.size w w') : RdC w' a n vs := by
  obtain ⟨h1, h3⟩ := h
  refine ⟨h1, fun hn => ?_⟩
  obtain ⟨b, off, e, hlt, hc⟩ := h3 hn
  refine ⟨b, off, e, Nat.lt_of_lt_of_le hlt hb.size, fun i hi => ?_⟩
  rw [hb.cell (p := ⟨b, off + i * 3, none⟩) hlt, hb.cell (p := ⟨b, off + i * 3 + 1, none⟩) hlt, hb.cell (p := ⟨b, off + i * 3 + 2, none⟩) hlt]
  exact hc i hi
theorem RdC.own {w : World} {base e n : Nat} {a : Option Addr} {m cap : Nat} {vs : List VV} (h : w.ownsRow base e 3 (.slice a m cap) n (cellsV vs)) : RdC w a m vs := by
  have hl : vs.length = n := by have := h.1; rw [cellsV_len] at this; omega
  rcases h.2 with ⟨hv, h0⟩ | ⟨g, cap', cur, hv, hb, hg, hnc, hcm, hcs, htake⟩
  · simp only [Value.slice.injEq] at hv
    obtain ⟨rfl, rfl, rfl⟩ := hv
    exact ⟨by omega, fun h => absurd h (by omega)⟩
  · simp only [Value.slice.injEq] at hv
    obtain ⟨rfl, rfl, rfl⟩ := hv
    refine ⟨hl, fun _ => ⟨g, 0, rfl, ?_, fun i hi => ?_⟩⟩
    · rcases Nat.lt_or_ge g w.heap.size with h1 | h1
      · exact h1
      · rw [Array.getElem?_eq_none h1] at hg; cases hg
    · rw [Nat.zero_add, h.cellAt (i * 3) (by omega), h.cellAt (i * 3 + 1) (by omega), h.cellAt (i * 3 + 2) (by omega)]
      exact cellsV_get vs i (by omega)
def partA {α : Type} (d : α) (xs : List α) (n k : Nat) : List α := xs.take k ++ List.replicate (n - k) d
theorem partA_step {α : Type} (d : α) (xs : List α) (n k : Nat) (hz : xs.length = n) (hk : k < n) : (partA d xs n k).set k (xs.getD k d) = partA d xs n (k + 1) := by
  unfold partA
  have hl : (xs.take k).length = k := by simp; omega
  rw [List.set_append, if_neg (by omega), hl, Nat.sub_self]
  obtain ⟨m, hm⟩ : ∃ m, n - k = m + 1 := ⟨n - k - 1, by omega⟩
  have hm' : n - (k + 1) = m := by omega
  rw [hm, hm', List.replicate_succ, List.set_cons_zero, List.take_add_one, List.append_assoc, List.getD_eq_getElem?_getD, List.getElem?_eq_getElem (by omega)]
  rfl
theorem partA_len {α : Type} (d : α) (xs : List α) (n k : Nat) (hz : xs.length = n) (hk : k ≤ n) : (partA d xs n k).length = n := by unfold partA; simp; omega
theorem partA_full {α : Type} (d : α) (xs : List α) (n : Nat) (hz : xs.length = n) : partA d xs n n = xs := by
  unfold partA; rw [List.take_of_length_le (by omega), Nat.sub_self]; simp
theorem made_zero (n : Nat) : (madeCells #[.int .i64 0, .int .i64 0, .string ⟨#[]⟩] (n * 3)).toList = cellsV (List.replicate n dV) := by
  apply List.ext_getElem?
  intro j
  by_cases hj : j < n * 3
  · have h1 : (madeCells #[.int .i64 0, .int .i64 0, .string ⟨#[]⟩] (n * 3)).toList[j]? = some (#[Value.int .i64 0, .int .i64 0, .string ⟨#[]⟩][j % 3]!) := by
      simp [madeCells, hj]
    rw [h1]
    have hi : j / 3 < (List.replicate n dV).length := by simp; omega
    obtain ⟨c0, c1, c2⟩ := cellsV_get (List.replicate n dV) (j / 3) hi
    have hd : (List.replicate n dV).getD (j / 3) dV = dV := by rw [List.getD_eq_getElem?_getD, List.getElem?_eq_getElem hi]; simp
    rw [hd] at c0 c1 c2
    have hm : j % 3 = 0 ∨ j % 3 = 1 ∨ j % 3 = 2 := by omega
    rcases hm with h | h | h
    · rw [h, show j = j / 3 * 3 by omega, c0]; rfl
    · rw [h, show j = j / 3 * 3 + 1 by omega, c1]; rfl
    · rw [h, show j = j / 3 * 3 + 2 by omega, c2]; rfl
  · rw [List.getElem?_eq_none (by simp [size_madeCells]; omega), List.getElem?_eq_none (by rw [cellsV_len]; simp; omega)]
theorem info40 : (Tryd.prog.info? 27).map (fun i => (i.zero, i.size, i.bytes)) = some (some (.agg #[.int .i64 0, .int .i64 0, .string ⟨#[]⟩]), 3, 32) := by kernel_rfl
/-- A stored value. -/
theorem own_put {w : World} {base e g n cap : Nat} {vs : List VV} (h : w.ownsRow base e 3 (.slice (some ⟨g, 0, none⟩) n cap) n (cellsV vs)) (i : Nat) (v : VV) (hi : i < vs.length) :
    (((w.setCell ⟨g, i * 3, none⟩ (.int .i64 v.1)).setCell ⟨g, i * 3 + 1, none⟩ (.int .i64 v.2.1)).setCell ⟨g, i * 3 + 2, none⟩ (.string v.2.2)).ownsRow base e 3 (.slice (some ⟨g, 0, none⟩) n cap) n (cellsV (vs.set i v)) := by
  have h1 := (h.stored (i * 3) (.int .i64 v.1)).1
  have h2 := (h1.stored (i * 3 + 1) (.int .i64 v.2.1)).1
  have h3 := (h2.stored (i * 3 + 2) (.string v.2.2)).1
  rw [cellsV_set vs i v hi] at h3
  exact h3

def txtV (vs : List VV) : List ByteArray := vs.map (·.2.2)
theorem txtV_get (vs : List VV) (k : Nat) : (txtV vs).getD k ⟨#[]⟩ = (vs.getD k dV).2.2 := by
  unfold txtV
  rw [List.getD_eq_getElem?_getD, List.getD_eq_getElem?_getD, List.getElem?_map]
  cases vs[k]? <;> rfl

def sameToV (zs zs' : List VV) (k : Nat) : Prop := ∀ j, j < k → zs.getD j dV = zs'.getD j dV
theorem same_allV {zs zs' : List VV} (hl : zs.length = zs'.length) (h : sameToV zs zs' zs.length) : zs = zs' := by
  apply List.ext_getElem hl
  intro i h1 h2
  have := h i h1
  rwa [List.getD_eq_getElem?_getD, List.getElem?_eq_getElem h1, List.getD_eq_getElem?_getD, List.getElem?_eq_getElem h2] at this
theorem far6 {w w' : World} {b o : Nat} {u : Value} (hb : Below w.heap.size w w') (h : w.cell? ⟨b, o, none⟩ = some u) : w'.cell? ⟨b, o, none⟩ = some u :=
  (hb.cell (p := ⟨b, o, none⟩) (World.block_lt_of_cell? w ⟨b, o, none⟩ h)).trans h

end Go.Proofs.YtkfkhfagehcmiaaDoor
