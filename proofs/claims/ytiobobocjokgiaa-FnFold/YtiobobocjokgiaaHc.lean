/-
  A change copied.
-/
import Derived.Test.YtiobobocjokgiaaRa
import Derived.Deep.RegionHeld3
import Derived.Deep.DrawnRows
namespace Go.Proofs.Ytiobobocjokgiaa
open Go Go.RowKit
attribute [local go_sem ↓] Go.wp_at_zero Go.wp_at_succ

structure CW where
  se : Int
  tb : Int
  i : Int
  a : Int
  b : Int
  t : ByteArray
  p : Int
  q : Int
  z : ByteArray
  g : Bool
def zeroC : CW := ⟨0, 0, 0, 0, 0, ⟨#[]⟩, 0, 0, ⟨#[]⟩, false⟩
def cC (v : CW) : List Value := [.int .i64 v.se, .int .i64 v.tb, .int .i64 v.i, .int .i64 v.a, .int .i64 v.b, .string v.t, .int .i64 v.p, .int .i64 v.q, .string v.z, .bool v.g]
def cellsC (vs : List CW) : List Value := vs.flatMap cC
theorem cellsC_len (vs : List CW) : (cellsC vs).length = vs.length * 10 := by
  induction vs with
  | nil => rfl
  | cons v vs ih => rw [show cellsC (v :: vs) = cC v ++ cellsC vs from rfl, List.length_append, ih, List.length_cons]; simp only [cC, List.length_cons, List.length_nil]; omega
theorem cellsC_get : ∀ (vs : List CW) (i : Nat), i < vs.length → ∀ j, j < 10 → (cellsC vs)[i * 10 + j]? = (cC (vs.getD i zeroC))[j]?
  | v :: vs, 0, _, j, hj => by
    rw [show cellsC (v :: vs) = cC v ++ cellsC vs from rfl, List.getElem?_append_left (by simp [cC]; omega)]
    simp
  | v :: vs, i + 1, h, j, hj => by
    have ih := cellsC_get vs i (by simpa using h) j hj
    rw [show cellsC (v :: vs) = cC v ++ cellsC vs from rfl, List.getElem?_append_right (by simp [cC]; omega), show (i + 1) * 10 + j - (cC v).length = i * 10 + j by simp [cC]; omega, ih]
    rfl
def setC (L : List Value) (o : Nat) (v : CW) : List Value := ((((((((((L).set (o) (.int .i64 v.se)).set (o + 1) (.int .i64 v.tb)).set (o + 2) (.int .i64 v.i)).set (o + 3) (.int .i64 v.a)).set (o + 4) (.int .i64 v.b)).set (o + 5) (.string v.t)).set (o + 6) (.int .i64 v.p)).set (o + 7) (.int .i64 v.q)).set (o + 8) (.string v.z)).set (o + 9) (.bool v.g)
theorem setC_cons (x : Value) (L : List Value) (o : Nat) (v : CW) : setC (x :: L) (o + 1) v = x :: setC L o v := rfl
theorem cellsC_set : ∀ (vs : List CW) (i : Nat) (v : CW), i < vs.length → setC (cellsC vs) (i * 10) v = cellsC (vs.set i v)
  | u :: vs, 0, v, _ => rfl
  | u :: vs, i + 1, v, h => by
    have ih := cellsC_set vs i v (by simpa using h)
    rw [show cellsC (u :: vs) = .int .i64 u.se :: .int .i64 u.tb :: .int .i64 u.i :: .int .i64 u.a :: .int .i64 u.b :: .string u.t :: .int .i64 u.p :: .int .i64 u.q :: .string u.z :: .bool u.g :: cellsC vs from rfl, show (i + 1) * 10 = i * 10 + 1 + 1 + 1 + 1 + 1 + 1 + 1 + 1 + 1 + 1 by omega]
    rw [setC_cons, setC_cons, setC_cons, setC_cons, setC_cons, setC_cons, setC_cons, setC_cons, setC_cons, setC_cons, ih]
    rfl
/-- The slice at a reads as the structs vs. -/
def RdC (w : World) (a : Option Addr) (n : Nat) (vs : List CW) : Prop :=
  vs.length = n ∧ (0 < n → ∃ b off, a = some ⟨b, off, none⟩ ∧ b < w.heap.size ∧ ∀ i, i < n → ∀ j, j < 10 → w.cell? ⟨b, off + i * 10 + j, none⟩ = (cC (vs.getD i zeroC))[j]?)
theorem RdC.below {w w' : World} {a : Option Addr} {n : Nat} {vs : List CW} (h : RdC w a n vs) (hb : Below w.heap.size w w') : RdC w' a n vs := by
  obtain ⟨h1, h3⟩ := h
  refine ⟨h1, fun hn => ?_⟩
  obtain ⟨b, off, e, hlt, hc⟩ := h3 hn
  refine ⟨b, off, e, Nat.lt_of_lt_of_le hlt hb.size, fun i hi j hj => ?_⟩
  rw [hb.cell (p := ⟨b, off + i * 10 + j, none⟩) hlt]
  exact hc i hi j hj
theorem RdC.own {w : World} {base e n : Nat} {a : Option Addr} {m cap : Nat} {vs : List CW} (h : w.ownsRow base e 10 (.slice a m cap) n (cellsC vs)) : RdC w a m vs := by
  have hl : vs.length = n := by have := h.1; rw [cellsC_len] at this; omega
  rcases h.2 with ⟨hv, h0⟩ | ⟨g, cap', cur, hv, hb, hg, hnc, hcm, hcs, htake⟩
  · simp only [Value.slice.injEq] at hv
    obtain ⟨rfl, rfl, rfl⟩ := hv
    exact ⟨by omega, fun h => absurd h (by omega)⟩
  · simp only [Value.slice.injEq] at hv
    obtain ⟨rfl, rfl, rfl⟩ := hv
    refine ⟨hl, fun _ => ⟨g, 0, rfl, ?_, fun i hi j hj => ?_⟩⟩
    · rcases Nat.lt_or_ge g w.heap.size with h1 | h1
      · exact h1
      · rw [Array.getElem?_eq_none h1] at hg; cases hg
    · rw [Nat.zero_add, h.cellAt (i * 10 + j) (by omega)]
      exact cellsC_get vs i (by omega) j hj
theorem RdC.at {w : World} {b off n : Nat} {vs : List CW} {i : Nat} (hc : ∀ i, i < n → ∀ j, j < 10 → w.cell? ⟨b, off + i * 10 + j, none⟩ = (cC (vs.getD i zeroC))[j]?) (hi : i < n) {v : CW} (hv : v = vs.getD i zeroC) :
    w.cell? ⟨b, off + i * 10, none⟩ = some (.int .i64 v.se) ∧ w.cell? ⟨b, off + i * 10 + 1, none⟩ = some (.int .i64 v.tb) ∧ w.cell? ⟨b, off + i * 10 + 2, none⟩ = some (.int .i64 v.i) ∧ w.cell? ⟨b, off + i * 10 + 3, none⟩ = some (.int .i64 v.a) ∧ w.cell? ⟨b, off + i * 10 + 4, none⟩ = some (.int .i64 v.b) ∧ w.cell? ⟨b, off + i * 10 + 5, none⟩ = some (.string v.t) ∧ w.cell? ⟨b, off + i * 10 + 6, none⟩ = some (.int .i64 v.p) ∧ w.cell? ⟨b, off + i * 10 + 7, none⟩ = some (.int .i64 v.q) ∧ w.cell? ⟨b, off + i * 10 + 8, none⟩ = some (.string v.z) ∧ w.cell? ⟨b, off + i * 10 + 9, none⟩ = some (.bool v.g) := by
  subst hv
  exact ⟨hc i hi 0 (by omega), hc i hi 1 (by omega), hc i hi 2 (by omega), hc i hi 3 (by omega), hc i hi 4 (by omega), hc i hi 5 (by omega), hc i hi 6 (by omega), hc i hi 7 (by omega), hc i hi 8 (by omega), hc i hi 9 (by omega)⟩
theorem box10 {w : World} {r : Nat} {t : TypeId} {v0 v1 v2 v3 v4 v5 v6 v7 v8 v9 : Value} (h : Box w r t #[v0, v1, v2, v3, v4, v5, v6, v7, v8, v9]) : w.cell? ⟨r, 0, none⟩ = some v0 ∧ w.cell? ⟨r, 1, none⟩ = some v1 ∧ w.cell? ⟨r, 2, none⟩ = some v2 ∧ w.cell? ⟨r, 3, none⟩ = some v3 ∧ w.cell? ⟨r, 4, none⟩ = some v4 ∧ w.cell? ⟨r, 5, none⟩ = some v5 ∧ w.cell? ⟨r, 6, none⟩ = some v6 ∧ w.cell? ⟨r, 7, none⟩ = some v7 ∧ w.cell? ⟨r, 8, none⟩ = some v8 ∧ w.cell? ⟨r, 9, none⟩ = some v9 := ⟨h.cell 0, h.cell 1, h.cell 2, h.cell 3, h.cell 4, h.cell 5, h.cell 6, h.cell 7, h.cell 8, h.cell 9⟩
theorem thaw10 {w : World} {r : Nat} {t : TypeId} {c : Array Value} (h : Box w r t c) : w.frozen? ⟨r, 0, none⟩ = false ∧ w.frozen? ⟨r, 1, none⟩ = false ∧ w.frozen? ⟨r, 2, none⟩ = false ∧ w.frozen? ⟨r, 3, none⟩ = false ∧ w.frozen? ⟨r, 4, none⟩ = false ∧ w.frozen? ⟨r, 5, none⟩ = false ∧ w.frozen? ⟨r, 6, none⟩ = false ∧ w.frozen? ⟨r, 7, none⟩ = false ∧ w.frozen? ⟨r, 8, none⟩ = false ∧ w.frozen? ⟨r, 9, none⟩ = false := ⟨h.thaw 0, h.thaw 1, h.thaw 2, h.thaw 3, h.thaw 4, h.thaw 5, h.thaw 6, h.thaw 7, h.thaw 8, h.thaw 9⟩
theorem puA_box {w : World} {r : Nat} {t : TypeId} {x0 x1 x2 x3 x4 x5 x6 x7 x8 x9 : Value} (h : Box w r t #[x0, x1, x2, x3, x4, x5, x6, x7, x8, x9]) (v0 v1 : Value) : Box (((w).setCell ⟨r, 0, none⟩ (v0)).setCell ⟨r, 1, none⟩ (v1)) r t #[v0, v1, x2, x3, x4, x5, x6, x7, x8, x9] := by
  have k := ((h.set 0 v0).set 1 v1)
  simpa using k
theorem puA_other {w : World} {r g : Nat} {t : TypeId} {c : Array Value} (h : Box w g t c) (hne : g ≠ r) (v0 v1 : Value) : Box (((w).setCell ⟨r, 0, none⟩ (v0)).setCell ⟨r, 1, none⟩ (v1)) g t c := ((h.setOther _ _ hne).setOther _ _ hne)
theorem puA_below {a w : World} {r B : Nat} (h : Below B a w) (hg : B ≤ r) (v0 v1 : Value) : Below B a (((w).setCell ⟨r, 0, none⟩ (v0)).setCell ⟨r, 1, none⟩ (v1)) := ((h.setCell hg _).setCell hg _)
theorem puB_box {w : World} {r : Nat} {t : TypeId} {x0 x1 x2 x3 x4 x5 x6 x7 x8 x9 : Value} (h : Box w r t #[x0, x1, x2, x3, x4, x5, x6, x7, x8, x9]) (v2 v3 v4 v5 v6 v7 v8 : Value) : Box ((((((((w).setCell ⟨r, 2, none⟩ (v2)).setCell ⟨r, 3, none⟩ (v3)).setCell ⟨r, 4, none⟩ (v4)).setCell ⟨r, 5, none⟩ (v5)).setCell ⟨r, 6, none⟩ (v6)).setCell ⟨r, 7, none⟩ (v7)).setCell ⟨r, 8, none⟩ (v8)) r t #[x0, x1, v2, v3, v4, v5, v6, v7, v8, x9] := by
  have k := (((((((h.set 2 v2).set 3 v3).set 4 v4).set 5 v5).set 6 v6).set 7 v7).set 8 v8)
  simpa using k
theorem puB_other {w : World} {r g : Nat} {t : TypeId} {c : Array Value} (h : Box w g t c) (hne : g ≠ r) (v2 v3 v4 v5 v6 v7 v8 : Value) : Box ((((((((w).setCell ⟨r, 2, none⟩ (v2)).setCell ⟨r, 3, none⟩ (v3)).setCell ⟨r, 4, none⟩ (v4)).setCell ⟨r, 5, none⟩ (v5)).setCell ⟨r, 6, none⟩ (v6)).setCell ⟨r, 7, none⟩ (v7)).setCell ⟨r, 8, none⟩ (v8)) g t c := (((((((h.setOther _ _ hne).setOther _ _ hne).setOther _ _ hne).setOther _ _ hne).setOther _ _ hne).setOther _ _ hne).setOther _ _ hne)
theorem puB_below {a w : World} {r B : Nat} (h : Below B a w) (hg : B ≤ r) (v2 v3 v4 v5 v6 v7 v8 : Value) : Below B a ((((((((w).setCell ⟨r, 2, none⟩ (v2)).setCell ⟨r, 3, none⟩ (v3)).setCell ⟨r, 4, none⟩ (v4)).setCell ⟨r, 5, none⟩ (v5)).setCell ⟨r, 6, none⟩ (v6)).setCell ⟨r, 7, none⟩ (v7)).setCell ⟨r, 8, none⟩ (v8)) := (((((((h.setCell hg _).setCell hg _).setCell hg _).setCell hg _).setCell hg _).setCell hg _).setCell hg _)
theorem puC_box {w : World} {r : Nat} {t : TypeId} {x0 x1 x2 x3 x4 x5 x6 x7 x8 x9 : Value} (h : Box w r t #[x0, x1, x2, x3, x4, x5, x6, x7, x8, x9]) (v9 : Value) : Box ((w).setCell ⟨r, 9, none⟩ (v9)) r t #[x0, x1, x2, x3, x4, x5, x6, x7, x8, v9] := by
  have k := (h.set 9 v9)
  simpa using k
theorem puC_other {w : World} {r g : Nat} {t : TypeId} {c : Array Value} (h : Box w g t c) (hne : g ≠ r) (v9 : Value) : Box ((w).setCell ⟨r, 9, none⟩ (v9)) g t c := (h.setOther _ _ hne)
theorem puC_below {a w : World} {r B : Nat} (h : Below B a w) (hg : B ≤ r) (v9 : Value) : Below B a ((w).setCell ⟨r, 9, none⟩ (v9)) := (h.setCell hg _)
theorem puD_box {w : World} {r : Nat} {t : TypeId} {x0 x1 x2 x3 x4 x5 x6 x7 x8 x9 : Value} (h : Box w r t #[x0, x1, x2, x3, x4, x5, x6, x7, x8, x9]) (v0 v1 v2 v3 v4 v5 v6 v7 v8 v9 : Value) : Box (((((((((((w).setCell ⟨r, 0, none⟩ (v0)).setCell ⟨r, 1, none⟩ (v1)).setCell ⟨r, 2, none⟩ (v2)).setCell ⟨r, 3, none⟩ (v3)).setCell ⟨r, 4, none⟩ (v4)).setCell ⟨r, 5, none⟩ (v5)).setCell ⟨r, 6, none⟩ (v6)).setCell ⟨r, 7, none⟩ (v7)).setCell ⟨r, 8, none⟩ (v8)).setCell ⟨r, 9, none⟩ (v9)) r t #[v0, v1, v2, v3, v4, v5, v6, v7, v8, v9] := by
  have k := ((((((((((h.set 0 v0).set 1 v1).set 2 v2).set 3 v3).set 4 v4).set 5 v5).set 6 v6).set 7 v7).set 8 v8).set 9 v9)
  simpa using k
theorem puD_other {w : World} {r g : Nat} {t : TypeId} {c : Array Value} (h : Box w g t c) (hne : g ≠ r) (v0 v1 v2 v3 v4 v5 v6 v7 v8 v9 : Value) : Box (((((((((((w).setCell ⟨r, 0, none⟩ (v0)).setCell ⟨r, 1, none⟩ (v1)).setCell ⟨r, 2, none⟩ (v2)).setCell ⟨r, 3, none⟩ (v3)).setCell ⟨r, 4, none⟩ (v4)).setCell ⟨r, 5, none⟩ (v5)).setCell ⟨r, 6, none⟩ (v6)).setCell ⟨r, 7, none⟩ (v7)).setCell ⟨r, 8, none⟩ (v8)).setCell ⟨r, 9, none⟩ (v9)) g t c := ((((((((((h.setOther _ _ hne).setOther _ _ hne).setOther _ _ hne).setOther _ _ hne).setOther _ _ hne).setOther _ _ hne).setOther _ _ hne).setOther _ _ hne).setOther _ _ hne).setOther _ _ hne)
theorem puD_below {a w : World} {r B : Nat} (h : Below B a w) (hg : B ≤ r) (v0 v1 v2 v3 v4 v5 v6 v7 v8 v9 : Value) : Below B a (((((((((((w).setCell ⟨r, 0, none⟩ (v0)).setCell ⟨r, 1, none⟩ (v1)).setCell ⟨r, 2, none⟩ (v2)).setCell ⟨r, 3, none⟩ (v3)).setCell ⟨r, 4, none⟩ (v4)).setCell ⟨r, 5, none⟩ (v5)).setCell ⟨r, 6, none⟩ (v6)).setCell ⟨r, 7, none⟩ (v7)).setCell ⟨r, 8, none⟩ (v8)).setCell ⟨r, 9, none⟩ (v9)) := ((((((((((h.setCell hg _).setCell hg _).setCell hg _).setCell hg _).setCell hg _).setCell hg _).setCell hg _).setCell hg _).setCell hg _).setCell hg _)
theorem loadVar10 {w : World} {r : Nat} {v0 v1 v2 v3 v4 v5 v6 v7 v8 v9 : Value} (hb : Box w r 42 #[v0, v1, v2, v3, v4, v5, v6, v7, v8, v9]) : (loadVar 42 ⟨r, 0, none⟩).run Try.prog w = .ok (.agg #[v0, v1, v2, v3, v4, v5, v6, v7, v8, v9]) w := by
  obtain ⟨x0, x1, x2, x3, x4, x5, x6, x7, x8, x9⟩ := box10 hb
  simp [go_sem, x0, x1, x2, x3, x4, x5, x6, x7, x8, x9]
theorem ret10 {fn : Func} {p : Tmp} (h : fn.results = #[.cell p 42]) {R : Ending → World → Prop} {a : Act} {w : World} {r : Nat} {v0 v1 v2 v3 v4 v5 v6 v7 v8 v9 : Value} (hp : a.tmps.getD p undef = .pointer (some ⟨r, 0, none⟩)) (hd : a.defers = []) (hb : Box w r 42 #[v0, v1, v2, v3, v4, v5, v6, v7, v8, v9]) (hR : R (.returned (.agg #[v0, v1, v2, v3, v4, v5, v6, v7, v8, v9])) w) : bodyPost Try.prog fn R .ret a w := by
  refine bodyPost_ret ?_ hd hR
  have hp' : a.tmps[p]?.getD undef = .pointer (some ⟨r, 0, none⟩) := by simpa using hp
  simp only [results, h]
  simp [hp', asAddr, loadVar10 hb]
set_option maxRecDepth 100000 in
set_option maxHeartbeats 40000000 in
theorem c_toC1 (se tb i a b : Int) (t : ByteArray) (p q : Int) (z : ByteArray) (g : Bool) (w : World) : Calls Try.prog 21 #[.agg #[.int .i64 se, .int .i64 tb, .int .i64 i, .int .i64 a, .int .i64 b, .string t, .int .i64 p, .int .i64 q, .string z, .bool g]] w fun e w' => e = .returned (.agg #[.int .i64 se, .int .i64 tb, .int .i64 i, .int .i64 a, .int .i64 b, .string t, .int .i64 p, .int .i64 q, .string z, .bool g]) ∧ Below w.heap.size w w' := by
  obtain ⟨V0, hV0⟩ : ∃ V, w.alloc (.cells #[.int .i64 se, .int .i64 tb, .int .i64 i, .int .i64 a, .int .i64 b, .string t, .int .i64 p, .int .i64 q, .string z, .bool g] 49) = V := ⟨_, rfl⟩
  obtain ⟨V1, hV1⟩ : ∃ V, V0.alloc (.cells #[.int .i64 0, .int .i64 0, .int .i64 0, .int .i64 0, .int .i64 0, .string ⟨#[]⟩, .int .i64 0, .int .i64 0, .string ⟨#[]⟩, .bool false] 42) = V := ⟨_, rfl⟩
  obtain ⟨V, hV⟩ : ∃ V, V1.alloc (.cells #[.int .i64 0, .int .i64 0, .int .i64 0, .int .i64 0, .int .i64 0, .string ⟨#[]⟩, .int .i64 0, .int .i64 0, .string ⟨#[]⟩, .bool false] 42) = V := ⟨_, rfl⟩
  have hb0 : Below w.heap.size w V0 := by rw [← hV0]; exact (Below.refl _ _).alloc (Nat.le_refl _) _
  have hb1 : Below V0.heap.size V0 V1 := by rw [← hV1]; exact (Below.refl _ _).alloc (Nat.le_refl _) _
  have hb2 : Below V1.heap.size V1 V := by rw [← hV]; exact (Below.refl _ _).alloc (Nat.le_refl _) _
  have X : Hid (Box V w.heap.size 49 #[.int .i64 se, .int .i64 tb, .int .i64 i, .int .i64 a, .int .i64 b, .string t, .int .i64 p, .int .i64 q, .string z, .bool g]) := ((show Box V0 w.heap.size 49 #[.int .i64 se, .int .i64 tb, .int .i64 i, .int .i64 a, .int .i64 b, .string t, .int .i64 p, .int .i64 q, .string z, .bool g] by rw [← hV0]; exact Box.new _ _ _).belowS hb1).belowS hb2
  have Y : Hid (Box V V0.heap.size 42 #[.int .i64 0, .int .i64 0, .int .i64 0, .int .i64 0, .int .i64 0, .string ⟨#[]⟩, .int .i64 0, .int .i64 0, .string ⟨#[]⟩, .bool false]) := (show Box V1 V0.heap.size 42 #[.int .i64 0, .int .i64 0, .int .i64 0, .int .i64 0, .int .i64 0, .string ⟨#[]⟩, .int .i64 0, .int .i64 0, .string ⟨#[]⟩, .bool false] by rw [← hV1]; exact Box.new _ _ _).belowS hb2
  have Z : Hid (Box V V1.heap.size 42 #[.int .i64 0, .int .i64 0, .int .i64 0, .int .i64 0, .int .i64 0, .string ⟨#[]⟩, .int .i64 0, .int .i64 0, .string ⟨#[]⟩, .bool false]) := by unfold Hid; rw [← hV]; exact Box.new _ _ _
  have BV : Hid (Below w.heap.size w V) := hb0.trans ((hb1.trans (hb2.mono hb1.size)).mono hb0.size)
  have l0 : w.heap.size < V0.heap.size := by rw [← hV0]; simp
  have l1 : V0.heap.size < V1.heap.size := by rw [← hV1]; simp
  obtain ⟨x0, x1, x2, x3, x4, x5, x6, x7, x8, x9⟩ := box10 X.out
  obtain ⟨z0, z1, z2, z3, z4, z5, z6, z7, z8, z9⟩ := box10 Z.out
  obtain ⟨t0, t1, t2, t3, t4, t5, t6, t7, t8, t9⟩ := thaw10 Z.out
  obtain ⟨wz, hwz⟩ : ∃ Q, ((((V).setCell ⟨V1.heap.size, 0, none⟩ (.int .i64 se))).setCell ⟨V1.heap.size, 1, none⟩ (.int .i64 tb)) = Q := ⟨_, rfl⟩
  have X1 : Hid (Box wz w.heap.size 49 #[.int .i64 se, .int .i64 tb, .int .i64 i, .int .i64 a, .int .i64 b, .string t, .int .i64 p, .int .i64 q, .string z, .bool g]) := by unfold Hid; rw [← hwz]; exact puA_other X.out (by omega) _ _
  have Y1 : Hid (Box wz V0.heap.size 42 #[.int .i64 0, .int .i64 0, .int .i64 0, .int .i64 0, .int .i64 0, .string ⟨#[]⟩, .int .i64 0, .int .i64 0, .string ⟨#[]⟩, .bool false]) := by unfold Hid; rw [← hwz]; exact puA_other Y.out (by omega) _ _
  have Z1 : Hid (Box wz V1.heap.size 42 #[.int .i64 se, .int .i64 tb, .int .i64 0, .int .i64 0, .int .i64 0, .string ⟨#[]⟩, .int .i64 0, .int .i64 0, .string ⟨#[]⟩, .bool false]) := by unfold Hid; rw [← hwz]; exact puA_box Z.out _ _
  have B1 : Hid (Below w.heap.size w wz) := by unfold Hid; rw [← hwz]; exact puA_below BV.out (by omega) _ _
  have k2 : wz.cell? ⟨w.heap.size, 2, none⟩ = some (.int .i64 i) := X1.out.cell 2
  have k3 : wz.cell? ⟨w.heap.size, 3, none⟩ = some (.int .i64 a) := X1.out.cell 3
  have k4 : wz.cell? ⟨w.heap.size, 4, none⟩ = some (.int .i64 b) := X1.out.cell 4
  have k5 : wz.cell? ⟨w.heap.size, 5, none⟩ = some (.string t) := X1.out.cell 5
  have k6 : wz.cell? ⟨w.heap.size, 6, none⟩ = some (.int .i64 p) := X1.out.cell 6
  have k7 : wz.cell? ⟨w.heap.size, 7, none⟩ = some (.int .i64 q) := X1.out.cell 7
  have k8 : wz.cell? ⟨w.heap.size, 8, none⟩ = some (.string z) := X1.out.cell 8
  clear hb0 hb1 hb2
  go_enter Try.func21, Try.ntmps21
  go_wp2_with fail
  refine (c_toRow i (a, b, t) (p, q, z) _).mono ?_
  rintro e w1 ⟨rfl, hb⟩

  have X2 : Hid (Box w1 w.heap.size 49 #[.int .i64 se, .int .i64 tb, .int .i64 i, .int .i64 a, .int .i64 b, .string t, .int .i64 p, .int .i64 q, .string z, .bool g]) := X1.out.belowS hb
  have Y2 : Hid (Box w1 V0.heap.size 42 #[.int .i64 0, .int .i64 0, .int .i64 0, .int .i64 0, .int .i64 0, .string ⟨#[]⟩, .int .i64 0, .int .i64 0, .string ⟨#[]⟩, .bool false]) := Y1.out.belowS hb
  have Z2 : Hid (Box w1 V1.heap.size 42 #[.int .i64 se, .int .i64 tb, .int .i64 0, .int .i64 0, .int .i64 0, .string ⟨#[]⟩, .int .i64 0, .int .i64 0, .string ⟨#[]⟩, .bool false]) := Z1.out.belowS hb
  have B2 : Hid (Below w.heap.size w w1) := B1.out.trans (hb.mono B1.out.size)
  clear hb X Y Z BV X1 Y1 Z1 B1 hV hV0 hV1 hwz k2 k3 k4 k5 k6 k7 k8 x0 x1 x2 x3 x4 x5 x6 x7 x8 x9 z0 z1 z2 z3 z4 z5 z6 z7 z8 z9 t0 t1 t2 t3 t4 t5 t6 t7 t8 t9
  obtain ⟨wa, hwa⟩ : ∃ Q, ((((((((((((((w1).setCell ⟨V1.heap.size, 2, none⟩ (.int .i64 i))).setCell ⟨V1.heap.size, 3, none⟩ (.int .i64 a))).setCell ⟨V1.heap.size, 4, none⟩ (.int .i64 b))).setCell ⟨V1.heap.size, 5, none⟩ (.string t))).setCell ⟨V1.heap.size, 6, none⟩ (.int .i64 p))).setCell ⟨V1.heap.size, 7, none⟩ (.int .i64 q))).setCell ⟨V1.heap.size, 8, none⟩ (.string z)) = Q := ⟨_, rfl⟩
  have X3 : Hid (Box wa w.heap.size 49 #[.int .i64 se, .int .i64 tb, .int .i64 i, .int .i64 a, .int .i64 b, .string t, .int .i64 p, .int .i64 q, .string z, .bool g]) := by unfold Hid; rw [← hwa]; exact puB_other X2.out (by omega) _ _ _ _ _ _ _
  have Y3 : Hid (Box wa V0.heap.size 42 #[.int .i64 0, .int .i64 0, .int .i64 0, .int .i64 0, .int .i64 0, .string ⟨#[]⟩, .int .i64 0, .int .i64 0, .string ⟨#[]⟩, .bool false]) := by unfold Hid; rw [← hwa]; exact puB_other Y2.out (by omega) _ _ _ _ _ _ _
  have Z3 : Hid (Box wa V1.heap.size 42 #[.int .i64 se, .int .i64 tb, .int .i64 i, .int .i64 a, .int .i64 b, .string t, .int .i64 p, .int .i64 q, .string z, .bool false]) := by unfold Hid; rw [← hwa]; exact puB_box Z2.out _ _ _ _ _ _ _
  have B3 : Hid (Below w.heap.size w wa) := by unfold Hid; rw [← hwa]; exact puB_below B2.out (by omega) _ _ _ _ _ _ _
  have z9' : wa.cell? ⟨V1.heap.size, 9, none⟩ = some (.bool false) := Z3.out.cell 9
  have t9' := Z3.out.thaw 9
  have x9' : wa.cell? ⟨w.heap.size, 9, none⟩ = some (.bool g) := X3.out.cell 9
  obtain ⟨wb, hwb⟩ : ∃ Q, wa.setCell ⟨V1.heap.size, 9, none⟩ (.bool g) = Q := ⟨_, rfl⟩
  have Y4 : Hid (Box wb V0.heap.size 42 #[.int .i64 0, .int .i64 0, .int .i64 0, .int .i64 0, .int .i64 0, .string ⟨#[]⟩, .int .i64 0, .int .i64 0, .string ⟨#[]⟩, .bool false]) := by unfold Hid; rw [← hwb]; exact puC_other Y3.out (by omega) _
  have Z4 : Hid (Box wb V1.heap.size 42 #[.int .i64 se, .int .i64 tb, .int .i64 i, .int .i64 a, .int .i64 b, .string t, .int .i64 p, .int .i64 q, .string z, .bool g]) := by unfold Hid; rw [← hwb]; exact puC_box Z3.out _
  have B4 : Hid (Below w.heap.size w wb) := by unfold Hid; rw [← hwb]; exact puC_below B3.out (by omega) _
  obtain ⟨z0, z1, z2, z3, z4, z5, z6, z7, z8, z9⟩ := box10 Z2.out
  obtain ⟨t0, t1, t2, t3, t4, t5, t6, t7, t8, t9⟩ := thaw10 Z2.out
  obtain ⟨a0, a1, a2, a3, a4, a5, a6, a7, a8, a9⟩ := box10 Z4.out
  obtain ⟨y0, y1, y2, y3, y4, y5, y6, y7, y8, y9⟩ := box10 Y4.out
  obtain ⟨s0, s1, s2, s3, s4, s5, s6, s7, s8, s9⟩ := thaw10 Y4.out
  clear X2 X3 Y2 Y3 Z2 Z3 B2 B3 Z4
  go_wp2
  exact ret10 Try.results21 rfl rfl (puD_box Y4.out _ _ _ _ _ _ _ _ _ _) ⟨rfl, puD_below B4.out (by omega) _ _ _ _ _ _ _ _ _ _⟩

end Go.Proofs.Ytiobobocjokgiaa
