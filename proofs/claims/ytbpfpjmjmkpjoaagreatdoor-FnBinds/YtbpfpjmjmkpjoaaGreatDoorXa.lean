/-
  Lists of nodes of an expression: what they read as, sizes, copies, comparisons.
-/
import Derived.Test.YtbpfpjmjmkpjoaaGreatDoorBx
import Derived.Test.YtbpfpjmjmkpjoaaGreatDoorVal
import Derived.Deep.RegionHeld3
import Derived.Deep.DrawnRows
namespace Go.Proofs.YtbpfpjmjmkpjoaaGreatDoor
open Go Go.RowKit
attribute [local go_sem ↓] Go.wp_at_zero Go.wp_at_succ

def partA {α : Type} (d : α) (xs : List α) (n k : Nat) : List α := xs.take k ++ List.replicate (n - k) d
theorem partA_step {α : Type} (d : α) (xs : List α) (n k : Nat) (hz : xs.length = n) (hk : k < n) : (partA d xs n k).set k (xs.getD k d) = partA d xs n (k + 1) := by
  unfold partA
  have hl : (xs.take k).length = k := by simp; omega
  rw [List.set_append, if_neg (by omega), hl, Nat.sub_self]
  obtain ⟨m, hm⟩ : ∃ m, n - k = m + 1 := ⟨n - k - 1, by omega⟩
  have hm' : n - (k + 1) = m := by omega
  rw [hm, hm', List.replicate_succ, List.set_cons_zero, List.take_add_one, List.append_assoc, List.getD_eq_getElem?_getD, List.getElem?_eq_getElem (by omega)]
  rfl
theorem partA_len {α : Type} (d : α) (xs : List α) (n k : Nat) (hz : xs.length = n) (hk : k ≤ n) : (partA d xs n k).length = n := by unfold partA; simp; omega
theorem partA_full {α : Type} (d : α) (xs : List α) (n : Nat) (hz : xs.length = n) : partA d xs n n = xs := by
  unfold partA; rw [List.take_of_length_le (by omega), Nat.sub_self]; simp
theorem getD_ofX {α : Type} {Q : α → Prop} {vs : List α} {d : α} {k : Nat} (h : ∀ v ∈ vs, Q v) (hk : k < vs.length) : Q (vs.getD k d) := by
  rw [List.getD_eq_getElem?_getD, List.getElem?_eq_getElem hk]
  exact h _ (List.getElem_mem hk)
structure EN where
  o : Int
  a : Int
  b : Int
  c : Int
  k : Int
  n : Int
  t : ByteArray
def zeroE : EN := ⟨0, 0, 0, 0, 0, 0, ⟨#[]⟩⟩
def cE (v : EN) : List Value := [.int .i64 v.o, .int .i64 v.a, .int .i64 v.b, .int .i64 v.c, .int .i64 v.k, .int .i64 v.n, .string v.t]
def cellsE (vs : List EN) : List Value := vs.flatMap cE
theorem cellsE_len (vs : List EN) : (cellsE vs).length = vs.length * 7 := by
  induction vs with
  | nil => rfl
  | cons v vs ih => rw [show cellsE (v :: vs) = cE v ++ cellsE vs from rfl, List.length_append, ih, List.length_cons]; simp only [cE, List.length_cons, List.length_nil]; omega
theorem cellsE_get : ∀ (vs : List EN) (i : Nat), i < vs.length → ∀ j, j < 7 → (cellsE vs)[i * 7 + j]? = (cE (vs.getD i zeroE))[j]?
  | v :: vs, 0, _, j, hj => by
    rw [show cellsE (v :: vs) = cE v ++ cellsE vs from rfl, List.getElem?_append_left (by simp [cE]; omega)]
    simp
  | v :: vs, i + 1, h, j, hj => by
    have ih := cellsE_get vs i (by simpa using h) j hj
    rw [show cellsE (v :: vs) = cE v ++ cellsE vs from rfl, List.getElem?_append_right (by simp [cE]; omega), show (i + 1) * 7 + j - (cE v).length = i * 7 + j by simp [cE]; omega, ih]
    rfl
def setE (L : List Value) (o : Nat) (v : EN) : List Value := (((((((L).set (o) (.int .i64 v.o)).set (o + 1) (.int .i64 v.a)).set (o + 2) (.int .i64 v.b)).set (o + 3) (.int .i64 v.c)).set (o + 4) (.int .i64 v.k)).set (o + 5) (.int .i64 v.n)).set (o + 6) (.string v.t)
theorem setE_cons (x : Value) (L : List Value) (o : Nat) (v : EN) : setE (x :: L) (o + 1) v = x :: setE L o v := rfl
theorem cellsE_set : ∀ (vs : List EN) (i : Nat) (v : EN), i < vs.length → setE (cellsE vs) (i * 7) v = cellsE (vs.set i v)
  | u :: vs, 0, v, _ => rfl
  | u :: vs, i + 1, v, h => by
    have ih := cellsE_set vs i v (by simpa using h)
    rw [show cellsE (u :: vs) = .int .i64 u.o :: .int .i64 u.a :: .int .i64 u.b :: .int .i64 u.c :: .int .i64 u.k :: .int .i64 u.n :: .string u.t :: cellsE vs from rfl, show (i + 1) * 7 = i * 7 + 1 + 1 + 1 + 1 + 1 + 1 + 1 by omega]
    rw [setE_cons, setE_cons, setE_cons, setE_cons, setE_cons, setE_cons, setE_cons, ih]
    rfl
/-- The slice at a reads as the structs vs. -/
def RdE (w : World) (a : Option Addr) (n : Nat) (vs : List EN) : Prop :=
  vs.length = n ∧ (0 < n → ∃ b off, a = some ⟨b, off, none⟩ ∧ b < w.heap.size ∧ ∀ i, i < n → ∀ j, j < 7 → w.cell? ⟨b, off + i * 7 + j, none⟩ = (cE (vs.getD i zeroE))[j]?)
theorem RdE.below {w w' : World} {a : Option Addr} {n : Nat} {vs : List EN} (h : RdE w a n vs) (hb : Below w.heap.size w w') : RdE w' a n vs := by
  obtain ⟨h1, h3⟩ := h
  refine ⟨h1, fun hn => ?_⟩
  obtain ⟨b, off, e, hlt, hc⟩ := h3 hn
  refine ⟨b, off, e, Nat.lt_of_lt_of_le hlt hb.size, fun i hi j hj => ?_⟩
  rw [hb.cell (p := ⟨b, off + i * 7 + j, none⟩) hlt]
  exact hc i hi j hj
theorem RdE.own {w : World} {base e n : Nat} {a : Option Addr} {m cap : Nat} {vs : List EN} (h : w.ownsRow base e 7 (.slice a m cap) n (cellsE vs)) : RdE w a m vs := by
  have hl : vs.length = n := by have := h.1; rw [cellsE_len] at this; omega
  rcases h.2 with ⟨hv, h0⟩ | ⟨g, cap', cur, hv, hb, hg, hnc, hcm, hcs, htake⟩
  · simp only [Value.slice.injEq] at hv
    obtain ⟨rfl, rfl, rfl⟩ := hv
    exact ⟨by omega, fun h => absurd h (by omega)⟩
  · simp only [Value.slice.injEq] at hv
    obtain ⟨rfl, rfl, rfl⟩ := hv
    refine ⟨hl, fun _ => ⟨g, 0, rfl, ?_, fun i hi j hj => ?_⟩⟩
    · rcases Nat.lt_or_ge g w.heap.size with h1 | h1
      · exact h1
      · rw [Array.getElem?_eq_none h1] at hg; cases hg
    · rw [Nat.zero_add, h.cellAt (i * 7 + j) (by omega)]
      exact cellsE_get vs i (by omega) j hj
theorem RdE.at {w : World} {b off n : Nat} {vs : List EN} {i : Nat} (hc : ∀ i, i < n → ∀ j, j < 7 → w.cell? ⟨b, off + i * 7 + j, none⟩ = (cE (vs.getD i zeroE))[j]?) (hi : i < n) {v : EN} (hv : v = vs.getD i zeroE) :
    w.cell? ⟨b, off + i * 7, none⟩ = some (.int .i64 v.o) ∧ w.cell? ⟨b, off + i * 7 + 1, none⟩ = some (.int .i64 v.a) ∧ w.cell? ⟨b, off + i * 7 + 2, none⟩ = some (.int .i64 v.b) ∧ w.cell? ⟨b, off + i * 7 + 3, none⟩ = some (.int .i64 v.c) ∧ w.cell? ⟨b, off + i * 7 + 4, none⟩ = some (.int .i64 v.k) ∧ w.cell? ⟨b, off + i * 7 + 5, none⟩ = some (.int .i64 v.n) ∧ w.cell? ⟨b, off + i * 7 + 6, none⟩ = some (.string v.t) := by
  subst hv
  exact ⟨hc i hi 0 (by omega), hc i hi 1 (by omega), hc i hi 2 (by omega), hc i hi 3 (by omega), hc i hi 4 (by omega), hc i hi 5 (by omega), hc i hi 6 (by omega)⟩

set_option maxRecDepth 100000 in
set_option maxHeartbeats 4000000 in
theorem c_eqV1 (k n : Int) (t : ByteArray) (w : World) : Calls Tryz.prog 99 #[.agg #[.int .i64 k, .int .i64 n, .string t], .agg #[.int .i64 k, .int .i64 n, .string t]] w fun e w' => e = .returned (.bool true) ∧ Below w.heap.size w w' := by
  have e1 : (k != k) = false := by simp
  have e2 : (n != n) = false := by simp
  go_enter Tryz.func99, Tryz.ntmps99
  go_wp2
  go_ret
  exact ⟨rfl, ((Below.refl _ _).alloc (Nat.le_refl _) _).alloc (by simp) _⟩
set_option maxRecDepth 100000 in
set_option maxHeartbeats 4000000 in
theorem c_eqE1 (o a b c k n : Int) (t : ByteArray) (w : World) : Calls Tryz.prog 82 #[.agg #[.int .i64 o, .int .i64 a, .int .i64 b, .int .i64 c, .int .i64 k, .int .i64 n, .string t], .agg #[.int .i64 o, .int .i64 a, .int .i64 b, .int .i64 c, .int .i64 k, .int .i64 n, .string t]] w fun e w' => e = .returned (.bool true) ∧ Below w.heap.size w w' := by
  have e1 : (o != o) = false := by simp
  have e2 : (a != a) = false := by simp
  have e3 : (b != b) = false := by simp
  have e4 : (c != c) = false := by simp
  go_enter Tryz.func82, Tryz.ntmps82
  go_wp2_with fail
  refine (c_eqV1 _ _ _ _).mono ?_
  rintro e' w1 ⟨rfl, hb⟩
  have hq : Below w.heap.size w w1 := (((Below.refl w.heap.size w).alloc (Nat.le_refl _) _).alloc (by simp) _).trans (hb.mono (by simp; omega))
  clear hb
  go_wp2
  go_ret
  exact ⟨rfl, hq⟩
set_option maxRecDepth 100000 in
set_option maxHeartbeats 8000000 in
theorem c_eqE (a a' : Option Addr) (n cap cap' : Nat) (zs : List EN) (w : World) (hr : RdE w a n zs) (hr' : RdE w a' n zs) (hn : n ≤ 1048576) :
    Calls Tryz.prog 41 #[.slice a n cap, .slice a' n cap'] w fun e w' => e = .returned (.bool true) ∧ Below w.heap.size w w' := by
  obtain ⟨hl, hcs⟩ := hr
  obtain ⟨hl', hcs'⟩ := hr'
  go_enter Tryz.func41, Tryz.ntmps41
  go_wp2
  go_loopw [5] (fun i wr => ∃ k : Nat, k ≤ n ∧ i = .int .i64 k ∧ Below w.heap.size w wr) (fun i _ => n - (intOf i).toNat)
  case atStart => exact ⟨0, by omega, rfl, Below.refl _ _⟩
  case round =>
    obtain ⟨k, hk, rfl, hb⟩ := hrel
    by_cases hlt : k < n
    · obtain ⟨b, off, rfl, hbl, hc⟩ := hcs (by omega)
      obtain ⟨b', off', rfl, hbl', hc'⟩ := hcs' (by omega)
      obtain ⟨⟨vo, va, vb, vc, vk, vn, vt⟩, hv⟩ : ∃ v, v = zs.getD k zeroE := ⟨_, rfl⟩
      obtain ⟨d0, d1, d2, d3, d4, d5, d6⟩ := RdE.at hc hlt hv
      obtain ⟨x0, x1, x2, x3, x4, x5, x6⟩ := RdE.at hc' hlt hv
      dsimp only at d0 d1 d2 d3 d4 d5 d6 x0 x1 x2 x3 x4 x5 x6
      have e0 : wr.cell? ⟨b, off + k * 7, none⟩ = some (.int .i64 vo) := by rw [hb.cell (p := ⟨b, off + k * 7, none⟩) hbl, d0]
      have e1 : wr.cell? ⟨b, off + k * 7 + 1, none⟩ = some (.int .i64 va) := by rw [hb.cell (p := ⟨b, off + k * 7 + 1, none⟩) hbl, d1]
      have e2 : wr.cell? ⟨b, off + k * 7 + 2, none⟩ = some (.int .i64 vb) := by rw [hb.cell (p := ⟨b, off + k * 7 + 2, none⟩) hbl, d2]
      have e3 : wr.cell? ⟨b, off + k * 7 + 3, none⟩ = some (.int .i64 vc) := by rw [hb.cell (p := ⟨b, off + k * 7 + 3, none⟩) hbl, d3]
      have e4 : wr.cell? ⟨b, off + k * 7 + 4, none⟩ = some (.int .i64 vk) := by rw [hb.cell (p := ⟨b, off + k * 7 + 4, none⟩) hbl, d4]
      have e5 : wr.cell? ⟨b, off + k * 7 + 5, none⟩ = some (.int .i64 vn) := by rw [hb.cell (p := ⟨b, off + k * 7 + 5, none⟩) hbl, d5]
      have e6 : wr.cell? ⟨b, off + k * 7 + 6, none⟩ = some (.string vt) := by rw [hb.cell (p := ⟨b, off + k * 7 + 6, none⟩) hbl, d6]
      have y0 : wr.cell? ⟨b', off' + k * 7, none⟩ = some (.int .i64 vo) := by rw [hb.cell (p := ⟨b', off' + k * 7, none⟩) hbl', x0]
      have y1 : wr.cell? ⟨b', off' + k * 7 + 1, none⟩ = some (.int .i64 va) := by rw [hb.cell (p := ⟨b', off' + k * 7 + 1, none⟩) hbl', x1]
      have y2 : wr.cell? ⟨b', off' + k * 7 + 2, none⟩ = some (.int .i64 vb) := by rw [hb.cell (p := ⟨b', off' + k * 7 + 2, none⟩) hbl', x2]
      have y3 : wr.cell? ⟨b', off' + k * 7 + 3, none⟩ = some (.int .i64 vc) := by rw [hb.cell (p := ⟨b', off' + k * 7 + 3, none⟩) hbl', x3]
      have y4 : wr.cell? ⟨b', off' + k * 7 + 4, none⟩ = some (.int .i64 vk) := by rw [hb.cell (p := ⟨b', off' + k * 7 + 4, none⟩) hbl', x4]
      have y5 : wr.cell? ⟨b', off' + k * 7 + 5, none⟩ = some (.int .i64 vn) := by rw [hb.cell (p := ⟨b', off' + k * 7 + 5, none⟩) hbl', x5]
      have y6 : wr.cell? ⟨b', off' + k * 7 + 6, none⟩ = some (.string vt) := by rw [hb.cell (p := ⟨b', off' + k * 7 + 6, none⟩) hbl', x6]
      have g1 : (0 : Int) ≤ (k : Int) := by omega
      have g2 : (k : Int) < (n : Int) := by omega
      have C : Hid (∀ wx, Calls Tryz.prog 82 #[.agg #[.int .i64 vo, .int .i64 va, .int .i64 vb, .int .i64 vc, .int .i64 vk, .int .i64 vn, .string vt], .agg #[.int .i64 vo, .int .i64 va, .int .i64 vb, .int .i64 vc, .int .i64 vk, .int .i64 vn, .string vt]] wx fun e w' => e = .returned (.bool true) ∧ Below wx.heap.size wx w') := fun wx => c_eqE1 vo va vb vc vk vn vt wx
      clear hc hc' hcs hcs' hv d0 d1 d2 d3 d4 d5 d6 x0 x1 x2 x3 x4 x5 x6
      go_wp2_with fail
      go_region_held3 (fun x => x.cell? ⟨b, off + k * 7, none⟩ = some (.int .i64 vo) ∧ x.cell? ⟨b, off + k * 7 + 1, none⟩ = some (.int .i64 va) ∧ x.cell? ⟨b, off + k * 7 + 2, none⟩ = some (.int .i64 vb) ∧ x.cell? ⟨b, off + k * 7 + 3, none⟩ = some (.int .i64 vc) ∧ x.cell? ⟨b, off + k * 7 + 4, none⟩ = some (.int .i64 vk) ∧ x.cell? ⟨b, off + k * 7 + 5, none⟩ = some (.int .i64 vn) ∧ x.cell? ⟨b, off + k * 7 + 6, none⟩ = some (.string vt) ∧ x.cell? ⟨b', off' + k * 7, none⟩ = some (.int .i64 vo) ∧ x.cell? ⟨b', off' + k * 7 + 1, none⟩ = some (.int .i64 va) ∧ x.cell? ⟨b', off' + k * 7 + 2, none⟩ = some (.int .i64 vb) ∧ x.cell? ⟨b', off' + k * 7 + 3, none⟩ = some (.int .i64 vc) ∧ x.cell? ⟨b', off' + k * 7 + 4, none⟩ = some (.int .i64 vk) ∧ x.cell? ⟨b', off' + k * 7 + 5, none⟩ = some (.int .i64 vn) ∧ x.cell? ⟨b', off' + k * 7 + 6, none⟩ = some (.string vt))
        (first | go_keep | (exact ⟨far6 hb3 e0, far6 hb3 e1, far6 hb3 e2, far6 hb3 e3, far6 hb3 e4, far6 hb3 e5, far6 hb3 e6, far6 hb3 y0, far6 hb3 y1, far6 hb3 y2, far6 hb3 y3, far6 hb3 y4, far6 hb3 y5, far6 hb3 y6⟩))
        (first | (go_at_call 82; refine (C.out _).mono ?_; rintro e w3 ⟨rfl, hb3⟩))
      have hb' : Below w.heap.size w w3 := hb.drew.trans (hb3.mono hb.size)
      clear hb3 e0 e1 e2 e3 e4 e5 e6 y0 y1 y2 y3 y4 y5 y6 C
      go_wp2
      go_roundw
      case rel => exact ⟨k + 1, by omega, by go_num, hb'⟩
      case measure => simp [intOf]; omega
    · have e : k = n := by omega
      subst e
      go_wp2
      go_ret
      exact ⟨rfl, hb⟩
end Go.Proofs.YtbpfpjmjmkpjoaaGreatDoor
