/-
  Lists of records: what they read as, and comparisons of what is alike.
-/
import Derived.Test.YtimdoaehlciecaaRc
import Derived.Test.YtimdoaehlciecaaRs
import Derived.Deep.RegionHeld3
namespace Go.Proofs.Ytimdoaehlciecaa
open Go Go.RowKit
attribute [local go_sem ↓] Go.wp_at_zero Go.wp_at_succ

def cQ (v : DR) : List Value := [.int .i64 v.e, .int .i64 v.l, .int .i64 v.t, .int .i64 v.k, .int .i64 v.p, .int .i64 v.n, .int .i64 v.g, .int .i64 v.s, .string v.b, .string v.a]
def cellsQ (vs : List DR) : List Value := vs.flatMap cQ
theorem cellsQ_len (vs : List DR) : (cellsQ vs).length = vs.length * 10 := by
  induction vs with
  | nil => rfl
  | cons v vs ih => rw [show cellsQ (v :: vs) = cQ v ++ cellsQ vs from rfl, List.length_append, ih, List.length_cons]; simp only [cQ, List.length_cons, List.length_nil]; omega
theorem cellsQ_get : ∀ (vs : List DR) (i : Nat), i < vs.length → ∀ j, j < 10 → (cellsQ vs)[i * 10 + j]? = (cQ (vs.getD i zeroR))[j]?
  | v :: vs, 0, _, j, hj => by
    rw [show cellsQ (v :: vs) = cQ v ++ cellsQ vs from rfl, List.getElem?_append_left (by simp [cQ]; omega)]
    simp
  | v :: vs, i + 1, h, j, hj => by
    have ih := cellsQ_get vs i (by simpa using h) j hj
    rw [show cellsQ (v :: vs) = cQ v ++ cellsQ vs from rfl, List.getElem?_append_right (by simp [cQ]; omega), show (i + 1) * 10 + j - (cQ v).length = i * 10 + j by simp [cQ]; omega, ih]
    rfl
theorem cellsQ_append (us vs : List DR) : cellsQ (us ++ vs) = cellsQ us ++ cellsQ vs := by unfold cellsQ; rw [List.flatMap_append]
def setQ (L : List Value) (o : Nat) (v : DR) : List Value := (((((((((L.set o (.int .i64 v.e)).set (o + 1) (.int .i64 v.l)).set (o + 2) (.int .i64 v.t)).set (o + 3) (.int .i64 v.k)).set (o + 4) (.int .i64 v.p)).set (o + 5) (.int .i64 v.n)).set (o + 6) (.int .i64 v.g)).set (o + 7) (.int .i64 v.s)).set (o + 8) (.string v.b)).set (o + 9) (.string v.a)
theorem setQ_cons (x : Value) (L : List Value) (o : Nat) (v : DR) : setQ (x :: L) (o + 1) v = x :: setQ L o v := rfl
theorem cellsQ_set : ∀ (vs : List DR) (i : Nat) (v : DR), i < vs.length → setQ (cellsQ vs) (i * 10) v = cellsQ (vs.set i v)
  | u :: vs, 0, v, _ => rfl
  | u :: vs, i + 1, v, h => by
    have ih := cellsQ_set vs i v (by simpa using h)
    rw [show cellsQ (u :: vs) = .int .i64 u.e :: .int .i64 u.l :: .int .i64 u.t :: .int .i64 u.k :: .int .i64 u.p :: .int .i64 u.n :: .int .i64 u.g :: .int .i64 u.s :: .string u.b :: .string u.a :: cellsQ vs from rfl, show (i + 1) * 10 = i * 10 + 1 + 1 + 1 + 1 + 1 + 1 + 1 + 1 + 1 + 1 by omega]
    rw [setQ_cons, setQ_cons, setQ_cons, setQ_cons, setQ_cons, setQ_cons, setQ_cons, setQ_cons, setQ_cons, setQ_cons, ih]
    rfl
/-- The slice at a reads as the records vs. -/
def RdQ (w : World) (a : Option Addr) (n : Nat) (vs : List DR) : Prop :=
  vs.length = n ∧ (0 < n → ∃ b off, a = some ⟨b, off, none⟩ ∧ b < w.heap.size ∧ ∀ i, i < n → ∀ j, j < 10 → w.cell? ⟨b, off + i * 10 + j, none⟩ = (cQ (vs.getD i zeroR))[j]?)
theorem RdQ.below {w w' : World} {a : Option Addr} {n : Nat} {vs : List DR} (h : RdQ w a n vs) (hb : Below w.heap.size w w') : RdQ w' a n vs := by
  obtain ⟨h1, h3⟩ := h
  refine ⟨h1, fun hn => ?_⟩
  obtain ⟨b, off, e, hlt, hc⟩ := h3 hn
  refine ⟨b, off, e, Nat.lt_of_lt_of_le hlt hb.size, fun i hi j hj => ?_⟩
  rw [hb.cell (p := ⟨b, off + i * 10 + j, none⟩) hlt]
  exact hc i hi j hj
theorem RdQ.own {w : World} {base e n : Nat} {a : Option Addr} {m cap : Nat} {vs : List DR} (h : w.ownsRow base e 10 (.slice a m cap) n (cellsQ vs)) : RdQ w a m vs := by
  have hl : vs.length = n := by have := h.1; rw [cellsQ_len] at this; omega
  rcases h.2 with ⟨hv, h0⟩ | ⟨g, cap', cur, hv, hb, hg, hnc, hcm, hcs, htake⟩
  · simp only [Value.slice.injEq] at hv
    obtain ⟨rfl, rfl, rfl⟩ := hv
    exact ⟨by omega, fun h => absurd h (by omega)⟩
  · simp only [Value.slice.injEq] at hv
    obtain ⟨rfl, rfl, rfl⟩ := hv
    refine ⟨hl, fun _ => ⟨g, 0, rfl, ?_, fun i hi j hj => ?_⟩⟩
    · rcases Nat.lt_or_ge g w.heap.size with h1 | h1
      · exact h1
      · rw [Array.getElem?_eq_none h1] at hg; cases hg
    · rw [Nat.zero_add, h.cellAt (i * 10 + j) (by omega)]
      exact cellsQ_get vs i (by omega) j hj
theorem RdQ.at {w : World} {b off n : Nat} {vs : List DR} {i : Nat} (hc : ∀ i, i < n → ∀ j, j < 10 → w.cell? ⟨b, off + i * 10 + j, none⟩ = (cQ (vs.getD i zeroR))[j]?) (hi : i < n) {v : DR} (hv : v = vs.getD i zeroR) :
    w.cell? ⟨b, off + i * 10, none⟩ = some (.int .i64 v.e) ∧ w.cell? ⟨b, off + i * 10 + 1, none⟩ = some (.int .i64 v.l) ∧ w.cell? ⟨b, off + i * 10 + 2, none⟩ = some (.int .i64 v.t) ∧ w.cell? ⟨b, off + i * 10 + 3, none⟩ = some (.int .i64 v.k) ∧ w.cell? ⟨b, off + i * 10 + 4, none⟩ = some (.int .i64 v.p) ∧ w.cell? ⟨b, off + i * 10 + 5, none⟩ = some (.int .i64 v.n) ∧ w.cell? ⟨b, off + i * 10 + 6, none⟩ = some (.int .i64 v.g) ∧ w.cell? ⟨b, off + i * 10 + 7, none⟩ = some (.int .i64 v.s) ∧ w.cell? ⟨b, off + i * 10 + 8, none⟩ = some (.string v.b) ∧ w.cell? ⟨b, off + i * 10 + 9, none⟩ = some (.string v.a) := by
  subst hv
  exact ⟨hc i hi 0 (by omega), hc i hi 1 (by omega), hc i hi 2 (by omega), hc i hi 3 (by omega), hc i hi 4 (by omega), hc i hi 5 (by omega), hc i hi 6 (by omega), hc i hi 7 (by omega), hc i hi 8 (by omega), hc i hi 9 (by omega)⟩
set_option maxRecDepth 100000 in
set_option maxHeartbeats 4000000 in
theorem c_eqQ1 (e l t k p n g s : Int) (b a : ByteArray) (w : World) :
    Calls Try.prog 27 #[.agg #[.int .i64 e, .int .i64 l, .int .i64 t, .int .i64 k, .int .i64 p, .int .i64 n, .int .i64 g, .int .i64 s, .string b, .string a], .agg #[.int .i64 e, .int .i64 l, .int .i64 t, .int .i64 k, .int .i64 p, .int .i64 n, .int .i64 g, .int .i64 s, .string b, .string a]] w fun e' w' => e' = .returned (.bool true) ∧ Below w.heap.size w w' := by
  go_enter Try.func27, Try.ntmps27
  go_wp2
  go_ret
  exact ⟨rfl, ((Below.refl _ _).alloc (Nat.le_refl _) _).alloc (by simp) _⟩
set_option maxRecDepth 100000 in
set_option maxHeartbeats 8000000 in
theorem c_eqQ (a a' : Option Addr) (n cap cap' : Nat) (zs : List DR) (w : World) (hr : RdQ w a n zs) (hr' : RdQ w a' n zs) (hn : n ≤ 1048576) :
    Calls Try.prog 10 #[.slice a n cap, .slice a' n cap'] w fun e w' => e = .returned (.bool true) ∧ Below w.heap.size w w' := by
  obtain ⟨hl, hcs⟩ := hr
  obtain ⟨hl', hcs'⟩ := hr'
  go_enter Try.func10, Try.ntmps10
  go_wp2
  go_loopw [5] (fun i wr => ∃ k : Nat, k ≤ n ∧ i = .int .i64 k ∧ Below w.heap.size w wr) (fun i _ => n - (intOf i).toNat)
  case atStart => exact ⟨0, by omega, rfl, Below.refl _ _⟩
  case round =>
    obtain ⟨k, hk, rfl, hb⟩ := hrel
    by_cases hlt : k < n
    · obtain ⟨b, off, rfl, hbl, hc⟩ := hcs (by omega)
      obtain ⟨b', off', rfl, hbl', hc'⟩ := hcs' (by omega)
      obtain ⟨⟨ve, vl, vt, vk, vp, vn, vg, vs, vb, va⟩, hv⟩ : ∃ v, v = zs.getD k zeroR := ⟨_, rfl⟩
      obtain ⟨d0, d1, d2, d3, d4, d5, d6, d7, d8, d9⟩ := RdQ.at hc hlt hv
      obtain ⟨x0, x1, x2, x3, x4, x5, x6, x7, x8, x9⟩ := RdQ.at hc' hlt hv
      dsimp only at d0 d1 d2 d3 d4 d5 d6 d7 d8 d9 x0 x1 x2 x3 x4 x5 x6 x7 x8 x9
      have e0 : wr.cell? ⟨b, off + k * 10, none⟩ = some (.int .i64 ve) := by rw [hb.cell (p := ⟨b, off + k * 10, none⟩) hbl, d0]
      have e1 : wr.cell? ⟨b, off + k * 10 + 1, none⟩ = some (.int .i64 vl) := by rw [hb.cell (p := ⟨b, off + k * 10 + 1, none⟩) hbl, d1]
      have e2 : wr.cell? ⟨b, off + k * 10 + 2, none⟩ = some (.int .i64 vt) := by rw [hb.cell (p := ⟨b, off + k * 10 + 2, none⟩) hbl, d2]
      have e3 : wr.cell? ⟨b, off + k * 10 + 3, none⟩ = some (.int .i64 vk) := by rw [hb.cell (p := ⟨b, off + k * 10 + 3, none⟩) hbl, d3]
      have e4 : wr.cell? ⟨b, off + k * 10 + 4, none⟩ = some (.int .i64 vp) := by rw [hb.cell (p := ⟨b, off + k * 10 + 4, none⟩) hbl, d4]
      have e5 : wr.cell? ⟨b, off + k * 10 + 5, none⟩ = some (.int .i64 vn) := by rw [hb.cell (p := ⟨b, off + k * 10 + 5, none⟩) hbl, d5]
      have e6 : wr.cell? ⟨b, off + k * 10 + 6, none⟩ = some (.int .i64 vg) := by rw [hb.cell (p := ⟨b, off + k * 10 + 6, none⟩) hbl, d6]
      have e7 : wr.cell? ⟨b, off + k * 10 + 7, none⟩ = some (.int .i64 vs) := by rw [hb.cell (p := ⟨b, off + k * 10 + 7, none⟩) hbl, d7]
      have e8 : wr.cell? ⟨b, off + k * 10 + 8, none⟩ = some (.string vb) := by rw [hb.cell (p := ⟨b, off + k * 10 + 8, none⟩) hbl, d8]
      have e9 : wr.cell? ⟨b, off + k * 10 + 9, none⟩ = some (.string va) := by rw [hb.cell (p := ⟨b, off + k * 10 + 9, none⟩) hbl, d9]
      have y0 : wr.cell? ⟨b', off' + k * 10, none⟩ = some (.int .i64 ve) := by rw [hb.cell (p := ⟨b', off' + k * 10, none⟩) hbl', x0]
      have y1 : wr.cell? ⟨b', off' + k * 10 + 1, none⟩ = some (.int .i64 vl) := by rw [hb.cell (p := ⟨b', off' + k * 10 + 1, none⟩) hbl', x1]
      have y2 : wr.cell? ⟨b', off' + k * 10 + 2, none⟩ = some (.int .i64 vt) := by rw [hb.cell (p := ⟨b', off' + k * 10 + 2, none⟩) hbl', x2]
      have y3 : wr.cell? ⟨b', off' + k * 10 + 3, none⟩ = some (.int .i64 vk) := by rw [hb.cell (p := ⟨b', off' + k * 10 + 3, none⟩) hbl', x3]
      have y4 : wr.cell? ⟨b', off' + k * 10 + 4, none⟩ = some (.int .i64 vp) := by rw [hb.cell (p := ⟨b', off' + k * 10 + 4, none⟩) hbl', x4]
      have y5 : wr.cell? ⟨b', off' + k * 10 + 5, none⟩ = some (.int .i64 vn) := by rw [hb.cell (p := ⟨b', off' + k * 10 + 5, none⟩) hbl', x5]
      have y6 : wr.cell? ⟨b', off' + k * 10 + 6, none⟩ = some (.int .i64 vg) := by rw [hb.cell (p := ⟨b', off' + k * 10 + 6, none⟩) hbl', x6]
      have y7 : wr.cell? ⟨b', off' + k * 10 + 7, none⟩ = some (.int .i64 vs) := by rw [hb.cell (p := ⟨b', off' + k * 10 + 7, none⟩) hbl', x7]
      have y8 : wr.cell? ⟨b', off' + k * 10 + 8, none⟩ = some (.string vb) := by rw [hb.cell (p := ⟨b', off' + k * 10 + 8, none⟩) hbl', x8]
      have y9 : wr.cell? ⟨b', off' + k * 10 + 9, none⟩ = some (.string va) := by rw [hb.cell (p := ⟨b', off' + k * 10 + 9, none⟩) hbl', x9]
      have g1 : (0 : Int) ≤ (k : Int) := by omega
      have g2 : (k : Int) < (n : Int) := by omega
      have C : Hid (∀ wx, Calls Try.prog 27 #[.agg #[.int .i64 ve, .int .i64 vl, .int .i64 vt, .int .i64 vk, .int .i64 vp, .int .i64 vn, .int .i64 vg, .int .i64 vs, .string vb, .string va], .agg #[.int .i64 ve, .int .i64 vl, .int .i64 vt, .int .i64 vk, .int .i64 vp, .int .i64 vn, .int .i64 vg, .int .i64 vs, .string vb, .string va]] wx fun e w' => e = .returned (.bool true) ∧ Below wx.heap.size wx w') := fun wx => c_eqQ1 ve vl vt vk vp vn vg vs vb va wx
      clear hc hc' hcs hcs' hv d0 d1 d2 d3 d4 d5 d6 d7 d8 d9 x0 x1 x2 x3 x4 x5 x6 x7 x8 x9
      go_wp2_with fail
      go_region_held3 (fun x => x.cell? ⟨b, off + k * 10, none⟩ = some (.int .i64 ve) ∧ x.cell? ⟨b, off + k * 10 + 1, none⟩ = some (.int .i64 vl) ∧ x.cell? ⟨b, off + k * 10 + 2, none⟩ = some (.int .i64 vt) ∧ x.cell? ⟨b, off + k * 10 + 3, none⟩ = some (.int .i64 vk) ∧ x.cell? ⟨b, off + k * 10 + 4, none⟩ = some (.int .i64 vp) ∧ x.cell? ⟨b, off + k * 10 + 5, none⟩ = some (.int .i64 vn) ∧ x.cell? ⟨b, off + k * 10 + 6, none⟩ = some (.int .i64 vg) ∧ x.cell? ⟨b, off + k * 10 + 7, none⟩ = some (.int .i64 vs) ∧ x.cell? ⟨b, off + k * 10 + 8, none⟩ = some (.string vb) ∧ x.cell? ⟨b, off + k * 10 + 9, none⟩ = some (.string va) ∧ x.cell? ⟨b', off' + k * 10, none⟩ = some (.int .i64 ve) ∧ x.cell? ⟨b', off' + k * 10 + 1, none⟩ = some (.int .i64 vl) ∧ x.cell? ⟨b', off' + k * 10 + 2, none⟩ = some (.int .i64 vt) ∧ x.cell? ⟨b', off' + k * 10 + 3, none⟩ = some (.int .i64 vk) ∧ x.cell? ⟨b', off' + k * 10 + 4, none⟩ = some (.int .i64 vp) ∧ x.cell? ⟨b', off' + k * 10 + 5, none⟩ = some (.int .i64 vn) ∧ x.cell? ⟨b', off' + k * 10 + 6, none⟩ = some (.int .i64 vg) ∧ x.cell? ⟨b', off' + k * 10 + 7, none⟩ = some (.int .i64 vs) ∧ x.cell? ⟨b', off' + k * 10 + 8, none⟩ = some (.string vb) ∧ x.cell? ⟨b', off' + k * 10 + 9, none⟩ = some (.string va))
        (first | go_keep | (exact ⟨far6 hb3 e0, far6 hb3 e1, far6 hb3 e2, far6 hb3 e3, far6 hb3 e4, far6 hb3 e5, far6 hb3 e6, far6 hb3 e7, far6 hb3 e8, far6 hb3 e9, far6 hb3 y0, far6 hb3 y1, far6 hb3 y2, far6 hb3 y3, far6 hb3 y4, far6 hb3 y5, far6 hb3 y6, far6 hb3 y7, far6 hb3 y8, far6 hb3 y9⟩))
        (first | (go_at_call 27; refine (C.out _).mono ?_; rintro e w3 ⟨rfl, hb3⟩))
      have hb' : Below w.heap.size w w3 := hb.drew.trans (hb3.mono hb.size)
      clear hb3 e0 e1 e2 e3 e4 e5 e6 e7 e8 e9 y0 y1 y2 y3 y4 y5 y6 y7 y8 y9 C
      go_wp2
      go_roundw
      case rel => exact ⟨k + 1, by omega, by go_num, hb'⟩
      case measure => simp [intOf]; omega
    · have e : k = n := by omega
      subst e
      go_wp2
      go_ret
      exact ⟨rfl, hb⟩

end Go.Proofs.Ytimdoaehlciecaa
