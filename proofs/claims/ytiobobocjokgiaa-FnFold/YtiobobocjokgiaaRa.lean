/-
  Lists of rows: what they read as, sizes, copies, comparisons.
-/
import Derived.Test.YtiobobocjokgiaaSc
import Derived.Deep.RegionHeld3
import Derived.Deep.DrawnRows
namespace Go.Proofs.Ytiobobocjokgiaa
open Go Go.RowKit
attribute [local go_sem ↓] Go.wp_at_zero Go.wp_at_succ

structure RW where
  i : Int
  a : Int
  b : Int
  t : ByteArray
  p : Int
  q : Int
  z : ByteArray
def zeroR : RW := ⟨0, 0, 0, ⟨#[]⟩, 0, 0, ⟨#[]⟩⟩
def cR (v : RW) : List Value := [.int .i64 v.i, .int .i64 v.a, .int .i64 v.b, .string v.t, .int .i64 v.p, .int .i64 v.q, .string v.z]
def cellsR (vs : List RW) : List Value := vs.flatMap cR
theorem cellsR_len (vs : List RW) : (cellsR vs).length = vs.length * 7 := by
  induction vs with
  | nil => rfl
  | cons v vs ih => rw [show cellsR (v :: vs) = cR v ++ cellsR vs from rfl, List.length_append, ih, List.length_cons]; simp only [cR, List.length_cons, List.length_nil]; omega
theorem cellsR_get : ∀ (vs : List RW) (i : Nat), i < vs.length → ∀ j, j < 7 → (cellsR vs)[i * 7 + j]? = (cR (vs.getD i zeroR))[j]?
  | v :: vs, 0, _, j, hj => by
    rw [show cellsR (v :: vs) = cR v ++ cellsR vs from rfl, List.getElem?_append_left (by simp [cR]; omega)]
    simp
  | v :: vs, i + 1, h, j, hj => by
    have ih := cellsR_get vs i (by simpa using h) j hj
    rw [show cellsR (v :: vs) = cR v ++ cellsR vs from rfl, List.getElem?_append_right (by simp [cR]; omega), show (i + 1) * 7 + j - (cR v).length = i * 7 + j by simp [cR]; omega, ih]
    rfl
def setR (L : List Value) (o : Nat) (v : RW) : List Value := (((((((L).set (o) (.int .i64 v.i)).set (o + 1) (.int .i64 v.a)).set (o + 2) (.int .i64 v.b)).set (o + 3) (.string v.t)).set (o + 4) (.int .i64 v.p)).set (o + 5) (.int .i64 v.q)).set (o + 6) (.string v.z)
theorem setR_cons (x : Value) (L : List Value) (o : Nat) (v : RW) : setR (x :: L) (o + 1) v = x :: setR L o v := rfl
theorem cellsR_set : ∀ (vs : List RW) (i : Nat) (v : RW), i < vs.length → setR (cellsR vs) (i * 7) v = cellsR (vs.set i v)
  | u :: vs, 0, v, _ => rfl
  | u :: vs, i + 1, v, h => by
    have ih := cellsR_set vs i v (by simpa using h)
    rw [show cellsR (u :: vs) = .int .i64 u.i :: .int .i64 u.a :: .int .i64 u.b :: .string u.t :: .int .i64 u.p :: .int .i64 u.q :: .string u.z :: cellsR vs from rfl, show (i + 1) * 7 = i * 7 + 1 + 1 + 1 + 1 + 1 + 1 + 1 by omega]
    rw [setR_cons, setR_cons, setR_cons, setR_cons, setR_cons, setR_cons, setR_cons, ih]
    rfl
/-- The slice at a reads as the structs vs. -/
def RdR (w : World) (a : Option Addr) (n : Nat) (vs : List RW) : Prop :=
  vs.length = n ∧ (0 < n → ∃ b off, a = some ⟨b, off, none⟩ ∧ b < w.heap.size ∧ ∀ i, i < n → ∀ j, j < 7 → w.cell? ⟨b, off + i * 7 + j, none⟩ = (cR (vs.getD i zeroR))[j]?)
theorem RdR.below {w w' : World} {a : Option Addr} {n : Nat} {vs : List RW} (h : RdR w a n vs) (hb : Below w.heap.size w w') : RdR w' a n vs := by
  obtain ⟨h1, h3⟩ := h
  refine ⟨h1, fun hn => ?_⟩
  obtain ⟨b, off, e, hlt, hc⟩ := h3 hn
  refine ⟨b, off, e, Nat.lt_of_lt_of_le hlt hb.size, fun i hi j hj => ?_⟩
  rw [hb.cell (p := ⟨b, off + i * 7 + j, none⟩) hlt]
  exact hc i hi j hj
theorem RdR.own {w : World} {base e n : Nat} {a : Option Addr} {m cap : Nat} {vs : List RW} (h : w.ownsRow base e 7 (.slice a m cap) n (cellsR vs)) : RdR w a m vs := by
  have hl : vs.length = n := by have := h.1; rw [cellsR_len] at this; omega
  rcases h.2 with ⟨hv, h0⟩ | ⟨g, cap', cur, hv, hb, hg, hnc, hcm, hcs, htake⟩
  · simp only [Value.slice.injEq] at hv
    obtain ⟨rfl, rfl, rfl⟩ := hv
    exact ⟨by omega, fun h => absurd h (by omega)⟩
  · simp only [Value.slice.injEq] at hv
    obtain ⟨rfl, rfl, rfl⟩ := hv
    refine ⟨hl, fun _ => ⟨g, 0, rfl, ?_, fun i hi j hj => ?_⟩⟩
    · rcases Nat.lt_or_ge g w.heap.size with h1 | h1
      · exact h1
      · rw [Array.getElem?_eq_none h1] at hg; cases hg
    · rw [Nat.zero_add, h.cellAt (i * 7 + j) (by omega)]
      exact cellsR_get vs i (by omega) j hj
theorem RdR.at {w : World} {b off n : Nat} {vs : List RW} {i : Nat} (hc : ∀ i, i < n → ∀ j, j < 7 → w.cell? ⟨b, off + i * 7 + j, none⟩ = (cR (vs.getD i zeroR))[j]?) (hi : i < n) {v : RW} (hv : v = vs.getD i zeroR) :
    w.cell? ⟨b, off + i * 7, none⟩ = some (.int .i64 v.i) ∧ w.cell? ⟨b, off + i * 7 + 1, none⟩ = some (.int .i64 v.a) ∧ w.cell? ⟨b, off + i * 7 + 2, none⟩ = some (.int .i64 v.b) ∧ w.cell? ⟨b, off + i * 7 + 3, none⟩ = some (.string v.t) ∧ w.cell? ⟨b, off + i * 7 + 4, none⟩ = some (.int .i64 v.p) ∧ w.cell? ⟨b, off + i * 7 + 5, none⟩ = some (.int .i64 v.q) ∧ w.cell? ⟨b, off + i * 7 + 6, none⟩ = some (.string v.z) := by
  subst hv
  exact ⟨hc i hi 0 (by omega), hc i hi 1 (by omega), hc i hi 2 (by omega), hc i hi 3 (by omega), hc i hi 4 (by omega), hc i hi 5 (by omega), hc i hi 6 (by omega)⟩

set_option maxRecDepth 100000 in
set_option maxHeartbeats 4000000 in
theorem c_eqR1 (i a b : Int) (t : ByteArray) (p q : Int) (z : ByteArray) (w : World) : Calls Try.prog 25 #[.agg #[.int .i64 i, .int .i64 a, .int .i64 b, .string t, .int .i64 p, .int .i64 q, .string z], .agg #[.int .i64 i, .int .i64 a, .int .i64 b, .string t, .int .i64 p, .int .i64 q, .string z]] w fun e w' => e = .returned (.bool true) ∧ Below w.heap.size w w' := c_eqRow i (a, b, t) (p, q, z) w
set_option maxRecDepth 100000 in
set_option maxHeartbeats 4000000 in
theorem c_szR1 (i a b : Int) (t : ByteArray) (p q : Int) (z : ByteArray) (left : Int) (w : World) (hs : t.size ≤ maxLen ∧ z.size ≤ maxLen) (h0 : 0 ≤ left) (h1 : left ≤ 1048576) : Calls Try.prog 30 #[.agg #[.int .i64 i, .int .i64 a, .int .i64 b, .string t, .int .i64 p, .int .i64 q, .string z], .int .i64 left] w fun e w' => (∃ zz : Int, e = .returned (.int .i64 zz) ∧ zz ≤ left) ∧ Below w.heap.size w w' := c_szRowL i (a, b, t) (p, q, z) left w hs.1 hs.2 h0 h1
set_option maxRecDepth 100000 in
set_option maxHeartbeats 4000000 in
theorem c_toR1 (i a b : Int) (t : ByteArray) (p q : Int) (z : ByteArray) (w : World) : Calls Try.prog 32 #[.agg #[.int .i64 i, .int .i64 a, .int .i64 b, .string t, .int .i64 p, .int .i64 q, .string z]] w fun e w' => e = .returned (.agg #[.int .i64 i, .int .i64 a, .int .i64 b, .string t, .int .i64 p, .int .i64 q, .string z]) ∧ Below w.heap.size w w' := c_toRow i (a, b, t) (p, q, z) w
set_option maxRecDepth 100000 in
set_option maxHeartbeats 8000000 in
theorem c_eqR (a a' : Option Addr) (n cap cap' : Nat) (zs : List RW) (w : World) (hr : RdR w a n zs) (hr' : RdR w a' n zs) (hn : n ≤ 1048576) :
    Calls Try.prog 9 #[.slice a n cap, .slice a' n cap'] w fun e w' => e = .returned (.bool true) ∧ Below w.heap.size w w' := by
  obtain ⟨hl, hcs⟩ := hr
  obtain ⟨hl', hcs'⟩ := hr'
  go_enter Try.func9, Try.ntmps9
  go_wp2
  go_loopw [5] (fun i wr => ∃ k : Nat, k ≤ n ∧ i = .int .i64 k ∧ Below w.heap.size w wr) (fun i _ => n - (intOf i).toNat)
  case atStart => exact ⟨0, by omega, rfl, Below.refl _ _⟩
  case round =>
    obtain ⟨k, hk, rfl, hb⟩ := hrel
    by_cases hlt : k < n
    · obtain ⟨b, off, rfl, hbl, hc⟩ := hcs (by omega)
      obtain ⟨b', off', rfl, hbl', hc'⟩ := hcs' (by omega)
      obtain ⟨⟨vi, va, vb, vt, vp, vq, vz⟩, hv⟩ : ∃ v, v = zs.getD k zeroR := ⟨_, rfl⟩
      obtain ⟨d0, d1, d2, d3, d4, d5, d6⟩ := RdR.at hc hlt hv
      obtain ⟨x0, x1, x2, x3, x4, x5, x6⟩ := RdR.at hc' hlt hv
      dsimp only at d0 d1 d2 d3 d4 d5 d6 x0 x1 x2 x3 x4 x5 x6
      have e0 : wr.cell? ⟨b, off + k * 7, none⟩ = some (.int .i64 vi) := by rw [hb.cell (p := ⟨b, off + k * 7, none⟩) hbl, d0]
      have e1 : wr.cell? ⟨b, off + k * 7 + 1, none⟩ = some (.int .i64 va) := by rw [hb.cell (p := ⟨b, off + k * 7 + 1, none⟩) hbl, d1]
      have e2 : wr.cell? ⟨b, off + k * 7 + 2, none⟩ = some (.int .i64 vb) := by rw [hb.cell (p := ⟨b, off + k * 7 + 2, none⟩) hbl, d2]
      have e3 : wr.cell? ⟨b, off + k * 7 + 3, none⟩ = some (.string vt) := by rw [hb.cell (p := ⟨b, off + k * 7 + 3, none⟩) hbl, d3]
      have e4 : wr.cell? ⟨b, off + k * 7 + 4, none⟩ = some (.int .i64 vp) := by rw [hb.cell (p := ⟨b, off + k * 7 + 4, none⟩) hbl, d4]
      have e5 : wr.cell? ⟨b, off + k * 7 + 5, none⟩ = some (.int .i64 vq) := by rw [hb.cell (p := ⟨b, off + k * 7 + 5, none⟩) hbl, d5]
      have e6 : wr.cell? ⟨b, off + k * 7 + 6, none⟩ = some (.string vz) := by rw [hb.cell (p := ⟨b, off + k * 7 + 6, none⟩) hbl, d6]
      have y0 : wr.cell? ⟨b', off' + k * 7, none⟩ = some (.int .i64 vi) := by rw [hb.cell (p := ⟨b', off' + k * 7, none⟩) hbl', x0]
      have y1 : wr.cell? ⟨b', off' + k * 7 + 1, none⟩ = some (.int .i64 va) := by rw [hb.cell (p := ⟨b', off' + k * 7 + 1, none⟩) hbl', x1]
      have y2 : wr.cell? ⟨b', off' + k * 7 + 2, none⟩ = some (.int .i64 vb) := by rw [hb.cell (p := ⟨b', off' + k * 7 + 2, none⟩) hbl', x2]
      have y3 : wr.cell? ⟨b', off' + k * 7 + 3, none⟩ = some (.string vt) := by rw [hb.cell (p := ⟨b', off' + k * 7 + 3, none⟩) hbl', x3]
      have y4 : wr.cell? ⟨b', off' + k * 7 + 4, none⟩ = some (.int .i64 vp) := by rw [hb.cell (p := ⟨b', off' + k * 7 + 4, none⟩) hbl', x4]
      have y5 : wr.cell? ⟨b', off' + k * 7 + 5, none⟩ = some (.int .i64 vq) := by rw [hb.cell (p := ⟨b', off' + k * 7 + 5, none⟩) hbl', x5]
      have y6 : wr.cell? ⟨b', off' + k * 7 + 6, none⟩ = some (.string vz) := by rw [hb.cell (p := ⟨b', off' + k * 7 + 6, none⟩) hbl', x6]
      have g1 : (0 : Int) ≤ (k : Int) := by omega
      have g2 : (k : Int) < (n : Int) := by omega
      have C : Hid (∀ wx, Calls Try.prog 25 #[.agg #[.int .i64 vi, .int .i64 va, .int .i64 vb, .string vt, .int .i64 vp, .int .i64 vq, .string vz], .agg #[.int .i64 vi, .int .i64 va, .int .i64 vb, .string vt, .int .i64 vp, .int .i64 vq, .string vz]] wx fun e w' => e = .returned (.bool true) ∧ Below wx.heap.size wx w') := fun wx => c_eqR1 vi va vb vt vp vq vz wx
      clear hc hc' hcs hcs' hv d0 d1 d2 d3 d4 d5 d6 x0 x1 x2 x3 x4 x5 x6
      go_wp2_with fail
      go_region_held3 (fun x => x.cell? ⟨b, off + k * 7, none⟩ = some (.int .i64 vi) ∧ x.cell? ⟨b, off + k * 7 + 1, none⟩ = some (.int .i64 va) ∧ x.cell? ⟨b, off + k * 7 + 2, none⟩ = some (.int .i64 vb) ∧ x.cell? ⟨b, off + k * 7 + 3, none⟩ = some (.string vt) ∧ x.cell? ⟨b, off + k * 7 + 4, none⟩ = some (.int .i64 vp) ∧ x.cell? ⟨b, off + k * 7 + 5, none⟩ = some (.int .i64 vq) ∧ x.cell? ⟨b, off + k * 7 + 6, none⟩ = some (.string vz) ∧ x.cell? ⟨b', off' + k * 7, none⟩ = some (.int .i64 vi) ∧ x.cell? ⟨b', off' + k * 7 + 1, none⟩ = some (.int .i64 va) ∧ x.cell? ⟨b', off' + k * 7 + 2, none⟩ = some (.int .i64 vb) ∧ x.cell? ⟨b', off' + k * 7 + 3, none⟩ = some (.string vt) ∧ x.cell? ⟨b', off' + k * 7 + 4, none⟩ = some (.int .i64 vp) ∧ x.cell? ⟨b', off' + k * 7 + 5, none⟩ = some (.int .i64 vq) ∧ x.cell? ⟨b', off' + k * 7 + 6, none⟩ = some (.string vz))
        (first | go_keep | (exact ⟨far6 hb3 e0, far6 hb3 e1, far6 hb3 e2, far6 hb3 e3, far6 hb3 e4, far6 hb3 e5, far6 hb3 e6, far6 hb3 y0, far6 hb3 y1, far6 hb3 y2, far6 hb3 y3, far6 hb3 y4, far6 hb3 y5, far6 hb3 y6⟩))
        (first | (go_at_call 25; refine (C.out _).mono ?_; rintro e w3 ⟨rfl, hb3⟩))
      have hb' : Below w.heap.size w w3 := hb.drew.trans (hb3.mono hb.size)
      clear hb3 e0 e1 e2 e3 e4 e5 e6 y0 y1 y2 y3 y4 y5 y6 C
      go_wp2
      go_roundw
      case rel => exact ⟨k + 1, by omega, by go_num, hb'⟩
      case measure => simp [intOf]; omega
    · have e : k = n := by omega
      subst e
      go_wp2
      go_ret
      exact ⟨rfl, hb⟩
theorem made_zeroR (n : Nat) : (madeCells #[.int .i64 0, .int .i64 0, .int .i64 0, .string ⟨#[]⟩, .int .i64 0, .int .i64 0, .string ⟨#[]⟩] (n * 7)).toList = cellsR (List.replicate n zeroR) := by
  apply List.ext_getElem?
  intro j
  by_cases hj : j < n * 7
  · have h1 : (madeCells #[.int .i64 0, .int .i64 0, .int .i64 0, .string ⟨#[]⟩, .int .i64 0, .int .i64 0, .string ⟨#[]⟩] (n * 7)).toList[j]? = some ((#[.int .i64 0, .int .i64 0, .int .i64 0, .string ⟨#[]⟩, .int .i64 0, .int .i64 0, .string ⟨#[]⟩] : Array Value)[j % 7]!) := by
      simp [madeCells, hj]
    rw [h1]
    have hi : j / 7 < (List.replicate n zeroR).length := by simp; omega
    have hd : (List.replicate n zeroR).getD (j / 7) zeroR = zeroR := by rw [List.getD_eq_getElem?_getD, List.getElem?_eq_getElem hi]; simp
    have c := cellsR_get (List.replicate n zeroR) (j / 7) hi (j % 7) (by omega)
    rw [hd, show j / 7 * 7 + j % 7 = j by omega] at c
    rw [c]
    have hm : j % 7 < 7 := by omega
    generalize j % 7 = m at hm
    match m, hm with
    | 0, _ => rfl
    | 1, _ => rfl
    | 2, _ => rfl
    | 3, _ => rfl
    | 4, _ => rfl
    | 5, _ => rfl
    | 6, _ => rfl
  · rw [List.getElem?_eq_none (by simp [size_madeCells]; omega), List.getElem?_eq_none (by rw [cellsR_len]; simp; omega)]
theorem infoR : (Try.prog.info? 40).map (fun i => (i.zero, i.size, i.bytes)) = some (some (.agg #[.int .i64 0, .int .i64 0, .int .i64 0, .string ⟨#[]⟩, .int .i64 0, .int .i64 0, .string ⟨#[]⟩]), 7, 72) := by kernel_rfl
theorem own_putR {w : World} {base e g n cap : Nat} {vs : List RW} (h : w.ownsRow base e 7 (.slice (some ⟨g, 0, none⟩) n cap) n (cellsR vs)) (i : Nat) (v : RW) (hi : i < vs.length) :
    ((((((((w).setCell ⟨g, i * 7, none⟩ (.int .i64 v.i)).setCell ⟨g, i * 7 + 1, none⟩ (.int .i64 v.a)).setCell ⟨g, i * 7 + 2, none⟩ (.int .i64 v.b)).setCell ⟨g, i * 7 + 3, none⟩ (.string v.t)).setCell ⟨g, i * 7 + 4, none⟩ (.int .i64 v.p)).setCell ⟨g, i * 7 + 5, none⟩ (.int .i64 v.q)).setCell ⟨g, i * 7 + 6, none⟩ (.string v.z)).ownsRow base e 7 (.slice (some ⟨g, 0, none⟩) n cap) n (cellsR (vs.set i v)) := by
  have h0 := (h.stored (i * 7) (.int .i64 v.i)).1
  have h1 := (h0.stored (i * 7 + 1) (.int .i64 v.a)).1
  have h2 := (h1.stored (i * 7 + 2) (.int .i64 v.b)).1
  have h3 := (h2.stored (i * 7 + 3) (.string v.t)).1
  have h4 := (h3.stored (i * 7 + 4) (.int .i64 v.p)).1
  have h5 := (h4.stored (i * 7 + 5) (.int .i64 v.q)).1
  have h6 := (h5.stored (i * 7 + 6) (.string v.z)).1
  have := cellsR_set vs i v hi
  unfold setR at this
  rw [this] at h6
  exact h6
end Go.Proofs.Ytiobobocjokgiaa
