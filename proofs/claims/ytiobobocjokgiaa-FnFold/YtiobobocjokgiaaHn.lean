/-
  Drawn changes; rows that are the same.
-/
import Derived.Test.YtiobobocjokgiaaHm
import Derived.Test.YtiobobocjokgiaaNd
import Derived.Test.YtiobobocjokgiaaZa
import Derived.Test.YtiobobocjokgiaaYq
import Derived.Deep.RegionHeld3
import Derived.Deep.QuietTactic
import Derived.BigQuiet
namespace Go.Proofs.Ytiobobocjokgiaa
open Go Go.RowKit
attribute [local go_sem ↓] Go.wp_at_zero Go.wp_at_succ

set_option linter.unusedVariables false
set_option linter.unusedSimpArgs false
def rowEq (x y : RW) : Bool := x.i == y.i && ((x.a == y.a && (x.b == y.b && x.t.toList == y.t.toList)) && (x.p == y.p && (x.q == y.q && x.z.toList == y.z.toList)))
theorem rowEq_self (x : RW) : rowEq x x = true := by simp [rowEq]
theorem eqR2 (xi xa xb : Int) (xt : ByteArray) (xp xq : Int) (xz : ByteArray) (yi ya yb : Int) (yt : ByteArray) (yp yq : Int) (yz : ByteArray) (W : World) : (Op.equalIn 10000 40 (.agg #[.int .i64 xi, .int .i64 xa, .int .i64 xb, .string xt, .int .i64 xp, .int .i64 xq, .string xz]) (.agg #[.int .i64 yi, .int .i64 ya, .int .i64 yb, .string yt, .int .i64 yp, .int .i64 yq, .string yz])).run Try.prog W = .ok (rowEq ⟨xi, xa, xb, xt, xp, xq, xz⟩ ⟨yi, ya, yb, yt, yp, yq, yz⟩) W := by
  simp [go_sem]
  repeat' split
  all_goals simp_all [rowEq]
theorem own_inn {w w' : World} {base e size n B E : Nat} {v : Value} {xs : List Value} (h : w.ownsRow base e size v n xs) (hi : Inn B E w w') (hb : E ≤ base) : w'.ownsRow base e size v n xs := by
  refine own_same h fun g hg => ?_
  rcases h.2 with ⟨h1, _⟩ | ⟨g', cap, cur, h1, h2, h3, _⟩
  · rw [h1] at hg; cases hg
  · rw [h1] at hg
    have e' : g' = g := Option.some.inj hg
    subst e'
    exact hi.block g' (Array.getElem?_eq_some_iff.1 h3).1 (.inr (by omega))
theorem nil_of_list {t : ByteArray} (h : t.toList = []) : t = ⟨#[]⟩ := by
  rw [ByteArray.toList_eq] at h
  cases t with
  | mk d => cases d with | mk l => simp at h; subst h; rfl
theorem valB_size {k n : Int} {t : ByteArray} (h : valB k n t = true) : t.size ≤ 10 := by
  unfold valB at h
  split at h
  · simp only [Bool.and_eq_true, List.isEmpty_iff] at h
    rw [nil_of_list h.2]; decide
  · split at h
    · simp only [Bool.and_eq_true, List.isEmpty_iff] at h
      rw [nil_of_list h.2]; decide
    · split at h
      · simp only [Bool.and_eq_true, wordB, decide_eq_true_eq] at h
        exact h.2.1
      · cases h
set_option maxRecDepth 100000 in
set_option maxHeartbeats 8000000 in
theorem c_same (a a' : Option Addr) (n cap cap' : Nat) (vs : List RW) (w : World) (hr : RdR w a n vs) (hr' : RdR w a' n vs) (hn : n ≤ 1048576) :
    Calls Try.prog 16 #[.slice a n cap, .slice a' n cap'] w fun e w' => e = .returned (.bool true) ∧ Below w.heap.size w w' := by
  obtain ⟨hl, hcs⟩ := hr
  obtain ⟨hl', hcs'⟩ := hr'
  go_enter Try.func16, Try.ntmps16
  go_wp2
  go_loopw [5] (fun i wr => ∃ k : Nat, k ≤ n ∧ i = .int .i64 k ∧ Below w.heap.size w wr) (fun i _ => n - (intOf i).toNat)
  case atStart => exact ⟨0, by omega, rfl, Below.refl _ _⟩
  case round =>
    obtain ⟨k, hk, rfl, hb⟩ := hrel
    by_cases hlt : k < n
    · obtain ⟨b, off, rfl, hbl, hc⟩ := hcs (by omega)
      obtain ⟨b', off', rfl, hbl', hc'⟩ := hcs' (by omega)
      obtain ⟨⟨vi, va, vb, vt, vp, vq, vz⟩, hv⟩ : ∃ v, v = vs.getD k zeroR := ⟨_, rfl⟩
      obtain ⟨d0, d1, d2, d3, d4, d5, d6⟩ := RdR.at hc hlt hv
      obtain ⟨x0, x1, x2, x3, x4, x5, x6⟩ := RdR.at hc' hlt hv
      dsimp only at d0 d1 d2 d3 d4 d5 d6 x0 x1 x2 x3 x4 x5 x6
      have e0 : wr.cell? ⟨b, off + k * 7, none⟩ = some (.int .i64 vi) := by rw [hb.cell (p := ⟨b, off + k * 7, none⟩) hbl, d0]
      have e1 : wr.cell? ⟨b, off + k * 7 + 1, none⟩ = some (.int .i64 va) := by rw [hb.cell (p := ⟨b, off + k * 7 + 1, none⟩) hbl, d1]
      have e2 : wr.cell? ⟨b, off + k * 7 + 2, none⟩ = some (.int .i64 vb) := by rw [hb.cell (p := ⟨b, off + k * 7 + 2, none⟩) hbl, d2]
      have e3 : wr.cell? ⟨b, off + k * 7 + 3, none⟩ = some (.string vt) := by rw [hb.cell (p := ⟨b, off + k * 7 + 3, none⟩) hbl, d3]
      have e4 : wr.cell? ⟨b, off + k * 7 + 4, none⟩ = some (.int .i64 vp) := by rw [hb.cell (p := ⟨b, off + k * 7 + 4, none⟩) hbl, d4]
      have e5 : wr.cell? ⟨b, off + k * 7 + 5, none⟩ = some (.int .i64 vq) := by rw [hb.cell (p := ⟨b, off + k * 7 + 5, none⟩) hbl, d5]
      have e6 : wr.cell? ⟨b, off + k * 7 + 6, none⟩ = some (.string vz) := by rw [hb.cell (p := ⟨b, off + k * 7 + 6, none⟩) hbl, d6]
      have y0 : wr.cell? ⟨b', off' + k * 7, none⟩ = some (.int .i64 vi) := by rw [hb.cell (p := ⟨b', off' + k * 7, none⟩) hbl', x0]
      have y1 : wr.cell? ⟨b', off' + k * 7 + 1, none⟩ = some (.int .i64 va) := by rw [hb.cell (p := ⟨b', off' + k * 7 + 1, none⟩) hbl', x1]
      have y2 : wr.cell? ⟨b', off' + k * 7 + 2, none⟩ = some (.int .i64 vb) := by rw [hb.cell (p := ⟨b', off' + k * 7 + 2, none⟩) hbl', x2]
      have y3 : wr.cell? ⟨b', off' + k * 7 + 3, none⟩ = some (.string vt) := by rw [hb.cell (p := ⟨b', off' + k * 7 + 3, none⟩) hbl', x3]
      have y4 : wr.cell? ⟨b', off' + k * 7 + 4, none⟩ = some (.int .i64 vp) := by rw [hb.cell (p := ⟨b', off' + k * 7 + 4, none⟩) hbl', x4]
      have y5 : wr.cell? ⟨b', off' + k * 7 + 5, none⟩ = some (.int .i64 vq) := by rw [hb.cell (p := ⟨b', off' + k * 7 + 5, none⟩) hbl', x5]
      have y6 : wr.cell? ⟨b', off' + k * 7 + 6, none⟩ = some (.string vz) := by rw [hb.cell (p := ⟨b', off' + k * 7 + 6, none⟩) hbl', x6]
      have q0 := fun r : Out wr => q_cell e0 r
      have p0 := fun r : Out wr => q_cell y0 r
      have q1 := fun r : Out wr => q_cell e1 r
      have p1 := fun r : Out wr => q_cell y1 r
      have q2 := fun r : Out wr => q_cell e2 r
      have p2 := fun r : Out wr => q_cell y2 r
      have q3 := fun r : Out wr => q_cell e3 r
      have p3 := fun r : Out wr => q_cell y3 r
      have q4 := fun r : Out wr => q_cell e4 r
      have p4 := fun r : Out wr => q_cell y4 r
      have q5 := fun r : Out wr => q_cell e5 r
      have p5 := fun r : Out wr => q_cell y5 r
      have q6 := fun r : Out wr => q_cell e6 r
      have p6 := fun r : Out wr => q_cell y6 r
      have HE : ∀ W, (Op.equalIn 10000 40 (.agg #[.int .i64 vi, .int .i64 va, .int .i64 vb, .string vt, .int .i64 vp, .int .i64 vq, .string vz]) (.agg #[.int .i64 vi, .int .i64 va, .int .i64 vb, .string vt, .int .i64 vp, .int .i64 vq, .string vz])).run Try.prog W = .ok true W := fun W => by rw [eqR2, rowEq_self]
      have g1 : (0 : Int) ≤ (k : Int) := by omega
      have g2 : (k : Int) < (n : Int) := by omega
      have B : Hid (Below w.heap.size w wr) := hb
      clear hc hc' hcs hcs' hv d0 d1 d2 d3 d4 d5 d6 x0 x1 x2 x3 x4 x5 x6 e0 e1 e2 e3 e4 e5 e6 y0 y1 y2 y3 y4 y5 y6 hb
      go_wp2_with fail
      haveI nonE := Out.some wr
      refine q_begin (by kernel_rfl) (by kernel_rfl) ?_
      repeat (go_big_quiet_step (fail))
      refine wpQuiet_nil ?_
      rintro w3 ⟨⟨y', hb3⟩, hy⟩
      have hy' : w3 = y' := hy
      clear hy
      subst hy'
      have B3 : Hid (Below w.heap.size w w3) := B.out.trans (hb3.mono B.out.size)
      clear hb3 q0 q1 q2 q3 q4 q5 q6 p0 p1 p2 p3 p4 p5 p6 B
      go_wp2
      go_roundw
      case rel => exact ⟨k + 1, by omega, by go_num, B3.out⟩
      case measure => simp [intOf]; omega
    · have e : k = n := by omega
      subst e
      go_wp2
      go_ret
      exact ⟨rfl, hb⟩
theorem row_size {i : Int} {u v : VV} (h : rowB i u v = true) : u.2.2.size ≤ maxLen ∧ v.2.2.size ≤ maxLen := by
  unfold rowB okV at h
  simp only [Bool.and_eq_true] at h
  have h1 := valB_size h.1.1.1.2
  have h2 := valB_size h.1.1.2
  unfold maxLen
  omega
theorem chK_size {c : CW} (h : chK c = true) : c.t.size ≤ maxLen ∧ c.z.size ≤ maxLen := by
  unfold chK at h
  simp only [Bool.and_eq_true] at h
  exact row_size h.2.2
theorem cellsC_append (us vs : List CW) : cellsC (us ++ vs) = cellsC us ++ cellsC vs := by unfold cellsC; rw [List.flatMap_append]
theorem cellsC_one (x : CW) : cellsC [x] = cC x := by simp [cellsC]
theorem oneC (L : List CW) : ∀ u ∈ cellsC L, u.oneCell' = true := by
  intro u hu
  obtain ⟨r, _, hr⟩ := List.mem_flatMap.1 hu
  simp only [cC, List.mem_cons, List.not_mem_nil, or_false] at hr
  rcases hr with h | h | h | h | h | h | h | h | h | h <;> subst h <;> rfl
theorem boxSrcC {w : World} {vb : Nat} {x : CW} (h : w.heap[vb]? = some (.cells (cC x).toArray 42 (0, 0))) : ∀ j v, (cC x)[j]? = some v → w.cell? ((⟨vb, 0, none⟩ : Addr).add j) = some v := by
  intro j v hj
  rw [addr_add, Nat.zero_add]
  simp [World.cell?, h, hj]
set_option maxRecDepth 100000 in
set_option maxHeartbeats 8000000 in
theorem c_changes (w0 w : World) (g : Nat) (a : Option Addr) (n c : Nat) (zs : List Int) (h : Drw w0 w g a n c 0 zs) :
    Calls Try.prog 29 #[.pointer (some ⟨g, 0, none⟩)] w fun e w' => (∃ (a' : Option Addr) (c' : Nat) (L : List CW), e = .returned (.slice a' L.length c') ∧ w'.ownsRow w.heap.size 42 10 (.slice a' L.length c') L.length (cellsC L) ∧ L.length ≤ 8 ∧ ∀ v ∈ L, chK v = true) ∧ Inn g (g + 1) w w' := by
  obtain ⟨i0, qi0, qz0, qz1, qz2⟩ := info_parts infoC
  have hi0 : Hid (_) := qi0
  have hz0 : Hid (_) := qz0
  have hz1 : Hid (_) := qz1
  have hz2 : Hid (_) := qz2
  have lg : g < w.heap.size := h.src.lt
  have lb : w0.heap.size ≤ g := h.behind
  obtain ⟨Q, hQ⟩ : ∃ Q, w.alloc (.cells #[] 42) = Q := ⟨_, rfl⟩
  have bQ : Below w.heap.size w Q := by rw [← hQ]; exact (Below.refl _ _).alloc (Nat.le_refl _) _
  have HQ : Hid (Drw w0 Q g a n c 0 zs) := h.below bQ
  have OQ : Hid (Q.ownsRow w.heap.size 42 10 (.slice (some ⟨w.heap.size, 0, none⟩) 0 0) 0 (cellsC [])) := by unfold Hid; rw [← hQ]; exact World.ownsRow_lit w #[] 0 (Nat.le_refl _) (Nat.zero_le _) rfl
  have IQ : Hid (Inn g (g + 1) w Q) := Inn.ofB bQ
  have C0 := c_next w0 Q g a n c 0 zs 8 HQ.out (by omega) (by omega)
  have lq := bQ.size
  clear h qi0 qz0 qz1 qz2 bQ
  go_enter Try.func29, Try.ntmps29
  go_wp2_with fail
  refine C0.mono ?_
  rintro e wz ⟨⟨r, rfl, hr0, hr8⟩, hd, hi⟩
  have Oz : Hid (wz.ownsRow w.heap.size 42 10 (.slice (some ⟨w.heap.size, 0, none⟩) 0 0) 0 (cellsC [])) := own_inn OQ.out hi (by omega)
  have Dz : Hid (Drw w0 wz g a n c 1 zs) := hd
  have Iz : Hid (Inn g (g + 1) w wz) := IQ.out.trans hi
  obtain ⟨rn, hrn⟩ : ∃ rn : Nat, r = (rn : Int) := ⟨r.toNat, by omega⟩
  subst hrn
  clear hd hi C0 OQ HQ IQ hQ
  go_wp2
  go_loopw [3, 4] (fun o i wr => ∃ (j : Nat) (a' : Option Addr) (c' : Nat) (L : List CW), L.length + j ≤ 8 ∧ i = .int .i64 j ∧ o = .slice a' L.length c' ∧ Hid (wr.ownsRow w.heap.size 42 10 (.slice a' L.length c') L.length (cellsC L)) ∧ Hid (∀ v ∈ L, chK v = true) ∧ Hid (Drw w0 wr g a n c (15 * L.length + 1) zs) ∧ Hid (Inn g (g + 1) w wr)) (fun _ i _ => (intOf i).toNat)
  case atStart => exact ⟨rn, _, 0, [], by simp; omega, rfl, rfl, Oz, (fun v hv => by cases hv), Dz, Iz⟩
  case round =>
    clear Oz Dz Iz
    obtain ⟨j, a1, c1, L, hj, rfl, rfl, OW, HK, DW, IW⟩ := hrel
    rename World => wo
    have lo : w.heap.size ≤ wo.heap.size := IW.out.size
    by_cases hlt : 0 < j
    · have C1 := c_next w0 wo g a n c (15 * L.length + 1) zs 3 DW.out (by omega) (by omega)
      have gj : (0 : Int) < (j : Int) := by omega
      go_wp2_with fail
      refine C1.mono ?_
      rintro e w1 ⟨⟨r1, rfl, h10, h11⟩, hd, hi⟩
      have O1 : Hid (w1.ownsRow w.heap.size 42 10 (.slice a1 L.length c1) L.length (cellsC L)) := own_inn OW.out hi (by omega)
      have D1 : Hid (Drw w0 w1 g a n c (15 * L.length + 1 + 1) zs) := hd
      have I1 : Hid (Inn g (g + 1) w w1) := IW.out.trans hi
      have l1 : wo.heap.size ≤ w1.heap.size := hi.size
      clear hd hi C1 OW DW IW
      have C2 := c_next w0 w1 g a n c _ zs 2 D1.out (by omega) (by omega)
      go_wp2_with fail
      refine C2.mono ?_
      rintro e w2 ⟨⟨r2, rfl, h20, h21⟩, hd, hi⟩
      have O2 : Hid (w2.ownsRow w.heap.size 42 10 (.slice a1 L.length c1) L.length (cellsC L)) := own_inn O1.out hi (by omega)
      have D2 : Hid (Drw w0 w2 g a n c (15 * L.length + 1 + 1 + 1) zs) := hd
      have I2 : Hid (Inn g (g + 1) w w2) := I1.out.trans hi
      have l2 : w1.heap.size ≤ w2.heap.size := hi.size
      clear hd hi C2 O1 D1 I1
      have C3 := c_row w0 w2 g a n c _ zs D2.out (by omega)
      have hadd : IntKind.i64.wrap (1 + r2) = 1 + r2 := by simp [IntKind.wrap_i64]; omega
      go_wp2_with fail
      refine C3.mono ?_
      rintro e w3 ⟨⟨i, ⟨u1, u2, u3⟩, ⟨v1, v2, v3⟩, rfl, hok⟩, hd, hi⟩
      have O3 : Hid (w3.ownsRow w.heap.size 42 10 (.slice a1 L.length c1) L.length (cellsC L)) := own_inn O2.out hi (by omega)
      have D3 : Hid (Drw w0 w3 g a n c (15 * L.length + 1 + 1 + 1 + 12) zs) := hd
      have I3 : Hid (Inn g (g + 1) w w3) := I2.out.trans hi
      have l3 : w2.heap.size ≤ w3.heap.size := hi.size
      clear hd hi C3 O2 D2 I2
      have C4 := c_chance w0 w3 g a n c _ zs 4 D3.out (by omega) (by omega)
      go_wp2_with fail
      refine C4.mono ?_
      rintro e w4 ⟨⟨r4, rfl⟩, hd, hi⟩
      have O4 : Hid (w4.ownsRow w.heap.size 42 10 (.slice a1 L.length c1) L.length (cellsC L)) := own_inn O3.out hi (by omega)
      have D4 : Hid (Drw w0 w4 g a n c (15 * L.length + 1 + 1 + 1 + 12 + 1) zs) := hd
      have I4 : Hid (Inn g (g + 1) w w4) := I3.out.trans hi
      have l4 : w3.heap.size ≤ w4.heap.size := hi.size
      clear hd hi C4 O3 D3 I3
      have HK4 : Hid (chK ⟨r1, 1 + r2, i, u1, u2, u3, v1, v2, v3, r4⟩ = true) := by
        unfold Hid chK
        have e1 : inB r1 0 2 = true := by simp [inB]; omega
        have e2 : inB (1 + r2) 1 3 = true := by simp [inB]; omega
        dsimp only
        rw [e1, e2, hok]; rfl
      obtain ⟨V, hV⟩ : ∃ W, w4.alloc (.cells #[.int .i64 r1, .int .i64 (1 + r2), .int .i64 i, .int .i64 u1, .int .i64 u2, .string u3, .int .i64 v1, .int .i64 v2, .string v3, .bool r4] 42) = W := ⟨_, rfl⟩
      have bV : Below w4.heap.size w4 V := by rw [← hV]; exact (Below.refl _ _).alloc (Nat.le_refl _) _
      have XN : Hid (V.heap[w4.heap.size]? = some (.cells (cC ⟨r1, 1 + r2, i, u1, u2, u3, v1, v2, v3, r4⟩).toArray 42 (0, 0))) := by unfold Hid; rw [← hV]; show (w4.heap.push _)[w4.heap.size]? = _; simp [cC]
      have O5 : Hid (V.ownsRow w.heap.size 42 10 (.slice a1 L.length c1) L.length (cellsC L)) := own_below O4.out bV
      have D5 : Hid (Drw w0 V g a n c (15 * (L.length + 1) + 1) zs) := (D4.out.below bV).mono (by omega)
      have I5 : Hid (Inn g (g + 1) w V) := I4.out.trans (Inn.ofB bV)
      have l5 : w.heap.size ≤ V.heap.size := I5.out.size
      have HS : Hid (_) := boxSrcC XN.out
      clear bV O4 D4 I4 hok XN
      go_wp2_with (at_builtin; refine app_any _ rfl (.tmp 12) (.tmp 23) 27 rfl w.heap.size 42 i0 (.agg #[.int .i64 0, .int .i64 0, .int .i64 0, .int .i64 0, .int .i64 0, .string ⟨#[]⟩, .int .i64 0, .int .i64 0, .string ⟨#[]⟩, .bool false]) 10 96 Try.underlying27 hi0.out hz0.out hz1.out hz2.out rfl (by omega) (.slice a1 L.length c1) L.length (cellsC L) rfl O5.out (some ⟨w4.heap.size, 0, none⟩) 1 1 (cC ⟨r1, 1 + r2, i, u1, u2, u3, v1, v2, v3, r4⟩) rfl (fun ex => by cases ex) rfl (fun ad ex => by cases ex; exact HS.out) (fun u hu => oneC [⟨r1, 1 + r2, i, u1, u2, u3, v1, v2, v3, r4⟩] u (by rw [cellsC_one]; exact hu)) (by unfold maxLen; omega) (by omega) l5 ?_; intro a5 c5 w5 o5 hg5 hx5)
      have O6 : Hid (w5.ownsRow w.heap.size 42 10 (.slice a5 (L ++ [(⟨r1, 1 + r2, i, u1, u2, u3, v1, v2, v3, r4⟩ : CW)]).length c5) (L ++ [(⟨r1, 1 + r2, i, u1, u2, u3, v1, v2, v3, r4⟩ : CW)]).length (cellsC (L ++ [⟨r1, 1 + r2, i, u1, u2, u3, v1, v2, v3, r4⟩]))) := by
        unfold Hid
        rw [cellsC_append, cellsC_one, List.length_append]
        exact o5
      rw [ob_slice] at hg5
      have gb : ∀ q, ob a1 = some q → w.heap.size ≤ q := fun q hq => (own_blk O5.out q hq).1
      have I6 : Hid (Inn g (g + 1) w w5) := I5.out.trans_grown hg5 gb
      have D6 : Hid (Drw w0 w5 g a n c (15 * (L ++ [(⟨r1, 1 + r2, i, u1, u2, u3, v1, v2, v3, r4⟩ : CW)]).length + 1) zs) := by
        unfold Hid
        rw [List.length_append]
        exact D5.out.grown hg5 (fun q hq => by have := gb q hq; omega)
      have HK6 : Hid (∀ v ∈ L ++ [(⟨r1, 1 + r2, i, u1, u2, u3, v1, v2, v3, r4⟩ : CW)], chK v = true) := fun v hv => by
        rcases List.mem_append.1 hv with hv | hv
        · exact HK.out v hv
        · simp only [List.mem_cons, List.not_mem_nil, or_false] at hv
          rw [hv]; exact HK4.out
      clear hg5 hx5 o5 gb D5 I5 O5 HK HK4
      go_wp2
      go_roundw
      case rel => exact ⟨j - 1, a5, c5, L ++ [⟨r1, 1 + r2, i, u1, u2, u3, v1, v2, v3, r4⟩], by simp; omega, by rw [show ((j - 1 : Nat) : Int) = (j : Int) - 1 by omega], by simp, O6, HK6, D6, I6⟩
      case measure => simp [intOf]; omega
    · have e : j = 0 := by omega
      subst e
      go_wp2
      go_ret
      exact ⟨⟨a1, c1, L, rfl, OW.out, by omega, HK.out⟩, IW.out⟩
set_option maxRecDepth 100000 in
set_option maxHeartbeats 8000000 in
theorem c_changesOf (a : Option Addr) (n c : Nat) (zs : List Int) (w : World) (hr : RdV w a n (zs.map (Value.int .u8))) (hz : ∀ z ∈ zs, 0 ≤ z ∧ z < 256) (hn : n ≤ 1048576) :
    Calls Try.prog 14 #[.slice a n c] w fun e w' => (∃ (a' : Option Addr) (c' : Nat) (L : List CW), e = .returned (.slice a' L.length c') ∧ w'.ownsRow w.heap.size 42 10 (.slice a' L.length c') L.length (cellsC L) ∧ L.length ≤ 8 ∧ ∀ v ∈ L, chK v = true) ∧ Below w.heap.size w w' := by
  have C := c_source a n c zs w hr hz hn
  clear hr hz
  go_enter Try.func14, Try.ntmps14
  go_wp2_with fail
  refine C.mono ?_
  rintro e w1 ⟨rfl, hd, hb⟩
  have C2 := c_changes w w1 w.heap.size a n c zs hd
  have lg : w.heap.size < w1.heap.size := hd.src.lt
  clear C hd
  go_wp2_with fail
  refine C2.mono ?_
  rintro e w2 ⟨⟨a2, c2, L, rfl, o2, r2, k2⟩, hi⟩
  have O2 : Hid (w2.ownsRow w.heap.size 42 10 (.slice a2 L.length c2) L.length (cellsC L)) := own_mono o2 (by omega)
  have B2 : Hid (Below w.heap.size w w2) := hb.trans (hi.below (Nat.le_refl _) hb.size)
  have K2 : Hid (∀ v ∈ L, chK v = true) := k2
  clear C2 o2 hi hb k2
  go_wp2
  go_ret
  exact ⟨⟨a2, c2, L, rfl, O2.out, r2, K2.out⟩, B2.out⟩

end Go.Proofs.Ytiobobocjokgiaa
