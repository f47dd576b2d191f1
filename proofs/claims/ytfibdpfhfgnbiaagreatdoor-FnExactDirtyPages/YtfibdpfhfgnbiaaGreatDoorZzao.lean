/-
  Walks over slices of waits (two cells each): copies, sizes, comparisons, marks.
-/
import Derived.Test.YtfibdpfhfgnbiaaGreatDoorZzab
namespace Go.Proofs.YtfibdpfhfgnbiaaGreatDoor.L
open Go Go.RowKit
attribute [local go_sem ↓] Go.wp_at_zero Go.wp_at_succ

def partA {α : Type} (d : α) (xs : List α) (n k : Nat) : List α := xs.take k ++ List.replicate (n - k) d
theorem partA_step {α : Type} (d : α) (xs : List α) (n k : Nat) (hz : xs.length = n) (hk : k < n) : (partA d xs n k).set k (xs.getD k d) = partA d xs n (k + 1) := by
  unfold partA
  have hl : (xs.take k).length = k := by simp; omega
  rw [List.set_append, if_neg (by omega), hl, Nat.sub_self]
  obtain ⟨m, hm⟩ : ∃ m, n - k = m + 1 := ⟨n - k - 1, by omega⟩
  have hm' : n - (k + 1) = m := by omega
  rw [hm, hm', List.replicate_succ, List.set_cons_zero, List.take_add_one, List.append_assoc, List.getD_eq_getElem?_getD, List.getElem?_eq_getElem (by omega)]
  rfl
theorem partA_len {α : Type} (d : α) (xs : List α) (n k : Nat) (hz : xs.length = n) (hk : k ≤ n) : (partA d xs n k).length = n := by unfold partA; simp; omega
theorem partA_full {α : Type} (d : α) (xs : List α) (n : Nat) (hz : xs.length = n) : partA d xs n n = xs := by
  unfold partA; rw [List.take_of_length_le (by omega), Nat.sub_self]; simp
def mixA {α : Type} (ys xs : List α) (k : Nat) : List α := ys.take k ++ xs.drop k
theorem mixA_zero {α : Type} (ys xs : List α) : mixA ys xs 0 = xs := by simp [mixA]
theorem mixA_len {α : Type} (ys xs : List α) (n k : Nat) (hx : xs.length = n) (hy : ys.length = n) (hk : k ≤ n) : (mixA ys xs k).length = n := by unfold mixA; simp; omega
theorem mixA_step {α : Type} (ys xs : List α) (n k : Nat) (d : α) (hx : xs.length = n) (hy : ys.length = n) (hk : k < n) : (mixA ys xs k).set k (ys.getD k d) = mixA ys xs (k + 1) := by
  unfold mixA
  have hl : (ys.take k).length = k := by simp; omega
  rw [List.set_append, if_neg (by omega), hl, Nat.sub_self, List.drop_eq_getElem_cons (show k < xs.length by omega), List.set_cons_zero, List.take_add_one, List.append_assoc, List.getD_eq_getElem?_getD, List.getElem?_eq_getElem (by omega)]
  rfl
theorem mixA_full {α : Type} (ys xs : List α) (n : Nat) (hx : xs.length = n) (hy : ys.length = n) : mixA ys xs n = ys := by
  unfold mixA; rw [List.take_of_length_le (by omega), List.drop_eq_nil_of_le (by omega)]; simp

end Go.Proofs.YtfibdpfhfgnbiaaGreatDoor.L
namespace Go.Proofs.YtfibdpfhfgnbiaaGreatDoor.L
open Go Go.RowKit
attribute [local go_sem ↓] Go.wp_at_zero Go.wp_at_succ

structure LK where
  x : Int
  b : Int
  r : Int
  m : Int
  deriving DecidableEq
def dK : LK := ⟨0, 0, 0, 0⟩
def cK (v : LK) : List Value := [.int .i64 v.x, .int .i64 v.b, .int .i64 v.r, .int .i64 v.m]
def cellsK (vs : List LK) : List Value := vs.flatMap cK
theorem cellsK_len (vs : List LK) : (cellsK vs).length = vs.length * 4 := by
  induction vs with
  | nil => rfl
  | cons v vs ih => rw [show cellsK (v :: vs) = cK v ++ cellsK vs from rfl, List.length_append, ih, List.length_cons]; simp only [cK, List.length_cons, List.length_nil]; omega
theorem cellsK_get : ∀ (vs : List LK) (i : Nat), i < vs.length → (cellsK vs)[i * 4]? = some (.int .i64 (vs.getD i dK).x) ∧ (cellsK vs)[i * 4 + 1]? = some (.int .i64 (vs.getD i dK).b) ∧ (cellsK vs)[i * 4 + 2]? = some (.int .i64 (vs.getD i dK).r) ∧ (cellsK vs)[i * 4 + 3]? = some (.int .i64 (vs.getD i dK).m)
  | v :: vs, 0, _ => by simp [cellsK, cK]
  | v :: vs, i + 1, h => by
    have := cellsK_get vs i (by simpa using h)
    have e : cellsK (v :: vs) = cK v ++ cellsK vs := rfl
    rw [e]
    have el : ∀ j, (cK v ++ cellsK vs)[j + 4]? = (cellsK vs)[j]? := fun j => by rw [List.getElem?_append_right (by simp [cK])]; simp [cK]
    rw [show (i + 1) * 4 = i * 4 + 4 by omega, show i * 4 + 4 + 1 = i * 4 + 1 + 4 by omega, show i * 4 + 4 + 2 = i * 4 + 2 + 4 by omega, show i * 4 + 4 + 3 = i * 4 + 3 + 4 by omega, el, el, el, el
      ]
    simpa using this
theorem cellsK_set : ∀ (vs : List LK) (i : Nat) (v : LK), i < vs.length → (((((cellsK vs).set (i * 4) (.int .i64 v.x)).set (i * 4 + 1) (.int .i64 v.b)).set (i * 4 + 2) (.int .i64 v.r)).set (i * 4 + 3) (.int .i64 v.m)) = cellsK (vs.set i v)
  | u :: vs, 0, v, _ => by simp [cellsK, cK]
  | u :: vs, i + 1, v, h => by
    have ih := cellsK_set vs i v (by simpa using h)
    have e : cellsK (u :: vs) = .int .i64 u.x :: .int .i64 u.b :: .int .i64 u.r :: .int .i64 u.m :: cellsK vs := rfl
    have e2 : cellsK ((u :: vs).set (i + 1) v) = .int .i64 u.x :: .int .i64 u.b :: .int .i64 u.r :: .int .i64 u.m :: cellsK (vs.set i v) := rfl
    rw [e, e2, show (i + 1) * 4 = i * 4 + 1 + 1 + 1 + 1 by omega, ← ih]
    rfl
theorem cellsK_append (us vs : List LK) : cellsK (us ++ vs) = cellsK us ++ cellsK vs := by unfold cellsK; rw [List.flatMap_append]
def RdK (w : World) (a : Option Addr) (n : Nat) (vs : List LK) : Prop :=
  vs.length = n ∧ (0 < n → ∃ b off, a = some ⟨b, off, none⟩ ∧ b < w.heap.size ∧ ∀ i, i < n → w.cell? ⟨b, off + i * 4, none⟩ = some (.int .i64 (vs.getD i dK).x) ∧ w.cell? ⟨b, off + i * 4 + 1, none⟩ = some (.int .i64 (vs.getD i dK).b) ∧ w.cell? ⟨b, off + i * 4 + 2, none⟩ = some (.int .i64 (vs.getD i dK).r) ∧ w.cell? ⟨b, off + i * 4 + 3, none⟩ = some (.int .i64 (vs.getD i dK).m))
theorem RdK.below {w w' : World} {a : Option Addr} {n : Nat} {vs : List LK} (h : RdK w a n vs) (hb : Below w.heap.size w w') : RdK w' a n vs := by
  obtain ⟨h1, h3⟩ := h
  refine ⟨h1, fun hn => ?_⟩
  obtain ⟨b, off, e, hlt, hc⟩ := h3 hn
  refine ⟨b, off, e, Nat.lt_of_lt_of_le hlt hb.size, fun i hi => ?_⟩
  rw [hb.cell (p := ⟨b, off + i * 4, none⟩) hlt, hb.cell (p := ⟨b, off + i * 4 + 1, none⟩) hlt, hb.cell (p := ⟨b, off + i * 4 + 2, none⟩) hlt, hb.cell (p := ⟨b, off + i * 4 + 3, none⟩) hlt]
  exact hc i hi
theorem RdK.own {w : World} {base e n : Nat} {a : Option Addr} {m cap : Nat} {vs : List LK} (h : w.ownsRow base e 4 (.slice a m cap) n (cellsK vs)) : RdK w a m vs := by
  have hl : vs.length = n := by have := h.1; rw [cellsK_len] at this; omega
  rcases h.2 with ⟨hv, h0⟩ | ⟨g, cap', cur, hv, hb, hg, hnc, hcm, hcs, htake⟩
  · simp only [Value.slice.injEq] at hv
    obtain ⟨rfl, rfl, rfl⟩ := hv
    exact ⟨by omega, fun h => absurd h (by omega)⟩
  · simp only [Value.slice.injEq] at hv
    obtain ⟨rfl, rfl, rfl⟩ := hv
    refine ⟨hl, fun _ => ⟨g, 0, rfl, ?_, fun i hi => ?_⟩⟩
    · rcases Nat.lt_or_ge g w.heap.size with h1 | h1
      · exact h1
      · rw [Array.getElem?_eq_none h1] at hg; cases hg
    · rw [Nat.zero_add, h.cellAt (i * 4) (by omega), h.cellAt (i * 4 + 1) (by omega), h.cellAt (i * 4 + 2) (by omega), h.cellAt (i * 4 + 3) (by omega)]
      exact cellsK_get vs i (by omega)
theorem madeK (n : Nat) : (madeCells #[.int .i64 0, .int .i64 0, .int .i64 0, .int .i64 0] (n * 4)).toList = cellsK (List.replicate n dK) := by
  apply List.ext_getElem?
  intro j
  by_cases hj : j < n * 4
  · have h1 : (madeCells #[.int .i64 0, .int .i64 0, .int .i64 0, .int .i64 0] (n * 4)).toList[j]? = some (#[Value.int .i64 0, Value.int .i64 0, Value.int .i64 0, Value.int .i64 0][j % 4]!) := by
      simp [madeCells, hj]
    rw [h1]
    have hi : j / 4 < (List.replicate n dK).length := by simp; omega
    obtain ⟨c0, c1, c2, c3⟩ := cellsK_get (List.replicate n dK) (j / 4) hi
    have hd : (List.replicate n dK).getD (j / 4) dK = dK := by rw [List.getD_eq_getElem?_getD, List.getElem?_eq_getElem hi]; simp
    rw [hd] at c0 c1 c2 c3
    have hm : j % 4 = 0 ∨ j % 4 = 1 ∨ j % 4 = 2 ∨ j % 4 = 3 := by omega
    rcases hm with h | h | h | h
    · rw [h, show j = j / 4 * 4 by omega, c0]; rfl
    · rw [h, show j = j / 4 * 4 + 1 by omega, c1]; rfl
    · rw [h, show j = j / 4 * 4 + 2 by omega, c2]; rfl
    · rw [h, show j = j / 4 * 4 + 3 by omega, c3]; rfl
  · rw [List.getElem?_eq_none (by simp [size_madeCells]; omega), List.getElem?_eq_none (by rw [cellsK_len]; simp; omega)]
theorem infoK : (Tryz.prog.info? 98).map (fun i => (i.zero, i.size, i.bytes)) = some (some (.agg #[.int .i64 0, .int .i64 0, .int .i64 0, .int .i64 0]), 4, 32) := by kernel_rfl
theorem own_putK {w : World} {base e g n cap : Nat} {vs : List LK} (h : w.ownsRow base e 4 (.slice (some ⟨g, 0, none⟩) n cap) n (cellsK vs)) (i : Nat) (v : LK) (hi : i < vs.length) :
    (((((w.setCell ⟨g, i * 4, none⟩ (.int .i64 v.x)).setCell ⟨g, i * 4 + 1, none⟩ (.int .i64 v.b)).setCell ⟨g, i * 4 + 2, none⟩ (.int .i64 v.r)).setCell ⟨g, i * 4 + 3, none⟩ (.int .i64 v.m))).ownsRow base e 4 (.slice (some ⟨g, 0, none⟩) n cap) n (cellsK (vs.set i v)) := by
  have h1 := (h.stored (i * 4) (.int .i64 v.x)).1
  have h2 := (h1.stored (i * 4 + 1) (.int .i64 v.b)).1
  have h3 := (h2.stored (i * 4 + 2) (.int .i64 v.r)).1
  have h4 := (h3.stored (i * 4 + 3) (.int .i64 v.m)).1
  rw [cellsK_set vs i v hi] at h4
  exact h4
set_option maxRecDepth 100000 in
set_option maxHeartbeats 2000000 in
theorem c_toK1 (vx vb vr vm : Int) (w : World) :
    Calls Tryz.prog 205 #[.agg #[.int .i64 vx, .int .i64 vb, .int .i64 vr, .int .i64 vm]] w fun e w' => e = .returned (.agg #[.int .i64 vx, .int .i64 vb, .int .i64 vr, .int .i64 vm]) ∧ Below w.heap.size w w' := by
  go_enter Tryz.func205, Tryz.ntmps205
  go_wp2
  refine bodyPost_ret (v := .agg #[.int .i64 vx, .int .i64 vb, .int .i64 vr, .int .i64 vm]) (by simp [results, Tryz.results205, go_sem]) rfl ⟨rfl, ?_⟩
  exact (((Below.refl _ _).alloc (Nat.le_refl _) _).alloc (by simp) _).alloc (by simp; omega) _

set_option maxRecDepth 100000 in
set_option maxHeartbeats 2000000 in
theorem c_toK (a : Option Addr) (n cap : Nat) (vs : List LK) (w : World) (hr : RdK w a n vs) (hn : n ≤ 1048576) :
    Calls Tryz.prog 124 #[.slice a n cap] w fun e w' => e = .returned (.slice (some ⟨w.heap.size, 0, none⟩) n n) ∧ w'.ownsRow w.heap.size 98 4 (.slice (some ⟨w.heap.size, 0, none⟩) n n) n (cellsK vs) ∧ Below w.heap.size w w' := by
  obtain ⟨hl, hcs⟩ := hr
  obtain ⟨i0, hi, hz0, hz1, hz2⟩ := info_parts infoK
  go_enter Tryz.func124, Tryz.ntmps124
  go_wp2_with (at_make; refine wpList_make_full _ rfl (.tmp 6) (.tmp 6) 48 rfl w.heap.size 98 i0 (.agg #[.int .i64 0, .int .i64 0, .int .i64 0, .int .i64 0]) 4 Tryz.underlying48 hi hz0 hz1 .i64 .i64 _ _ n rfl rfl rfl rfl (by rw [hz2]; omega) (by unfold maxLen; omega) (Nat.le_refl _) ?_; intro w1 hown hgrow)
  go_loopw [4] (fun i wr => ∃ k : Nat, k ≤ n ∧ i = .int .i64 k ∧ wr.ownsRow w.heap.size 98 4 (.slice (some ⟨w.heap.size, 0, none⟩) n n) n (cellsK (partA dK vs n k)) ∧ Below w.heap.size w wr) (fun i _ => n - (intOf i).toNat)
  case atStart => exact ⟨0, by omega, rfl, by have e := madeK n; simp only [Value.cells] at hown; rw [e] at hown; simpa [partA] using hown, (Below.refl _ _).grown hgrow (Nat.le_refl _) (fun k h => by cases h)⟩
  case round =>
    obtain ⟨k, hk, rfl, hown, hb⟩ := hrel
    by_cases hlt : k < n
    · obtain ⟨b, off, rfl, hbl, hc⟩ := hcs (by omega)
      obtain ⟨⟨vx, vb, vr, vm⟩, hv⟩ : ∃ v, v = vs.getD k dK := ⟨_, rfl⟩
      obtain ⟨d0, d1, d2, d3⟩ := hc k hlt
      rw [← hv] at d0 d1 d2 d3
      have e0 : wr.cell? ⟨b, off + k * 4, none⟩ = some (.int .i64 vx) := by rw [hb.cell (p := ⟨b, off + k * 4, none⟩) hbl, d0]
      have e1 : wr.cell? ⟨b, off + k * 4 + 1, none⟩ = some (.int .i64 vb) := by rw [hb.cell (p := ⟨b, off + k * 4 + 1, none⟩) hbl, d1]
      have e2 : wr.cell? ⟨b, off + k * 4 + 2, none⟩ = some (.int .i64 vr) := by rw [hb.cell (p := ⟨b, off + k * 4 + 2, none⟩) hbl, d2]
      have e3 : wr.cell? ⟨b, off + k * 4 + 3, none⟩ = some (.int .i64 vm) := by rw [hb.cell (p := ⟨b, off + k * 4 + 3, none⟩) hbl, d3]
      have HV : Hid ((⟨vx, vb, vr, vm⟩ : LK) = vs.getD k dK) := hv
      clear hc hcs hgrow d0 d1 d2 d3 hv
      go_wp2_with fail
      refine (c_toK1 _ _ _ _ _).mono ?_
      rintro e w1 ⟨rfl, hb1⟩
      have hown1 := own_below hown hb1
      have hbb : Below w.heap.size w w1 := hb.trans (hb1.mono hb.size)
      have hpl := partA_len dK vs n k hl hk
      obtain ⟨o0, o1, o2, o3⟩ := cellsK_get (partA dK vs n k) k (by omega)
      have f0 := hown1.cellAt (k * 4) (by omega)
      rw [o0] at f0
      have z0 := hown1.frozenAt (k * 4)
      have f1 := hown1.cellAt (k * 4 + 1) (by omega)
      rw [o1] at f1
      have z1 := hown1.frozenAt (k * 4 + 1)
      have f2 := hown1.cellAt (k * 4 + 2) (by omega)
      rw [o2] at f2
      have z2 := hown1.frozenAt (k * 4 + 2)
      have f3 := hown1.cellAt (k * 4 + 3) (by omega)
      rw [o3] at f3
      have z3 := hown1.frozenAt (k * 4 + 3)
      have hput := own_putK hown1 k ⟨vx, vb, vr, vm⟩ (by omega)
      rw [HV.out, partA_step dK vs n k hl hlt, ← HV.out] at hput
      have HP : Hid (_) := hput
      clear hput hown1 hown hb1 o0 e0 o1 e1 o2 e2 o3 e3
      go_wp2
      go_roundw
      case rel => exact ⟨k + 1, by omega, by go_num, HP.out, ((((hbb.setCell (Nat.le_refl _) _).setCell (Nat.le_refl _) _).setCell (Nat.le_refl _) _).setCell (Nat.le_refl _) _)⟩
      case measure => simp [intOf]; omega
    · have e : k = n := by omega
      subst e
      rw [partA_full _ _ k hl] at hown
      go_wp2
      go_ret
      exact ⟨rfl, hown, hb⟩

def sizeK (left : Int) (n : Nat) : Int := if left - n < 0 then -1 else left - n
theorem c_szK (a : Option Addr) (n cap : Nat) (left : Int) (w : World) (hm : n ≤ maxLen) (h0 : 0 ≤ left) (h1 : left ≤ 1048576) :
    Calls Tryz.prog 115 #[.slice a n cap, .int .i64 left] w fun e w' => e = .returned (.int .i64 (sizeK left n)) ∧ w' = w := by
  unfold maxLen at hm
  unfold sizeK
  by_cases hn : left - n < 0
  · rw [if_pos hn]
    go_enter Tryz.func115, Tryz.ntmps115
    go_wp2
    go_ret
    exact ⟨rfl, rfl⟩
  · rw [if_neg hn]
    go_enter Tryz.func115, Tryz.ntmps115
    go_wp2
    go_ret
    exact ⟨rfl, rfl⟩

set_option maxRecDepth 100000 in
set_option maxHeartbeats 2000000 in
theorem c_eqK1 (vx vb vr vm : Int) (w : World) :
    Calls Tryz.prog 220 #[.agg #[.int .i64 vx, .int .i64 vb, .int .i64 vr, .int .i64 vm], .agg #[.int .i64 vx, .int .i64 vb, .int .i64 vr, .int .i64 vm]] w fun e w' => e = .returned (.bool true) ∧ Below w.heap.size w w' := by
  have e0 : (vx != vx) = false := by simp
  have e1 : (vb != vb) = false := by simp
  have e2 : (vr != vr) = false := by simp
  have e3 : (vm != vm) = false := by simp
  go_enter Tryz.func220, Tryz.ntmps220
  go_wp2
  go_ret
  exact ⟨rfl, ((Below.refl _ _).alloc (Nat.le_refl _) _).alloc (by simp) _⟩

set_option maxRecDepth 100000 in
set_option maxHeartbeats 2000000 in
theorem c_eqK (a a' : Option Addr) (n cap cap' : Nat) (zs : List LK) (w : World) (hr : RdK w a n zs) (hr' : RdK w a' n zs) (hn : n ≤ 1048576) :
    Calls Tryz.prog 144 #[.slice a n cap, .slice a' n cap'] w fun e w' => e = .returned (.bool true) ∧ Below w.heap.size w w' := by
  obtain ⟨hl, hcs⟩ := hr
  obtain ⟨hl', hcs'⟩ := hr'
  go_enter Tryz.func144, Tryz.ntmps144
  go_wp2
  go_loopw [5] (fun i wr => ∃ k : Nat, k ≤ n ∧ i = .int .i64 k ∧ Below w.heap.size w wr) (fun i _ => n - (intOf i).toNat)
  case atStart => exact ⟨0, by omega, rfl, Below.refl _ _⟩
  case round =>
    obtain ⟨k, hk, rfl, hb⟩ := hrel
    by_cases hlt : k < n
    · obtain ⟨b, off, rfl, hbl, hc⟩ := hcs (by omega)
      obtain ⟨b', off', rfl, hbl', hc'⟩ := hcs' (by omega)
      obtain ⟨⟨vx, vb, vr, vm⟩, hv⟩ : ∃ v, v = zs.getD k dK := ⟨_, rfl⟩
      obtain ⟨d0, d1, d2, d3⟩ := hc k hlt
      obtain ⟨x0, x1, x2, x3⟩ := hc' k hlt
      rw [← hv] at d0 x0 d1 x1 d2 x2 d3 x3
      have e0 : wr.cell? ⟨b, off + k * 4, none⟩ = some (.int .i64 vx) := by rw [hb.cell (p := ⟨b, off + k * 4, none⟩) hbl, d0]
      have e1 : wr.cell? ⟨b, off + k * 4 + 1, none⟩ = some (.int .i64 vb) := by rw [hb.cell (p := ⟨b, off + k * 4 + 1, none⟩) hbl, d1]
      have e2 : wr.cell? ⟨b, off + k * 4 + 2, none⟩ = some (.int .i64 vr) := by rw [hb.cell (p := ⟨b, off + k * 4 + 2, none⟩) hbl, d2]
      have e3 : wr.cell? ⟨b, off + k * 4 + 3, none⟩ = some (.int .i64 vm) := by rw [hb.cell (p := ⟨b, off + k * 4 + 3, none⟩) hbl, d3]
      have y0 : wr.cell? ⟨b', off' + k * 4, none⟩ = some (.int .i64 vx) := by rw [hb.cell (p := ⟨b', off' + k * 4, none⟩) hbl', x0]
      have y1 : wr.cell? ⟨b', off' + k * 4 + 1, none⟩ = some (.int .i64 vb) := by rw [hb.cell (p := ⟨b', off' + k * 4 + 1, none⟩) hbl', x1]
      have y2 : wr.cell? ⟨b', off' + k * 4 + 2, none⟩ = some (.int .i64 vr) := by rw [hb.cell (p := ⟨b', off' + k * 4 + 2, none⟩) hbl', x2]
      have y3 : wr.cell? ⟨b', off' + k * 4 + 3, none⟩ = some (.int .i64 vm) := by rw [hb.cell (p := ⟨b', off' + k * 4 + 3, none⟩) hbl', x3]
      have g1 : (0 : Int) ≤ (k : Int) := by omega
      have g2 : (k : Int) < (n : Int) := by omega
      have C : Hid (∀ wx, Calls Tryz.prog 220 #[.agg #[.int .i64 vx, .int .i64 vb, .int .i64 vr, .int .i64 vm], .agg #[.int .i64 vx, .int .i64 vb, .int .i64 vr, .int .i64 vm]] wx fun e w' => e = .returned (.bool true) ∧ Below wx.heap.size wx w') := fun wx => c_eqK1 vx vb vr vm wx
      clear hc hc' hcs hcs' hv d0 x0 d1 x1 d2 x2 d3 x3
      go_wp2_with fail
      go_region_held3 (fun x => x.cell? ⟨b, off + k * 4, none⟩ = some (.int .i64 vx) ∧ x.cell? ⟨b, off + k * 4 + 1, none⟩ = some (.int .i64 vb) ∧ x.cell? ⟨b, off + k * 4 + 2, none⟩ = some (.int .i64 vr) ∧ x.cell? ⟨b, off + k * 4 + 3, none⟩ = some (.int .i64 vm) ∧ x.cell? ⟨b', off' + k * 4, none⟩ = some (.int .i64 vx) ∧ x.cell? ⟨b', off' + k * 4 + 1, none⟩ = some (.int .i64 vb) ∧ x.cell? ⟨b', off' + k * 4 + 2, none⟩ = some (.int .i64 vr) ∧ x.cell? ⟨b', off' + k * 4 + 3, none⟩ = some (.int .i64 vm))
        (first | go_keep | (exact ⟨far6 hb3 e0, far6 hb3 e1, far6 hb3 e2, far6 hb3 e3, far6 hb3 y0, far6 hb3 y1, far6 hb3 y2, far6 hb3 y3⟩))
        (first | (go_at_call 220; refine (C.out _).mono ?_; rintro e w3 ⟨rfl, hb3⟩))
      have hb' : Below w.heap.size w w3 := hb.drew.trans (hb3.mono hb.size)
      clear hb3 e0 y0 e1 y1 e2 y2 e3 y3 C
      go_wp2
      go_roundw
      case rel => exact ⟨k + 1, by omega, by go_num, hb'⟩
      case measure => simp [intOf]; omega
    · have e : k = n := by omega
      subst e
      go_wp2
      go_ret
      exact ⟨rfl, hb⟩

def mK (k0 i : Nat) : LK := ⟨((k0 + i * 4 : Nat) : Int), ((k0 + i * 4 + 1 : Nat) : Int), ((k0 + i * 4 + 2 : Nat) : Int), ((k0 + i * 4 + 3 : Nat) : Int)⟩
def marksK (k0 n : Nat) : List LK := (List.range n).map (mK k0)
theorem marksK_len (k0 n : Nat) : (marksK k0 n).length = n := by simp [marksK]
theorem marksK_get (k0 n k : Nat) (h : k < n) : (marksK k0 n).getD k dK = mK k0 k := by
  unfold marksK; rw [List.getD_eq_getElem?_getD, List.getElem?_map, List.getElem?_range h]; rfl
set_option maxRecDepth 100000 in
set_option maxHeartbeats 2000000 in
theorem c_markK (base : Nat) (v : Value) (n k0 : Nat) (xs : List LK) (w : World) (hown : w.ownsRow base 98 4 v n (cellsK xs)) (h1 : 1 ≤ k0) (hn : n ≤ 1048576) (hk : k0 ≤ 8000000) :
    Calls Tryz.prog 151 #[v, .int .i64 k0] w fun e w' => e = .returned (.int .i64 (k0 + n * 4 : Nat)) ∧ w'.ownsRow base 98 4 v n (cellsK (marksK k0 n)) ∧ w.grownBy w' v.ownBlock := by
  have hxl : xs.length = n := by have := hown.1; rw [cellsK_len] at this; omega
  rcases own_form hown with ⟨rfl, rfl⟩ | ⟨g, cap, rfl, hg1, hg2⟩
  · go_enter Tryz.func151, Tryz.ntmps151
    go_wp2
    refine wp_loop_rounds 1 ?_
    rw [rounds_succ]
    go_wp2
    go_ret
    exact ⟨by simp, by simpa [marksK, cellsK] using World.ownsRow_nil w base 98 4, World.grownBy.refl _ _⟩
  · go_enter Tryz.func151, Tryz.ntmps151
    go_wp2
    go_loopw [1, 5] (fun m i wr => ∃ k : Nat, k ≤ n ∧ i = .int .i64 k ∧ m = .int .i64 ((k0 + k * 4 : Nat) : Int) ∧ wr.ownsRow base 98 4 (.slice (some ⟨g, 0, none⟩) n cap) n (cellsK (mixA (marksK k0 n) xs k)) ∧ w.grownBy wr (some g)) (fun _ i _ => n - (intOf i).toNat)
    case atStart => exact ⟨0, by omega, rfl, by simp, by rw [mixA_zero]; exact hown, World.grownBy.refl _ _⟩
    case round =>
      obtain ⟨k, hk, rfl, rfl, hown, hgr⟩ := hrel
      by_cases hlt : k < n
      · have hml := mixA_len (marksK k0 n) xs n k hxl (marksK_len _ _) hk
        obtain ⟨o0, o1, o2, o3⟩ := cellsK_get (mixA (marksK k0 n) xs k) k (by omega)
        have f0 := hown.cellAt (k * 4) (by omega)
        rw [o0] at f0
        have z0 := hown.frozenAt (k * 4)
        have f1 := hown.cellAt (k * 4 + 1) (by omega)
        rw [o1] at f1
        have z1 := hown.frozenAt (k * 4 + 1)
        have f2 := hown.cellAt (k * 4 + 2) (by omega)
        rw [o2] at f2
        have z2 := hown.frozenAt (k * 4 + 2)
        have f3 := hown.cellAt (k * 4 + 3) (by omega)
        rw [o3] at f3
        have z3 := hown.frozenAt (k * 4 + 3)
        obtain ⟨s0, t0⟩ := hown.stored (k * 4) (.int .i64 ((k0 : Int) + (k : Int) * 4))
        obtain ⟨s1, t1⟩ := s0.stored (k * 4 + 1) (.int .i64 ((k0 : Int) + (k : Int) * 4 + 1))
        obtain ⟨s2, t2⟩ := s1.stored (k * 4 + 2) (.int .i64 ((k0 : Int) + (k : Int) * 4 + 2))
        obtain ⟨s3, t3⟩ := s2.stored (k * 4 + 3) (.int .i64 ((k0 : Int) + (k : Int) * 4 + 3))
        have hset := cellsK_set (mixA (marksK k0 n) xs k) k ⟨(k0 : Int) + (k : Int) * 4, (k0 : Int) + (k : Int) * 4 + 1, (k0 : Int) + (k : Int) * 4 + 2, (k0 : Int) + (k : Int) * 4 + 3⟩ (by omega)
        have hmv : (marksK k0 n).getD k dK = ⟨(k0 : Int) + (k : Int) * 4, (k0 : Int) + (k : Int) * 4 + 1, (k0 : Int) + (k : Int) * 4 + 2, (k0 : Int) + (k : Int) * 4 + 3⟩ := by rw [marksK_get _ _ _ hlt]; unfold mK; simp
        rw [← hmv, mixA_step _ _ n k dK hxl (marksK_len _ _) hlt] at hset
        simp only [hmv] at hset
        rw [hset] at s3
        have HC : Hid (_) := s3
        have HGC : Hid (_) := (((hgr.trans t0).trans t1).trans t2).trans t3
        clear s0 t0 o0 s1 t1 o1 s2 t2 o2 s3 t3 o3 hset hmv hown hgr
        go_wp2
        go_roundw
        case rel => exact ⟨k + 1, by omega, by go_num, by go_num, HC.out, HGC.out⟩
        case measure => simp [intOf]; omega
      · have e : k = n := by omega
        subst e
        rw [mixA_full _ _ k hxl (marksK_len _ _)] at hown
        go_wp2
        go_ret
        exact ⟨rfl, hown, hgr⟩

set_option maxRecDepth 100000 in
set_option maxHeartbeats 2000000 in
theorem c_heldK (a : Option Addr) (n cap k0 : Nat) (w : World) (hr : RdK w a n (marksK k0 n)) (h1 : 1 ≤ k0) (hn : n ≤ 1048576) (hk : k0 ≤ 8000000) :
    Calls Tryz.prog 153 #[.slice a n cap, .int .i64 k0] w fun e w' => e = .returned (.int .i64 (k0 + n * 4 : Nat)) ∧ w' = w := by
  obtain ⟨hl, hcs⟩ := hr
  go_enter Tryz.func153, Tryz.ntmps153
  go_wp2
  go_loopw [1, 5] (fun m i wr => ∃ k : Nat, k ≤ n ∧ i = .int .i64 k ∧ m = .int .i64 ((k0 + k * 4 : Nat) : Int) ∧ wr = w) (fun _ i _ => n - (intOf i).toNat)
  case atStart => exact ⟨0, by omega, rfl, by simp, rfl⟩
  case round =>
    obtain ⟨k, hk, rfl, rfl, rfl⟩ := hrel
    by_cases hlt : k < n
    · obtain ⟨b, off, rfl, hbl, hc⟩ := hcs (by omega)
      obtain ⟨d0, d1, d2, d3⟩ := hc k hlt
      rw [marksK_get _ _ _ hlt] at d0 d1 d2 d3
      have e0 : wr.cell? ⟨b, off + k * 4, none⟩ = some (.int .i64 ((k0 : Int) + (k : Int) * 4)) := by rw [d0]; unfold mK; simp
      have e1 : wr.cell? ⟨b, off + k * 4 + 1, none⟩ = some (.int .i64 ((k0 : Int) + (k : Int) * 4 + 1)) := by rw [d1]; unfold mK; simp
      have e2 : wr.cell? ⟨b, off + k * 4 + 2, none⟩ = some (.int .i64 ((k0 : Int) + (k : Int) * 4 + 2)) := by rw [d2]; unfold mK; simp
      have e3 : wr.cell? ⟨b, off + k * 4 + 3, none⟩ = some (.int .i64 ((k0 : Int) + (k : Int) * 4 + 3)) := by rw [d3]; unfold mK; simp
      clear hc hcs d0 d1 d2 d3
      go_wp2
      go_roundw
      case rel => exact ⟨k + 1, by omega, by go_num, by go_num, by first | rfl | trivial⟩
      case measure => simp [intOf]; omega
    · have e : k = n := by omega
      subst e
      go_wp2
      go_ret
      exact ⟨rfl, rfl⟩


end Go.Proofs.YtfibdpfhfgnbiaaGreatDoor.L
namespace Go.Proofs.YtfibdpfhfgnbiaaGreatDoor.L
open Go Go.RowKit
attribute [local go_sem ↓] Go.wp_at_zero Go.wp_at_succ

structure WK where
  x : Int
  f : Int
  deriving DecidableEq
def dW : WK := ⟨0, 0⟩
def cW (v : WK) : List Value := [.int .i64 v.x, .int .i64 v.f]
def cellsW (vs : List WK) : List Value := vs.flatMap cW
theorem cellsW_len (vs : List WK) : (cellsW vs).length = vs.length * 2 := by
  induction vs with
  | nil => rfl
  | cons v vs ih => rw [show cellsW (v :: vs) = cW v ++ cellsW vs from rfl, List.length_append, ih, List.length_cons]; simp only [cW, List.length_cons, List.length_nil]; omega
theorem cellsW_get : ∀ (vs : List WK) (i : Nat), i < vs.length → (cellsW vs)[i * 2]? = some (.int .i64 (vs.getD i dW).x) ∧ (cellsW vs)[i * 2 + 1]? = some (.int .i64 (vs.getD i dW).f)
  | v :: vs, 0, _ => by simp [cellsW, cW]
  | v :: vs, i + 1, h => by
    have := cellsW_get vs i (by simpa using h)
    have e : cellsW (v :: vs) = cW v ++ cellsW vs := rfl
    rw [e]
    have el : ∀ j, (cW v ++ cellsW vs)[j + 2]? = (cellsW vs)[j]? := fun j => by rw [List.getElem?_append_right (by simp [cW])]; simp [cW]
    rw [show (i + 1) * 2 = i * 2 + 2 by omega, show i * 2 + 2 + 1 = i * 2 + 1 + 2 by omega, el, el
      ]
    simpa using this
theorem cellsW_set : ∀ (vs : List WK) (i : Nat) (v : WK), i < vs.length → (((cellsW vs).set (i * 2) (.int .i64 v.x)).set (i * 2 + 1) (.int .i64 v.f)) = cellsW (vs.set i v)
  | u :: vs, 0, v, _ => by simp [cellsW, cW]
  | u :: vs, i + 1, v, h => by
    have ih := cellsW_set vs i v (by simpa using h)
    have e : cellsW (u :: vs) = .int .i64 u.x :: .int .i64 u.f :: cellsW vs := rfl
    have e2 : cellsW ((u :: vs).set (i + 1) v) = .int .i64 u.x :: .int .i64 u.f :: cellsW (vs.set i v) := rfl
    rw [e, e2, show (i + 1) * 2 = i * 2 + 1 + 1 by omega, ← ih]
    rfl
theorem cellsW_append (us vs : List WK) : cellsW (us ++ vs) = cellsW us ++ cellsW vs := by unfold cellsW; rw [List.flatMap_append]
def RdW (w : World) (a : Option Addr) (n : Nat) (vs : List WK) : Prop :=
  vs.length = n ∧ (0 < n → ∃ b off, a = some ⟨b, off, none⟩ ∧ b < w.heap.size ∧ ∀ i, i < n → w.cell? ⟨b, off + i * 2, none⟩ = some (.int .i64 (vs.getD i dW).x) ∧ w.cell? ⟨b, off + i * 2 + 1, none⟩ = some (.int .i64 (vs.getD i dW).f))
theorem RdW.below {w w' : World} {a : Option Addr} {n : Nat} {vs : List WK} (h : RdW w a n vs) (hb : Below w.heap.size w w') : RdW w' a n vs := by
  obtain ⟨h1, h3⟩ := h
  refine ⟨h1, fun hn => ?_⟩
  obtain ⟨b, off, e, hlt, hc⟩ := h3 hn
  refine ⟨b, off, e, Nat.lt_of_lt_of_le hlt hb.size, fun i hi => ?_⟩
  rw [hb.cell (p := ⟨b, off + i * 2, none⟩) hlt, hb.cell (p := ⟨b, off + i * 2 + 1, none⟩) hlt]
  exact hc i hi
theorem RdW.own {w : World} {base e n : Nat} {a : Option Addr} {m cap : Nat} {vs : List WK} (h : w.ownsRow base e 2 (.slice a m cap) n (cellsW vs)) : RdW w a m vs := by
  have hl : vs.length = n := by have := h.1; rw [cellsW_len] at this; omega
  rcases h.2 with ⟨hv, h0⟩ | ⟨g, cap', cur, hv, hb, hg, hnc, hcm, hcs, htake⟩
  · simp only [Value.slice.injEq] at hv
    obtain ⟨rfl, rfl, rfl⟩ := hv
    exact ⟨by omega, fun h => absurd h (by omega)⟩
  · simp only [Value.slice.injEq] at hv
    obtain ⟨rfl, rfl, rfl⟩ := hv
    refine ⟨hl, fun _ => ⟨g, 0, rfl, ?_, fun i hi => ?_⟩⟩
    · rcases Nat.lt_or_ge g w.heap.size with h1 | h1
      · exact h1
      · rw [Array.getElem?_eq_none h1] at hg; cases hg
    · rw [Nat.zero_add, h.cellAt (i * 2) (by omega), h.cellAt (i * 2 + 1) (by omega)]
      exact cellsW_get vs i (by omega)
theorem madeW (n : Nat) : (madeCells #[.int .i64 0, .int .i64 0] (n * 2)).toList = cellsW (List.replicate n dW) := by
  apply List.ext_getElem?
  intro j
  by_cases hj : j < n * 2
  · have h1 : (madeCells #[.int .i64 0, .int .i64 0] (n * 2)).toList[j]? = some (#[Value.int .i64 0, Value.int .i64 0][j % 2]!) := by
      simp [madeCells, hj]
    rw [h1]
    have hi : j / 2 < (List.replicate n dW).length := by simp; omega
    obtain ⟨c0, c1⟩ := cellsW_get (List.replicate n dW) (j / 2) hi
    have hd : (List.replicate n dW).getD (j / 2) dW = dW := by rw [List.getD_eq_getElem?_getD, List.getElem?_eq_getElem hi]; simp
    rw [hd] at c0 c1
    have hm : j % 2 = 0 ∨ j % 2 = 1 := by omega
    rcases hm with h | h
    · rw [h, show j = j / 2 * 2 by omega, c0]; rfl
    · rw [h, show j = j / 2 * 2 + 1 by omega, c1]; rfl
  · rw [List.getElem?_eq_none (by simp [size_madeCells]; omega), List.getElem?_eq_none (by rw [cellsW_len]; simp; omega)]
theorem infoW : (Tryz.prog.info? 100).map (fun i => (i.zero, i.size, i.bytes)) = some (some (.agg #[.int .i64 0, .int .i64 0]), 2, 16) := by kernel_rfl
theorem own_putW {w : World} {base e g n cap : Nat} {vs : List WK} (h : w.ownsRow base e 2 (.slice (some ⟨g, 0, none⟩) n cap) n (cellsW vs)) (i : Nat) (v : WK) (hi : i < vs.length) :
    (((w.setCell ⟨g, i * 2, none⟩ (.int .i64 v.x)).setCell ⟨g, i * 2 + 1, none⟩ (.int .i64 v.f))).ownsRow base e 2 (.slice (some ⟨g, 0, none⟩) n cap) n (cellsW (vs.set i v)) := by
  have h1 := (h.stored (i * 2) (.int .i64 v.x)).1
  have h2 := (h1.stored (i * 2 + 1) (.int .i64 v.f)).1
  rw [cellsW_set vs i v hi] at h2
  exact h2
set_option maxRecDepth 100000 in
set_option maxHeartbeats 2000000 in
theorem c_toW1 (vx vf : Int) (w : World) :
    Calls Tryz.prog 206 #[.agg #[.int .i64 vx, .int .i64 vf]] w fun e w' => e = .returned (.agg #[.int .i64 vx, .int .i64 vf]) ∧ Below w.heap.size w w' := by
  go_enter Tryz.func206, Tryz.ntmps206
  go_wp2
  refine bodyPost_ret (v := .agg #[.int .i64 vx, .int .i64 vf]) (by simp [results, Tryz.results206, go_sem]) rfl ⟨rfl, ?_⟩
  exact (((Below.refl _ _).alloc (Nat.le_refl _) _).alloc (by simp) _).alloc (by simp; omega) _

set_option maxRecDepth 100000 in
set_option maxHeartbeats 2000000 in
theorem c_toW (a : Option Addr) (n cap : Nat) (vs : List WK) (w : World) (hr : RdW w a n vs) (hn : n ≤ 1048576) :
    Calls Tryz.prog 125 #[.slice a n cap] w fun e w' => e = .returned (.slice (some ⟨w.heap.size, 0, none⟩) n n) ∧ w'.ownsRow w.heap.size 100 2 (.slice (some ⟨w.heap.size, 0, none⟩) n n) n (cellsW vs) ∧ Below w.heap.size w w' := by
  obtain ⟨hl, hcs⟩ := hr
  obtain ⟨i0, hi, hz0, hz1, hz2⟩ := info_parts infoW
  go_enter Tryz.func125, Tryz.ntmps125
  go_wp2_with (at_make; refine wpList_make_full _ rfl (.tmp 6) (.tmp 6) 49 rfl w.heap.size 100 i0 (.agg #[.int .i64 0, .int .i64 0]) 2 Tryz.underlying49 hi hz0 hz1 .i64 .i64 _ _ n rfl rfl rfl rfl (by rw [hz2]; omega) (by unfold maxLen; omega) (Nat.le_refl _) ?_; intro w1 hown hgrow)
  go_loopw [4] (fun i wr => ∃ k : Nat, k ≤ n ∧ i = .int .i64 k ∧ wr.ownsRow w.heap.size 100 2 (.slice (some ⟨w.heap.size, 0, none⟩) n n) n (cellsW (partA dW vs n k)) ∧ Below w.heap.size w wr) (fun i _ => n - (intOf i).toNat)
  case atStart => exact ⟨0, by omega, rfl, by have e := madeW n; simp only [Value.cells] at hown; rw [e] at hown; simpa [partA] using hown, (Below.refl _ _).grown hgrow (Nat.le_refl _) (fun k h => by cases h)⟩
  case round =>
    obtain ⟨k, hk, rfl, hown, hb⟩ := hrel
    by_cases hlt : k < n
    · obtain ⟨b, off, rfl, hbl, hc⟩ := hcs (by omega)
      obtain ⟨⟨vx, vf⟩, hv⟩ : ∃ v, v = vs.getD k dW := ⟨_, rfl⟩
      obtain ⟨d0, d1⟩ := hc k hlt
      rw [← hv] at d0 d1
      have e0 : wr.cell? ⟨b, off + k * 2, none⟩ = some (.int .i64 vx) := by rw [hb.cell (p := ⟨b, off + k * 2, none⟩) hbl, d0]
      have e1 : wr.cell? ⟨b, off + k * 2 + 1, none⟩ = some (.int .i64 vf) := by rw [hb.cell (p := ⟨b, off + k * 2 + 1, none⟩) hbl, d1]
      have HV : Hid ((⟨vx, vf⟩ : WK) = vs.getD k dW) := hv
      clear hc hcs hgrow d0 d1 hv
      go_wp2_with fail
      refine (c_toW1 _ _ _).mono ?_
      rintro e w1 ⟨rfl, hb1⟩
      have hown1 := own_below hown hb1
      have hbb : Below w.heap.size w w1 := hb.trans (hb1.mono hb.size)
      have hpl := partA_len dW vs n k hl hk
      obtain ⟨o0, o1⟩ := cellsW_get (partA dW vs n k) k (by omega)
      have f0 := hown1.cellAt (k * 2) (by omega)
      rw [o0] at f0
      have z0 := hown1.frozenAt (k * 2)
      have f1 := hown1.cellAt (k * 2 + 1) (by omega)
      rw [o1] at f1
      have z1 := hown1.frozenAt (k * 2 + 1)
      have hput := own_putW hown1 k ⟨vx, vf⟩ (by omega)
      rw [HV.out, partA_step dW vs n k hl hlt, ← HV.out] at hput
      have HP : Hid (_) := hput
      clear hput hown1 hown hb1 o0 e0 o1 e1
      go_wp2
      go_roundw
      case rel => exact ⟨k + 1, by omega, by go_num, HP.out, ((hbb.setCell (Nat.le_refl _) _).setCell (Nat.le_refl _) _)⟩
      case measure => simp [intOf]; omega
    · have e : k = n := by omega
      subst e
      rw [partA_full _ _ k hl] at hown
      go_wp2
      go_ret
      exact ⟨rfl, hown, hb⟩

def sizeW (left : Int) (n : Nat) : Int := if left - n < 0 then -1 else left - n
theorem c_szW (a : Option Addr) (n cap : Nat) (left : Int) (w : World) (hm : n ≤ maxLen) (h0 : 0 ≤ left) (h1 : left ≤ 1048576) :
    Calls Tryz.prog 116 #[.slice a n cap, .int .i64 left] w fun e w' => e = .returned (.int .i64 (sizeW left n)) ∧ w' = w := by
  unfold maxLen at hm
  unfold sizeW
  by_cases hn : left - n < 0
  · rw [if_pos hn]
    go_enter Tryz.func116, Tryz.ntmps116
    go_wp2
    go_ret
    exact ⟨rfl, rfl⟩
  · rw [if_neg hn]
    go_enter Tryz.func116, Tryz.ntmps116
    go_wp2
    go_ret
    exact ⟨rfl, rfl⟩

set_option maxRecDepth 100000 in
set_option maxHeartbeats 2000000 in
theorem c_eqW1 (vx vf : Int) (w : World) :
    Calls Tryz.prog 221 #[.agg #[.int .i64 vx, .int .i64 vf], .agg #[.int .i64 vx, .int .i64 vf]] w fun e w' => e = .returned (.bool true) ∧ Below w.heap.size w w' := by
  have e0 : (vx != vx) = false := by simp
  have e1 : (vf != vf) = false := by simp
  go_enter Tryz.func221, Tryz.ntmps221
  go_wp2
  go_ret
  exact ⟨rfl, ((Below.refl _ _).alloc (Nat.le_refl _) _).alloc (by simp) _⟩

set_option maxRecDepth 100000 in
set_option maxHeartbeats 2000000 in
theorem c_eqW (a a' : Option Addr) (n cap cap' : Nat) (zs : List WK) (w : World) (hr : RdW w a n zs) (hr' : RdW w a' n zs) (hn : n ≤ 1048576) :
    Calls Tryz.prog 145 #[.slice a n cap, .slice a' n cap'] w fun e w' => e = .returned (.bool true) ∧ Below w.heap.size w w' := by
  obtain ⟨hl, hcs⟩ := hr
  obtain ⟨hl', hcs'⟩ := hr'
  go_enter Tryz.func145, Tryz.ntmps145
  go_wp2
  go_loopw [5] (fun i wr => ∃ k : Nat, k ≤ n ∧ i = .int .i64 k ∧ Below w.heap.size w wr) (fun i _ => n - (intOf i).toNat)
  case atStart => exact ⟨0, by omega, rfl, Below.refl _ _⟩
  case round =>
    obtain ⟨k, hk, rfl, hb⟩ := hrel
    by_cases hlt : k < n
    · obtain ⟨b, off, rfl, hbl, hc⟩ := hcs (by omega)
      obtain ⟨b', off', rfl, hbl', hc'⟩ := hcs' (by omega)
      obtain ⟨⟨vx, vf⟩, hv⟩ : ∃ v, v = zs.getD k dW := ⟨_, rfl⟩
      obtain ⟨d0, d1⟩ := hc k hlt
      obtain ⟨x0, x1⟩ := hc' k hlt
      rw [← hv] at d0 x0 d1 x1
      have e0 : wr.cell? ⟨b, off + k * 2, none⟩ = some (.int .i64 vx) := by rw [hb.cell (p := ⟨b, off + k * 2, none⟩) hbl, d0]
      have e1 : wr.cell? ⟨b, off + k * 2 + 1, none⟩ = some (.int .i64 vf) := by rw [hb.cell (p := ⟨b, off + k * 2 + 1, none⟩) hbl, d1]
      have y0 : wr.cell? ⟨b', off' + k * 2, none⟩ = some (.int .i64 vx) := by rw [hb.cell (p := ⟨b', off' + k * 2, none⟩) hbl', x0]
      have y1 : wr.cell? ⟨b', off' + k * 2 + 1, none⟩ = some (.int .i64 vf) := by rw [hb.cell (p := ⟨b', off' + k * 2 + 1, none⟩) hbl', x1]
      have g1 : (0 : Int) ≤ (k : Int) := by omega
      have g2 : (k : Int) < (n : Int) := by omega
      have C : Hid (∀ wx, Calls Tryz.prog 221 #[.agg #[.int .i64 vx, .int .i64 vf], .agg #[.int .i64 vx, .int .i64 vf]] wx fun e w' => e = .returned (.bool true) ∧ Below wx.heap.size wx w') := fun wx => c_eqW1 vx vf wx
      clear hc hc' hcs hcs' hv d0 x0 d1 x1
      go_wp2_with fail
      go_region_held3 (fun x => x.cell? ⟨b, off + k * 2, none⟩ = some (.int .i64 vx) ∧ x.cell? ⟨b, off + k * 2 + 1, none⟩ = some (.int .i64 vf) ∧ x.cell? ⟨b', off' + k * 2, none⟩ = some (.int .i64 vx) ∧ x.cell? ⟨b', off' + k * 2 + 1, none⟩ = some (.int .i64 vf))
        (first | go_keep | (exact ⟨far6 hb3 e0, far6 hb3 e1, far6 hb3 y0, far6 hb3 y1⟩))
        (first | (go_at_call 221; refine (C.out _).mono ?_; rintro e w3 ⟨rfl, hb3⟩))
      have hb' : Below w.heap.size w w3 := hb.drew.trans (hb3.mono hb.size)
      clear hb3 e0 y0 e1 y1 C
      go_wp2
      go_roundw
      case rel => exact ⟨k + 1, by omega, by go_num, hb'⟩
      case measure => simp [intOf]; omega
    · have e : k = n := by omega
      subst e
      go_wp2
      go_ret
      exact ⟨rfl, hb⟩

def mW (k0 i : Nat) : WK := ⟨((k0 + i * 2 : Nat) : Int), ((k0 + i * 2 + 1 : Nat) : Int)⟩
def marksW (k0 n : Nat) : List WK := (List.range n).map (mW k0)
theorem marksW_len (k0 n : Nat) : (marksW k0 n).length = n := by simp [marksW]
theorem marksW_get (k0 n k : Nat) (h : k < n) : (marksW k0 n).getD k dW = mW k0 k := by
  unfold marksW; rw [List.getD_eq_getElem?_getD, List.getElem?_map, List.getElem?_range h]; rfl
set_option maxRecDepth 100000 in
set_option maxHeartbeats 2000000 in
theorem c_markW (base : Nat) (v : Value) (n k0 : Nat) (xs : List WK) (w : World) (hown : w.ownsRow base 100 2 v n (cellsW xs)) (h1 : 1 ≤ k0) (hn : n ≤ 1048576) (hk : k0 ≤ 8000000) :
    Calls Tryz.prog 152 #[v, .int .i64 k0] w fun e w' => e = .returned (.int .i64 (k0 + n * 2 : Nat)) ∧ w'.ownsRow base 100 2 v n (cellsW (marksW k0 n)) ∧ w.grownBy w' v.ownBlock := by
  have hxl : xs.length = n := by have := hown.1; rw [cellsW_len] at this; omega
  rcases own_form hown with ⟨rfl, rfl⟩ | ⟨g, cap, rfl, hg1, hg2⟩
  · go_enter Tryz.func152, Tryz.ntmps152
    go_wp2
    refine wp_loop_rounds 1 ?_
    rw [rounds_succ]
    go_wp2
    go_ret
    exact ⟨by simp, by simpa [marksW, cellsW] using World.ownsRow_nil w base 100 2, World.grownBy.refl _ _⟩
  · go_enter Tryz.func152, Tryz.ntmps152
    go_wp2
    go_loopw [1, 5] (fun m i wr => ∃ k : Nat, k ≤ n ∧ i = .int .i64 k ∧ m = .int .i64 ((k0 + k * 2 : Nat) : Int) ∧ wr.ownsRow base 100 2 (.slice (some ⟨g, 0, none⟩) n cap) n (cellsW (mixA (marksW k0 n) xs k)) ∧ w.grownBy wr (some g)) (fun _ i _ => n - (intOf i).toNat)
    case atStart => exact ⟨0, by omega, rfl, by simp, by rw [mixA_zero]; exact hown, World.grownBy.refl _ _⟩
    case round =>
      obtain ⟨k, hk, rfl, rfl, hown, hgr⟩ := hrel
      by_cases hlt : k < n
      · have hml := mixA_len (marksW k0 n) xs n k hxl (marksW_len _ _) hk
        obtain ⟨o0, o1⟩ := cellsW_get (mixA (marksW k0 n) xs k) k (by omega)
        have f0 := hown.cellAt (k * 2) (by omega)
        rw [o0] at f0
        have z0 := hown.frozenAt (k * 2)
        have f1 := hown.cellAt (k * 2 + 1) (by omega)
        rw [o1] at f1
        have z1 := hown.frozenAt (k * 2 + 1)
        obtain ⟨s0, t0⟩ := hown.stored (k * 2) (.int .i64 ((k0 : Int) + (k : Int) * 2))
        obtain ⟨s1, t1⟩ := s0.stored (k * 2 + 1) (.int .i64 ((k0 : Int) + (k : Int) * 2 + 1))
        have hset := cellsW_set (mixA (marksW k0 n) xs k) k ⟨(k0 : Int) + (k : Int) * 2, (k0 : Int) + (k : Int) * 2 + 1⟩ (by omega)
        have hmv : (marksW k0 n).getD k dW = ⟨(k0 : Int) + (k : Int) * 2, (k0 : Int) + (k : Int) * 2 + 1⟩ := by rw [marksW_get _ _ _ hlt]; unfold mW; simp
        rw [← hmv, mixA_step _ _ n k dW hxl (marksW_len _ _) hlt] at hset
        simp only [hmv] at hset
        rw [hset] at s1
        have HC : Hid (_) := s1
        have HGC : Hid (_) := (hgr.trans t0).trans t1
        clear s0 t0 o0 s1 t1 o1 hset hmv hown hgr
        go_wp2
        go_roundw
        case rel => exact ⟨k + 1, by omega, by go_num, by go_num, HC.out, HGC.out⟩
        case measure => simp [intOf]; omega
      · have e : k = n := by omega
        subst e
        rw [mixA_full _ _ k hxl (marksW_len _ _)] at hown
        go_wp2
        go_ret
        exact ⟨rfl, hown, hgr⟩

set_option maxRecDepth 100000 in
set_option maxHeartbeats 2000000 in
theorem c_heldW (a : Option Addr) (n cap k0 : Nat) (w : World) (hr : RdW w a n (marksW k0 n)) (h1 : 1 ≤ k0) (hn : n ≤ 1048576) (hk : k0 ≤ 8000000) :
    Calls Tryz.prog 154 #[.slice a n cap, .int .i64 k0] w fun e w' => e = .returned (.int .i64 (k0 + n * 2 : Nat)) ∧ w' = w := by
  obtain ⟨hl, hcs⟩ := hr
  go_enter Tryz.func154, Tryz.ntmps154
  go_wp2
  go_loopw [1, 5] (fun m i wr => ∃ k : Nat, k ≤ n ∧ i = .int .i64 k ∧ m = .int .i64 ((k0 + k * 2 : Nat) : Int) ∧ wr = w) (fun _ i _ => n - (intOf i).toNat)
  case atStart => exact ⟨0, by omega, rfl, by simp, rfl⟩
  case round =>
    obtain ⟨k, hk, rfl, rfl, rfl⟩ := hrel
    by_cases hlt : k < n
    · obtain ⟨b, off, rfl, hbl, hc⟩ := hcs (by omega)
      obtain ⟨d0, d1⟩ := hc k hlt
      rw [marksW_get _ _ _ hlt] at d0 d1
      have e0 : wr.cell? ⟨b, off + k * 2, none⟩ = some (.int .i64 ((k0 : Int) + (k : Int) * 2)) := by rw [d0]; unfold mW; simp
      have e1 : wr.cell? ⟨b, off + k * 2 + 1, none⟩ = some (.int .i64 ((k0 : Int) + (k : Int) * 2 + 1)) := by rw [d1]; unfold mW; simp
      clear hc hcs d0 d1
      go_wp2
      go_roundw
      case rel => exact ⟨k + 1, by omega, by go_num, by go_num, by first | rfl | trivial⟩
      case measure => simp [intOf]; omega
    · have e : k = n := by omega
      subst e
      go_wp2
      go_ret
      exact ⟨rfl, rfl⟩


end Go.Proofs.YtfibdpfhfgnbiaaGreatDoor.L
