/-
  Lists of pages with their Firsts, and of transactions with their Lasts: comparisons, marks.
-/
import Derived.Test.YtimdoaehlciecaaYta
namespace Go.Proofs.Ytimdoaehlciecaa
open Go Go.RowKit
attribute [local go_sem ↓] Go.wp_at_zero Go.wp_at_succ

def mixA {α : Type} (ys xs : List α) (k : Nat) : List α := ys.take k ++ xs.drop k
theorem mixA_zero {α : Type} (ys xs : List α) : mixA ys xs 0 = xs := by simp [mixA]
theorem mixA_len {α : Type} (ys xs : List α) (n k : Nat) (hx : xs.length = n) (hy : ys.length = n) (hk : k ≤ n) : (mixA ys xs k).length = n := by unfold mixA; simp; omega
theorem mixA_step {α : Type} (ys xs : List α) (n k : Nat) (d : α) (hx : xs.length = n) (hy : ys.length = n) (hk : k < n) : (mixA ys xs k).set k (ys.getD k d) = mixA ys xs (k + 1) := by
  unfold mixA
  have hl : (ys.take k).length = k := by simp; omega
  rw [List.set_append, if_neg (by omega), hl, Nat.sub_self, List.drop_eq_getElem_cons (show k < xs.length by omega), List.set_cons_zero, List.take_add_one, List.append_assoc, List.getD_eq_getElem?_getD, List.getElem?_eq_getElem (by omega)]
  rfl
theorem mixA_full {α : Type} (ys xs : List α) (n : Nat) (hx : xs.length = n) (hy : ys.length = n) : mixA ys xs n = ys := by
  unfold mixA; rw [List.take_of_length_le (by omega), List.drop_eq_nil_of_le (by omega)]; simp
structure DK where
  n : Int
  f : Int
  deriving DecidableEq
def dD : DK := ⟨0, 0⟩
def cD (v : DK) : List Value := [.int .i64 v.n, .int .i64 v.f]
def cellsD (vs : List DK) : List Value := vs.flatMap cD
theorem cellsD_len (vs : List DK) : (cellsD vs).length = vs.length * 2 := by
  induction vs with
  | nil => rfl
  | cons v vs ih => rw [show cellsD (v :: vs) = cD v ++ cellsD vs from rfl, List.length_append, ih, List.length_cons]; simp only [cD, List.length_cons, List.length_nil]; omega
theorem cellsD_get : ∀ (vs : List DK) (i : Nat), i < vs.length → (cellsD vs)[i * 2]? = some (.int .i64 (vs.getD i dD).n) ∧ (cellsD vs)[i * 2 + 1]? = some (.int .i64 (vs.getD i dD).f)
  | v :: vs, 0, _ => by simp [cellsD, cD]
  | v :: vs, i + 1, h => by
    have := cellsD_get vs i (by simpa using h)
    have e : cellsD (v :: vs) = cD v ++ cellsD vs := rfl
    rw [e]
    have el : ∀ j, (cD v ++ cellsD vs)[j + 2]? = (cellsD vs)[j]? := fun j => by rw [List.getElem?_append_right (by simp [cD])]; simp [cD]
    rw [show (i + 1) * 2 = i * 2 + 2 by omega, show i * 2 + 2 + 1 = i * 2 + 1 + 2 by omega, el, el
      ]
    simpa using this
theorem cellsD_set : ∀ (vs : List DK) (i : Nat) (v : DK), i < vs.length → (((cellsD vs).set (i * 2) (.int .i64 v.n)).set (i * 2 + 1) (.int .i64 v.f)) = cellsD (vs.set i v)
  | u :: vs, 0, v, _ => by simp [cellsD, cD]
  | u :: vs, i + 1, v, h => by
    have ih := cellsD_set vs i v (by simpa using h)
    have e : cellsD (u :: vs) = .int .i64 u.n :: .int .i64 u.f :: cellsD vs := rfl
    have e2 : cellsD ((u :: vs).set (i + 1) v) = .int .i64 u.n :: .int .i64 u.f :: cellsD (vs.set i v) := rfl
    rw [e, e2, show (i + 1) * 2 = i * 2 + 1 + 1 by omega, ← ih]
    rfl
theorem cellsD_append (us vs : List DK) : cellsD (us ++ vs) = cellsD us ++ cellsD vs := by unfold cellsD; rw [List.flatMap_append]
def RdD (w : World) (a : Option Addr) (n : Nat) (vs : List DK) : Prop :=
  vs.length = n ∧ (0 < n → ∃ b off, a = some ⟨b, off, none⟩ ∧ b < w.heap.size ∧ ∀ i, i < n → w.cell? ⟨b, off + i * 2, none⟩ = some (.int .i64 (vs.getD i dD).n) ∧ w.cell? ⟨b, off + i * 2 + 1, none⟩ = some (.int .i64 (vs.getD i dD).f))
theorem RdD.below {w w' : World} {a : Option Addr} {n : Nat} {vs : List DK} (h : RdD w a n vs) (hb : Below w.heap.size w w') : RdD w' a n vs := by
  obtain ⟨h1, h3⟩ := h
  refine ⟨h1, fun hn => ?_⟩
  obtain ⟨b, off, e, hlt, hc⟩ := h3 hn
  refine ⟨b, off, e, Nat.lt_of_lt_of_le hlt hb.size, fun i hi => ?_⟩
  rw [hb.cell (p := ⟨b, off + i * 2, none⟩) hlt, hb.cell (p := ⟨b, off + i * 2 + 1, none⟩) hlt]
  exact hc i hi
theorem RdD.own {w : World} {base e n : Nat} {a : Option Addr} {m cap : Nat} {vs : List DK} (h : w.ownsRow base e 2 (.slice a m cap) n (cellsD vs)) : RdD w a m vs := by
  have hl : vs.length = n := by have := h.1; rw [cellsD_len] at this; omega
  rcases h.2 with ⟨hv, h0⟩ | ⟨g, cap', cur, hv, hb, hg, hnc, hcm, hcs, htake⟩
  · simp only [Value.slice.injEq] at hv
    obtain ⟨rfl, rfl, rfl⟩ := hv
    exact ⟨by omega, fun h => absurd h (by omega)⟩
  · simp only [Value.slice.injEq] at hv
    obtain ⟨rfl, rfl, rfl⟩ := hv
    refine ⟨hl, fun _ => ⟨g, 0, rfl, ?_, fun i hi => ?_⟩⟩
    · rcases Nat.lt_or_ge g w.heap.size with h1 | h1
      · exact h1
      · rw [Array.getElem?_eq_none h1] at hg; cases hg
    · rw [Nat.zero_add, h.cellAt (i * 2) (by omega), h.cellAt (i * 2 + 1) (by omega)]
      exact cellsD_get vs i (by omega)
theorem madeD (n : Nat) : (madeCells #[.int .i64 0, .int .i64 0] (n * 2)).toList = cellsD (List.replicate n dD) := by
  apply List.ext_getElem?
  intro j
  by_cases hj : j < n * 2
  · have h1 : (madeCells #[.int .i64 0, .int .i64 0] (n * 2)).toList[j]? = some (#[Value.int .i64 0, Value.int .i64 0][j % 2]!) := by
      simp [madeCells, hj]
    rw [h1]
    have hi : j / 2 < (List.replicate n dD).length := by simp; omega
    obtain ⟨c0, c1⟩ := cellsD_get (List.replicate n dD) (j / 2) hi
    have hd : (List.replicate n dD).getD (j / 2) dD = dD := by rw [List.getD_eq_getElem?_getD, List.getElem?_eq_getElem hi]; simp
    rw [hd] at c0 c1
    have hm : j % 2 = 0 ∨ j % 2 = 1 := by omega
    rcases hm with h | h
    · rw [h, show j = j / 2 * 2 by omega, c0]; rfl
    · rw [h, show j = j / 2 * 2 + 1 by omega, c1]; rfl
  · rw [List.getElem?_eq_none (by simp [size_madeCells]; omega), List.getElem?_eq_none (by rw [cellsD_len]; simp; omega)]
theorem infoDi : (Try.prog.info? 54).map (fun i => (i.zero, i.size, i.bytes)) = some (some (.agg #[.int .i64 0, .int .i64 0]), 2, 16) := by kernel_rfl
theorem own_putD {w : World} {base e g n cap : Nat} {vs : List DK} (h : w.ownsRow base e 2 (.slice (some ⟨g, 0, none⟩) n cap) n (cellsD vs)) (i : Nat) (v : DK) (hi : i < vs.length) :
    (((w.setCell ⟨g, i * 2, none⟩ (.int .i64 v.n)).setCell ⟨g, i * 2 + 1, none⟩ (.int .i64 v.f))).ownsRow base e 2 (.slice (some ⟨g, 0, none⟩) n cap) n (cellsD (vs.set i v)) := by
  have h1 := (h.stored (i * 2) (.int .i64 v.n)).1
  have h2 := (h1.stored (i * 2 + 1) (.int .i64 v.f)).1
  rw [cellsD_set vs i v hi] at h2
  exact h2
def sizeD (left : Int) (n : Nat) : Int := if left - n < 0 then -1 else left - n
set_option maxRecDepth 100000 in
set_option maxHeartbeats 2000000 in
theorem c_eqD1 (vn vf : Int) (w : World) :
    Calls Try.prog 30 #[.agg #[.int .i64 vn, .int .i64 vf], .agg #[.int .i64 vn, .int .i64 vf]] w fun e w' => e = .returned (.bool true) ∧ Below w.heap.size w w' := by
  have e0 : (vn != vn) = false := by simp
  have e1 : (vf != vf) = false := by simp
  go_enter Try.func30, Try.ntmps30
  go_wp2
  go_ret
  exact ⟨rfl, ((Below.refl _ _).alloc (Nat.le_refl _) _).alloc (by simp) _⟩

set_option maxRecDepth 100000 in
set_option maxHeartbeats 2000000 in
theorem c_eqD (a a' : Option Addr) (n cap cap' : Nat) (zs : List DK) (w : World) (hr : RdD w a n zs) (hr' : RdD w a' n zs) (hn : n ≤ 1048576) :
    Calls Try.prog 13 #[.slice a n cap, .slice a' n cap'] w fun e w' => e = .returned (.bool true) ∧ Below w.heap.size w w' := by
  obtain ⟨hl, hcs⟩ := hr
  obtain ⟨hl', hcs'⟩ := hr'
  go_enter Try.func13, Try.ntmps13
  go_wp2
  go_loopw [5] (fun i wr => ∃ k : Nat, k ≤ n ∧ i = .int .i64 k ∧ Below w.heap.size w wr) (fun i _ => n - (intOf i).toNat)
  case atStart => exact ⟨0, by omega, rfl, Below.refl _ _⟩
  case round =>
    obtain ⟨k, hk, rfl, hb⟩ := hrel
    by_cases hlt : k < n
    · obtain ⟨b, off, rfl, hbl, hc⟩ := hcs (by omega)
      obtain ⟨b', off', rfl, hbl', hc'⟩ := hcs' (by omega)
      obtain ⟨⟨vn, vf⟩, hv⟩ : ∃ v, v = zs.getD k dD := ⟨_, rfl⟩
      obtain ⟨d0, d1⟩ := hc k hlt
      obtain ⟨x0, x1⟩ := hc' k hlt
      rw [← hv] at d0 x0 d1 x1
      have e0 : wr.cell? ⟨b, off + k * 2, none⟩ = some (.int .i64 vn) := by rw [hb.cell (p := ⟨b, off + k * 2, none⟩) hbl, d0]
      have e1 : wr.cell? ⟨b, off + k * 2 + 1, none⟩ = some (.int .i64 vf) := by rw [hb.cell (p := ⟨b, off + k * 2 + 1, none⟩) hbl, d1]
      have y0 : wr.cell? ⟨b', off' + k * 2, none⟩ = some (.int .i64 vn) := by rw [hb.cell (p := ⟨b', off' + k * 2, none⟩) hbl', x0]
      have y1 : wr.cell? ⟨b', off' + k * 2 + 1, none⟩ = some (.int .i64 vf) := by rw [hb.cell (p := ⟨b', off' + k * 2 + 1, none⟩) hbl', x1]
      have g1 : (0 : Int) ≤ (k : Int) := by omega
      have g2 : (k : Int) < (n : Int) := by omega
      have C : Hid (∀ wx, Calls Try.prog 30 #[.agg #[.int .i64 vn, .int .i64 vf], .agg #[.int .i64 vn, .int .i64 vf]] wx fun e w' => e = .returned (.bool true) ∧ Below wx.heap.size wx w') := fun wx => c_eqD1 vn vf wx
      clear hc hc' hcs hcs' hv d0 x0 d1 x1
      go_wp2_with fail
      go_region_held3 (fun x => x.cell? ⟨b, off + k * 2, none⟩ = some (.int .i64 vn) ∧ x.cell? ⟨b, off + k * 2 + 1, none⟩ = some (.int .i64 vf) ∧ x.cell? ⟨b', off' + k * 2, none⟩ = some (.int .i64 vn) ∧ x.cell? ⟨b', off' + k * 2 + 1, none⟩ = some (.int .i64 vf))
        (first | go_keep | (exact ⟨far6 hb3 e0, far6 hb3 e1, far6 hb3 y0, far6 hb3 y1⟩))
        (first | (go_at_call 30; refine (C.out _).mono ?_; rintro e w3 ⟨rfl, hb3⟩))
      have hb' : Below w.heap.size w w3 := hb.drew.trans (hb3.mono hb.size)
      clear hb3 e0 y0 e1 y1 C
      go_wp2
      go_roundw
      case rel => exact ⟨k + 1, by omega, by go_num, hb'⟩
      case measure => simp [intOf]; omega
    · have e : k = n := by omega
      subst e
      go_wp2
      go_ret
      exact ⟨rfl, hb⟩

def mD (k0 i : Nat) : DK := ⟨((k0 + i * 2 : Nat) : Int), ((k0 + i * 2 + 1 : Nat) : Int)⟩
def marksD (k0 n : Nat) : List DK := (List.range n).map (mD k0)
theorem marksD_len (k0 n : Nat) : (marksD k0 n).length = n := by simp [marksD]
theorem marksD_get (k0 n k : Nat) (h : k < n) : (marksD k0 n).getD k dD = mD k0 k := by
  unfold marksD; rw [List.getD_eq_getElem?_getD, List.getElem?_map, List.getElem?_range h]; rfl
set_option maxRecDepth 100000 in
set_option maxHeartbeats 2000000 in
theorem c_markD (base : Nat) (v : Value) (n k0 : Nat) (xs : List DK) (w : World) (hown : w.ownsRow base 54 2 v n (cellsD xs)) (h1 : 1 ≤ k0) (hn : n ≤ 1048576) (hk : k0 ≤ 8000000) :
    Calls Try.prog 16 #[v, .int .i64 k0] w fun e w' => e = .returned (.int .i64 (k0 + n * 2 : Nat)) ∧ w'.ownsRow base 54 2 v n (cellsD (marksD k0 n)) ∧ w.grownBy w' v.ownBlock := by
  have hxl : xs.length = n := by have := hown.1; rw [cellsD_len] at this; omega
  rcases own_form hown with ⟨rfl, rfl⟩ | ⟨g, cap, rfl, hg1, hg2⟩
  · go_enter Try.func16, Try.ntmps16
    go_wp2
    refine wp_loop_rounds 1 ?_
    rw [rounds_succ]
    go_wp2
    go_ret
    exact ⟨by simp, by simpa [marksD, cellsD] using World.ownsRow_nil w base 54 2, World.grownBy.refl _ _⟩
  · go_enter Try.func16, Try.ntmps16
    go_wp2
    go_loopw [1, 5] (fun m i wr => ∃ k : Nat, k ≤ n ∧ i = .int .i64 k ∧ m = .int .i64 ((k0 + k * 2 : Nat) : Int) ∧ wr.ownsRow base 54 2 (.slice (some ⟨g, 0, none⟩) n cap) n (cellsD (mixA (marksD k0 n) xs k)) ∧ w.grownBy wr (some g)) (fun _ i _ => n - (intOf i).toNat)
    case atStart => exact ⟨0, by omega, rfl, by simp, by rw [mixA_zero]; exact hown, World.grownBy.refl _ _⟩
    case round =>
      obtain ⟨k, hk, rfl, rfl, hown, hgr⟩ := hrel
      by_cases hlt : k < n
      · have hml := mixA_len (marksD k0 n) xs n k hxl (marksD_len _ _) hk
        obtain ⟨o0, o1⟩ := cellsD_get (mixA (marksD k0 n) xs k) k (by omega)
        have f0 := hown.cellAt (k * 2) (by omega)
        rw [o0] at f0
        have z0 := hown.frozenAt (k * 2)
        have f1 := hown.cellAt (k * 2 + 1) (by omega)
        rw [o1] at f1
        have z1 := hown.frozenAt (k * 2 + 1)
        obtain ⟨s0, t0⟩ := hown.stored (k * 2) (.int .i64 ((k0 : Int) + (k : Int) * 2))
        obtain ⟨s1, t1⟩ := s0.stored (k * 2 + 1) (.int .i64 ((k0 : Int) + (k : Int) * 2 + 1))
        have hset := cellsD_set (mixA (marksD k0 n) xs k) k ⟨(k0 : Int) + (k : Int) * 2, (k0 : Int) + (k : Int) * 2 + 1⟩ (by omega)
        have hmv : (marksD k0 n).getD k dD = ⟨(k0 : Int) + (k : Int) * 2, (k0 : Int) + (k : Int) * 2 + 1⟩ := by rw [marksD_get _ _ _ hlt]; unfold mD; simp
        rw [← hmv, mixA_step _ _ n k dD hxl (marksD_len _ _) hlt] at hset
        simp only [hmv] at hset
        rw [hset] at s1
        have HC : Hid (_) := s1
        have HGC : Hid (_) := (hgr.trans t0).trans t1
        clear s0 t0 o0 s1 t1 o1 hset hmv hown hgr
        go_wp2
        go_roundw
        case rel => exact ⟨k + 1, by omega, by go_num, by go_num, HC.out, HGC.out⟩
        case measure => simp [intOf]; omega
      · have e : k = n := by omega
        subst e
        rw [mixA_full _ _ k hxl (marksD_len _ _)] at hown
        go_wp2
        go_ret
        exact ⟨rfl, hown, hgr⟩

set_option maxRecDepth 100000 in
set_option maxHeartbeats 2000000 in
theorem c_heldD (a : Option Addr) (n cap k0 : Nat) (w : World) (hr : RdD w a n (marksD k0 n)) (h1 : 1 ≤ k0) (hn : n ≤ 1048576) (hk : k0 ≤ 8000000) :
    Calls Try.prog 18 #[.slice a n cap, .int .i64 k0] w fun e w' => e = .returned (.int .i64 (k0 + n * 2 : Nat)) ∧ w' = w := by
  obtain ⟨hl, hcs⟩ := hr
  go_enter Try.func18, Try.ntmps18
  go_wp2
  go_loopw [1, 5] (fun m i wr => ∃ k : Nat, k ≤ n ∧ i = .int .i64 k ∧ m = .int .i64 ((k0 + k * 2 : Nat) : Int) ∧ wr = w) (fun _ i _ => n - (intOf i).toNat)
  case atStart => exact ⟨0, by omega, rfl, by simp, rfl⟩
  case round =>
    obtain ⟨k, hk, rfl, rfl, rfl⟩ := hrel
    by_cases hlt : k < n
    · obtain ⟨b, off, rfl, hbl, hc⟩ := hcs (by omega)
      obtain ⟨d0, d1⟩ := hc k hlt
      rw [marksD_get _ _ _ hlt] at d0 d1
      have e0 : wr.cell? ⟨b, off + k * 2, none⟩ = some (.int .i64 ((k0 : Int) + (k : Int) * 2)) := by rw [d0]; unfold mD; simp
      have e1 : wr.cell? ⟨b, off + k * 2 + 1, none⟩ = some (.int .i64 ((k0 : Int) + (k : Int) * 2 + 1)) := by rw [d1]; unfold mD; simp
      clear hc hcs d0 d1
      go_wp2
      go_roundw
      case rel => exact ⟨k + 1, by omega, by go_num, by go_num, by first | rfl | trivial⟩
      case measure => simp [intOf]; omega
    · have e : k = n := by omega
      subst e
      go_wp2
      go_ret
      exact ⟨rfl, rfl⟩

structure TK where
  i : Int
  l : Int
  deriving DecidableEq
def dT : TK := ⟨0, 0⟩
def cT (v : TK) : List Value := [.int .i64 v.i, .int .i64 v.l]
def cellsT (vs : List TK) : List Value := vs.flatMap cT
theorem cellsT_len (vs : List TK) : (cellsT vs).length = vs.length * 2 := by
  induction vs with
  | nil => rfl
  | cons v vs ih => rw [show cellsT (v :: vs) = cT v ++ cellsT vs from rfl, List.length_append, ih, List.length_cons]; simp only [cT, List.length_cons, List.length_nil]; omega
theorem cellsT_get : ∀ (vs : List TK) (i : Nat), i < vs.length → (cellsT vs)[i * 2]? = some (.int .i64 (vs.getD i dT).i) ∧ (cellsT vs)[i * 2 + 1]? = some (.int .i64 (vs.getD i dT).l)
  | v :: vs, 0, _ => by simp [cellsT, cT]
  | v :: vs, i + 1, h => by
    have := cellsT_get vs i (by simpa using h)
    have e : cellsT (v :: vs) = cT v ++ cellsT vs := rfl
    rw [e]
    have el : ∀ j, (cT v ++ cellsT vs)[j + 2]? = (cellsT vs)[j]? := fun j => by rw [List.getElem?_append_right (by simp [cT])]; simp [cT]
    rw [show (i + 1) * 2 = i * 2 + 2 by omega, show i * 2 + 2 + 1 = i * 2 + 1 + 2 by omega, el, el
      ]
    simpa using this
theorem cellsT_set : ∀ (vs : List TK) (i : Nat) (v : TK), i < vs.length → (((cellsT vs).set (i * 2) (.int .i64 v.i)).set (i * 2 + 1) (.int .i64 v.l)) = cellsT (vs.set i v)
  | u :: vs, 0, v, _ => by simp [cellsT, cT]
  | u :: vs, i + 1, v, h => by
    have ih := cellsT_set vs i v (by simpa using h)
    have e : cellsT (u :: vs) = .int .i64 u.i :: .int .i64 u.l :: cellsT vs := rfl
    have e2 : cellsT ((u :: vs).set (i + 1) v) = .int .i64 u.i :: .int .i64 u.l :: cellsT (vs.set i v) := rfl
    rw [e, e2, show (i + 1) * 2 = i * 2 + 1 + 1 by omega, ← ih]
    rfl
theorem cellsT_append (us vs : List TK) : cellsT (us ++ vs) = cellsT us ++ cellsT vs := by unfold cellsT; rw [List.flatMap_append]
def RdT (w : World) (a : Option Addr) (n : Nat) (vs : List TK) : Prop :=
  vs.length = n ∧ (0 < n → ∃ b off, a = some ⟨b, off, none⟩ ∧ b < w.heap.size ∧ ∀ i, i < n → w.cell? ⟨b, off + i * 2, none⟩ = some (.int .i64 (vs.getD i dT).i) ∧ w.cell? ⟨b, off + i * 2 + 1, none⟩ = some (.int .i64 (vs.getD i dT).l))
theorem RdT.below {w w' : World} {a : Option Addr} {n : Nat} {vs : List TK} (h : RdT w a n vs) (hb : Below w.heap.size w w') : RdT w' a n vs := by
  obtain ⟨h1, h3⟩ := h
  refine ⟨h1, fun hn => ?_⟩
  obtain ⟨b, off, e, hlt, hc⟩ := h3 hn
  refine ⟨b, off, e, Nat.lt_of_lt_of_le hlt hb.size, fun i hi => ?_⟩
  rw [hb.cell (p := ⟨b, off + i * 2, none⟩) hlt, hb.cell (p := ⟨b, off + i * 2 + 1, none⟩) hlt]
  exact hc i hi
theorem RdT.own {w : World} {base e n : Nat} {a : Option Addr} {m cap : Nat} {vs : List TK} (h : w.ownsRow base e 2 (.slice a m cap) n (cellsT vs)) : RdT w a m vs := by
  have hl : vs.length = n := by have := h.1; rw [cellsT_len] at this; omega
  rcases h.2 with ⟨hv, h0⟩ | ⟨g, cap', cur, hv, hb, hg, hnc, hcm, hcs, htake⟩
  · simp only [Value.slice.injEq] at hv
    obtain ⟨rfl, rfl, rfl⟩ := hv
    exact ⟨by omega, fun h => absurd h (by omega)⟩
  · simp only [Value.slice.injEq] at hv
    obtain ⟨rfl, rfl, rfl⟩ := hv
    refine ⟨hl, fun _ => ⟨g, 0, rfl, ?_, fun i hi => ?_⟩⟩
    · rcases Nat.lt_or_ge g w.heap.size with h1 | h1
      · exact h1
      · rw [Array.getElem?_eq_none h1] at hg; cases hg
    · rw [Nat.zero_add, h.cellAt (i * 2) (by omega), h.cellAt (i * 2 + 1) (by omega)]
      exact cellsT_get vs i (by omega)
theorem madeT (n : Nat) : (madeCells #[.int .i64 0, .int .i64 0] (n * 2)).toList = cellsT (List.replicate n dT) := by
  apply List.ext_getElem?
  intro j
  by_cases hj : j < n * 2
  · have h1 : (madeCells #[.int .i64 0, .int .i64 0] (n * 2)).toList[j]? = some (#[Value.int .i64 0, Value.int .i64 0][j % 2]!) := by
      simp [madeCells, hj]
    rw [h1]
    have hi : j / 2 < (List.replicate n dT).length := by simp; omega
    obtain ⟨c0, c1⟩ := cellsT_get (List.replicate n dT) (j / 2) hi
    have hd : (List.replicate n dT).getD (j / 2) dT = dT := by rw [List.getD_eq_getElem?_getD, List.getElem?_eq_getElem hi]; simp
    rw [hd] at c0 c1
    have hm : j % 2 = 0 ∨ j % 2 = 1 := by omega
    rcases hm with h | h
    · rw [h, show j = j / 2 * 2 by omega, c0]; rfl
    · rw [h, show j = j / 2 * 2 + 1 by omega, c1]; rfl
  · rw [List.getElem?_eq_none (by simp [size_madeCells]; omega), List.getElem?_eq_none (by rw [cellsT_len]; simp; omega)]
theorem infoTx : (Try.prog.info? 57).map (fun i => (i.zero, i.size, i.bytes)) = some (some (.agg #[.int .i64 0, .int .i64 0]), 2, 16) := by kernel_rfl
theorem own_putT {w : World} {base e g n cap : Nat} {vs : List TK} (h : w.ownsRow base e 2 (.slice (some ⟨g, 0, none⟩) n cap) n (cellsT vs)) (i : Nat) (v : TK) (hi : i < vs.length) :
    (((w.setCell ⟨g, i * 2, none⟩ (.int .i64 v.i)).setCell ⟨g, i * 2 + 1, none⟩ (.int .i64 v.l))).ownsRow base e 2 (.slice (some ⟨g, 0, none⟩) n cap) n (cellsT (vs.set i v)) := by
  have h1 := (h.stored (i * 2) (.int .i64 v.i)).1
  have h2 := (h1.stored (i * 2 + 1) (.int .i64 v.l)).1
  rw [cellsT_set vs i v hi] at h2
  exact h2
def sizeT (left : Int) (n : Nat) : Int := if left - n < 0 then -1 else left - n
set_option maxRecDepth 100000 in
set_option maxHeartbeats 2000000 in
theorem c_eqT1 (vi vl : Int) (w : World) :
    Calls Try.prog 31 #[.agg #[.int .i64 vi, .int .i64 vl], .agg #[.int .i64 vi, .int .i64 vl]] w fun e w' => e = .returned (.bool true) ∧ Below w.heap.size w w' := by
  have e0 : (vi != vi) = false := by simp
  have e1 : (vl != vl) = false := by simp
  go_enter Try.func31, Try.ntmps31
  go_wp2
  go_ret
  exact ⟨rfl, ((Below.refl _ _).alloc (Nat.le_refl _) _).alloc (by simp) _⟩

set_option maxRecDepth 100000 in
set_option maxHeartbeats 2000000 in
theorem c_eqT (a a' : Option Addr) (n cap cap' : Nat) (zs : List TK) (w : World) (hr : RdT w a n zs) (hr' : RdT w a' n zs) (hn : n ≤ 1048576) :
    Calls Try.prog 14 #[.slice a n cap, .slice a' n cap'] w fun e w' => e = .returned (.bool true) ∧ Below w.heap.size w w' := by
  obtain ⟨hl, hcs⟩ := hr
  obtain ⟨hl', hcs'⟩ := hr'
  go_enter Try.func14, Try.ntmps14
  go_wp2
  go_loopw [5] (fun i wr => ∃ k : Nat, k ≤ n ∧ i = .int .i64 k ∧ Below w.heap.size w wr) (fun i _ => n - (intOf i).toNat)
  case atStart => exact ⟨0, by omega, rfl, Below.refl _ _⟩
  case round =>
    obtain ⟨k, hk, rfl, hb⟩ := hrel
    by_cases hlt : k < n
    · obtain ⟨b, off, rfl, hbl, hc⟩ := hcs (by omega)
      obtain ⟨b', off', rfl, hbl', hc'⟩ := hcs' (by omega)
      obtain ⟨⟨vi, vl⟩, hv⟩ : ∃ v, v = zs.getD k dT := ⟨_, rfl⟩
      obtain ⟨d0, d1⟩ := hc k hlt
      obtain ⟨x0, x1⟩ := hc' k hlt
      rw [← hv] at d0 x0 d1 x1
      have e0 : wr.cell? ⟨b, off + k * 2, none⟩ = some (.int .i64 vi) := by rw [hb.cell (p := ⟨b, off + k * 2, none⟩) hbl, d0]
      have e1 : wr.cell? ⟨b, off + k * 2 + 1, none⟩ = some (.int .i64 vl) := by rw [hb.cell (p := ⟨b, off + k * 2 + 1, none⟩) hbl, d1]
      have y0 : wr.cell? ⟨b', off' + k * 2, none⟩ = some (.int .i64 vi) := by rw [hb.cell (p := ⟨b', off' + k * 2, none⟩) hbl', x0]
      have y1 : wr.cell? ⟨b', off' + k * 2 + 1, none⟩ = some (.int .i64 vl) := by rw [hb.cell (p := ⟨b', off' + k * 2 + 1, none⟩) hbl', x1]
      have g1 : (0 : Int) ≤ (k : Int) := by omega
      have g2 : (k : Int) < (n : Int) := by omega
      have C : Hid (∀ wx, Calls Try.prog 31 #[.agg #[.int .i64 vi, .int .i64 vl], .agg #[.int .i64 vi, .int .i64 vl]] wx fun e w' => e = .returned (.bool true) ∧ Below wx.heap.size wx w') := fun wx => c_eqT1 vi vl wx
      clear hc hc' hcs hcs' hv d0 x0 d1 x1
      go_wp2_with fail
      go_region_held3 (fun x => x.cell? ⟨b, off + k * 2, none⟩ = some (.int .i64 vi) ∧ x.cell? ⟨b, off + k * 2 + 1, none⟩ = some (.int .i64 vl) ∧ x.cell? ⟨b', off' + k * 2, none⟩ = some (.int .i64 vi) ∧ x.cell? ⟨b', off' + k * 2 + 1, none⟩ = some (.int .i64 vl))
        (first | go_keep | (exact ⟨far6 hb3 e0, far6 hb3 e1, far6 hb3 y0, far6 hb3 y1⟩))
        (first | (go_at_call 31; refine (C.out _).mono ?_; rintro e w3 ⟨rfl, hb3⟩))
      have hb' : Below w.heap.size w w3 := hb.drew.trans (hb3.mono hb.size)
      clear hb3 e0 y0 e1 y1 C
      go_wp2
      go_roundw
      case rel => exact ⟨k + 1, by omega, by go_num, hb'⟩
      case measure => simp [intOf]; omega
    · have e : k = n := by omega
      subst e
      go_wp2
      go_ret
      exact ⟨rfl, hb⟩

def mT (k0 i : Nat) : TK := ⟨((k0 + i * 2 : Nat) : Int), ((k0 + i * 2 + 1 : Nat) : Int)⟩
def marksT (k0 n : Nat) : List TK := (List.range n).map (mT k0)
theorem marksT_len (k0 n : Nat) : (marksT k0 n).length = n := by simp [marksT]
theorem marksT_get (k0 n k : Nat) (h : k < n) : (marksT k0 n).getD k dT = mT k0 k := by
  unfold marksT; rw [List.getD_eq_getElem?_getD, List.getElem?_map, List.getElem?_range h]; rfl
set_option maxRecDepth 100000 in
set_option maxHeartbeats 2000000 in
theorem c_markT (base : Nat) (v : Value) (n k0 : Nat) (xs : List TK) (w : World) (hown : w.ownsRow base 57 2 v n (cellsT xs)) (h1 : 1 ≤ k0) (hn : n ≤ 1048576) (hk : k0 ≤ 8000000) :
    Calls Try.prog 17 #[v, .int .i64 k0] w fun e w' => e = .returned (.int .i64 (k0 + n * 2 : Nat)) ∧ w'.ownsRow base 57 2 v n (cellsT (marksT k0 n)) ∧ w.grownBy w' v.ownBlock := by
  have hxl : xs.length = n := by have := hown.1; rw [cellsT_len] at this; omega
  rcases own_form hown with ⟨rfl, rfl⟩ | ⟨g, cap, rfl, hg1, hg2⟩
  · go_enter Try.func17, Try.ntmps17
    go_wp2
    refine wp_loop_rounds 1 ?_
    rw [rounds_succ]
    go_wp2
    go_ret
    exact ⟨by simp, by simpa [marksT, cellsT] using World.ownsRow_nil w base 57 2, World.grownBy.refl _ _⟩
  · go_enter Try.func17, Try.ntmps17
    go_wp2
    go_loopw [1, 5] (fun m i wr => ∃ k : Nat, k ≤ n ∧ i = .int .i64 k ∧ m = .int .i64 ((k0 + k * 2 : Nat) : Int) ∧ wr.ownsRow base 57 2 (.slice (some ⟨g, 0, none⟩) n cap) n (cellsT (mixA (marksT k0 n) xs k)) ∧ w.grownBy wr (some g)) (fun _ i _ => n - (intOf i).toNat)
    case atStart => exact ⟨0, by omega, rfl, by simp, by rw [mixA_zero]; exact hown, World.grownBy.refl _ _⟩
    case round =>
      obtain ⟨k, hk, rfl, rfl, hown, hgr⟩ := hrel
      by_cases hlt : k < n
      · have hml := mixA_len (marksT k0 n) xs n k hxl (marksT_len _ _) hk
        obtain ⟨o0, o1⟩ := cellsT_get (mixA (marksT k0 n) xs k) k (by omega)
        have f0 := hown.cellAt (k * 2) (by omega)
        rw [o0] at f0
        have z0 := hown.frozenAt (k * 2)
        have f1 := hown.cellAt (k * 2 + 1) (by omega)
        rw [o1] at f1
        have z1 := hown.frozenAt (k * 2 + 1)
        obtain ⟨s0, t0⟩ := hown.stored (k * 2) (.int .i64 ((k0 : Int) + (k : Int) * 2))
        obtain ⟨s1, t1⟩ := s0.stored (k * 2 + 1) (.int .i64 ((k0 : Int) + (k : Int) * 2 + 1))
        have hset := cellsT_set (mixA (marksT k0 n) xs k) k ⟨(k0 : Int) + (k : Int) * 2, (k0 : Int) + (k : Int) * 2 + 1⟩ (by omega)
        have hmv : (marksT k0 n).getD k dT = ⟨(k0 : Int) + (k : Int) * 2, (k0 : Int) + (k : Int) * 2 + 1⟩ := by rw [marksT_get _ _ _ hlt]; unfold mT; simp
        rw [← hmv, mixA_step _ _ n k dT hxl (marksT_len _ _) hlt] at hset
        simp only [hmv] at hset
        rw [hset] at s1
        have HC : Hid (_) := s1
        have HGC : Hid (_) := (hgr.trans t0).trans t1
        clear s0 t0 o0 s1 t1 o1 hset hmv hown hgr
        go_wp2
        go_roundw
        case rel => exact ⟨k + 1, by omega, by go_num, by go_num, HC.out, HGC.out⟩
        case measure => simp [intOf]; omega
      · have e : k = n := by omega
        subst e
        rw [mixA_full _ _ k hxl (marksT_len _ _)] at hown
        go_wp2
        go_ret
        exact ⟨rfl, hown, hgr⟩

set_option maxRecDepth 100000 in
set_option maxHeartbeats 2000000 in
theorem c_heldT (a : Option Addr) (n cap k0 : Nat) (w : World) (hr : RdT w a n (marksT k0 n)) (h1 : 1 ≤ k0) (hn : n ≤ 1048576) (hk : k0 ≤ 8000000) :
    Calls Try.prog 19 #[.slice a n cap, .int .i64 k0] w fun e w' => e = .returned (.int .i64 (k0 + n * 2 : Nat)) ∧ w' = w := by
  obtain ⟨hl, hcs⟩ := hr
  go_enter Try.func19, Try.ntmps19
  go_wp2
  go_loopw [1, 5] (fun m i wr => ∃ k : Nat, k ≤ n ∧ i = .int .i64 k ∧ m = .int .i64 ((k0 + k * 2 : Nat) : Int) ∧ wr = w) (fun _ i _ => n - (intOf i).toNat)
  case atStart => exact ⟨0, by omega, rfl, by simp, rfl⟩
  case round =>
    obtain ⟨k, hk, rfl, rfl, rfl⟩ := hrel
    by_cases hlt : k < n
    · obtain ⟨b, off, rfl, hbl, hc⟩ := hcs (by omega)
      obtain ⟨d0, d1⟩ := hc k hlt
      rw [marksT_get _ _ _ hlt] at d0 d1
      have e0 : wr.cell? ⟨b, off + k * 2, none⟩ = some (.int .i64 ((k0 : Int) + (k : Int) * 2)) := by rw [d0]; unfold mT; simp
      have e1 : wr.cell? ⟨b, off + k * 2 + 1, none⟩ = some (.int .i64 ((k0 : Int) + (k : Int) * 2 + 1)) := by rw [d1]; unfold mT; simp
      clear hc hcs d0 d1
      go_wp2
      go_roundw
      case rel => exact ⟨k + 1, by omega, by go_num, by go_num, by first | rfl | trivial⟩
      case measure => simp [intOf]; omega
    · have e : k = n := by omega
      subst e
      go_wp2
      go_ret
      exact ⟨rfl, rfl⟩


end Go.Proofs.Ytimdoaehlciecaa
