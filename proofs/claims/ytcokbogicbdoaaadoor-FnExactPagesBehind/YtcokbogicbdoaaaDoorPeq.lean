/-
  Walks over slices of pending writes (two cells each): copies, sizes, comparisons, marks.
-/
import Derived.Test.YtcokbogicbdoaaaDoorZzac
namespace Go.Proofs.YtcokbogicbdoaaaDoor
open Go Go.RowKit
attribute [local go_sem ↓] Go.wp_at_zero Go.wp_at_succ


abbrev PP := Int × ByteArray
def dP : PP := (0, ⟨#[]⟩)
def cP (v : PP) : List Value := [.int .i64 v.1, .string v.2]
def cellsP (vs : List PP) : List Value := vs.flatMap cP
theorem cellsP_len (vs : List PP) : (cellsP vs).length = vs.length * 2 := by
  induction vs with
  | nil => rfl
  | cons v vs ih => rw [show cellsP (v :: vs) = cP v ++ cellsP vs from rfl, List.length_append, ih, List.length_cons]; simp only [cP, List.length_cons, List.length_nil]; omega
theorem cellsP_get : ∀ (vs : List PP) (i : Nat), i < vs.length → (cellsP vs)[i * 2]? = some (.int .i64 (vs.getD i dP).1) ∧ (cellsP vs)[i * 2 + 1]? = some (.string (vs.getD i dP).2)
  | v :: vs, 0, _ => by simp [cellsP, cP]
  | v :: vs, i + 1, h => by
    have := cellsP_get vs i (by simpa using h)
    have e : cellsP (v :: vs) = cP v ++ cellsP vs := rfl
    rw [e]
    have el : ∀ j, (cP v ++ cellsP vs)[j + 2]? = (cellsP vs)[j]? := fun j => by rw [List.getElem?_append_right (by simp [cP])]; simp [cP]
    rw [show (i + 1) * 2 = i * 2 + 2 by omega, show i * 2 + 2 + 1 = i * 2 + 1 + 2 by omega, el, el]
    simpa using this
theorem cellsP_set : ∀ (vs : List PP) (i : Nat) (v : PP), i < vs.length → ((cellsP vs).set (i * 2) (.int .i64 v.1)).set (i * 2 + 1) (.string v.2) = cellsP (vs.set i v)
  | u :: vs, 0, v, _ => by simp [cellsP, cP]
  | u :: vs, i + 1, v, h => by
    have ih := cellsP_set vs i v (by simpa using h)
    have e : cellsP (u :: vs) = .int .i64 u.1 :: .string u.2 :: cellsP vs := rfl
    have e2 : cellsP ((u :: vs).set (i + 1) v) = .int .i64 u.1 :: .string u.2 :: cellsP (vs.set i v) := rfl
    rw [e, e2, show (i + 1) * 2 = i * 2 + 1 + 1 by omega, ← ih]
    rfl
theorem cellsP_append (us vs : List PP) : cellsP (us ++ vs) = cellsP us ++ cellsP vs := by unfold cellsP; rw [List.flatMap_append]
/-- The slice at a reads as the writes vs. -/
def RdP (w : World) (a : Option Addr) (n : Nat) (vs : List PP) : Prop :=
  vs.length = n ∧ (0 < n → ∃ b off, a = some ⟨b, off, none⟩ ∧ b < w.heap.size ∧ ∀ i, i < n → w.cell? ⟨b, off + i * 2, none⟩ = some (.int .i64 (vs.getD i dP).1) ∧ w.cell? ⟨b, off + i * 2 + 1, none⟩ = some (.string (vs.getD i dP).2))
theorem RdP.below {w w' : World} {a : Option Addr} {n : Nat} {vs : List PP} (h : RdP w a n vs) (hb : Below w.heap.size w w') : RdP w' a n vs := by
  obtain ⟨h1, h3⟩ := h
  refine ⟨h1, fun hn => ?_⟩
  obtain ⟨b, off, e, hlt, hc⟩ := h3 hn
  refine ⟨b, off, e, Nat.lt_of_lt_of_le hlt hb.size, fun i hi => ?_⟩
  rw [hb.cell (p := ⟨b, off + i * 2, none⟩) hlt, hb.cell (p := ⟨b, off + i * 2 + 1, none⟩) hlt]
  exact hc i hi
theorem RdP.own {w : World} {base e n : Nat} {a : Option Addr} {m cap : Nat} {vs : List PP} (h : w.ownsRow base e 2 (.slice a m cap) n (cellsP vs)) : RdP w a m vs := by
  have hl : vs.length = n := by have := h.1; rw [cellsP_len] at this; omega
  rcases h.2 with ⟨hv, h0⟩ | ⟨g, cap', cur, hv, hb, hg, hnc, hcm, hcs, htake⟩
  · simp only [Value.slice.injEq] at hv
    obtain ⟨rfl, rfl, rfl⟩ := hv
    exact ⟨by omega, fun h => absurd h (by omega)⟩
  · simp only [Value.slice.injEq] at hv
    obtain ⟨rfl, rfl, rfl⟩ := hv
    refine ⟨hl, fun _ => ⟨g, 0, rfl, ?_, fun i hi => ?_⟩⟩
    · rcases Nat.lt_or_ge g w.heap.size with h1 | h1
      · exact h1
      · rw [Array.getElem?_eq_none h1] at hg; cases hg
    · rw [Nat.zero_add, h.cellAt (i * 2) (by omega), h.cellAt (i * 2 + 1) (by omega)]
      exact cellsP_get vs i (by omega)
def partA {α : Type} (d : α) (xs : List α) (n k : Nat) : List α := xs.take k ++ List.replicate (n - k) d
theorem partA_step {α : Type} (d : α) (xs : List α) (n k : Nat) (hz : xs.length = n) (hk : k < n) : (partA d xs n k).set k (xs.getD k d) = partA d xs n (k + 1) := by
  unfold partA
  have hl : (xs.take k).length = k := by simp; omega
  rw [List.set_append, if_neg (by omega), hl, Nat.sub_self]
  obtain ⟨m, hm⟩ : ∃ m, n - k = m + 1 := ⟨n - k - 1, by omega⟩
  have hm' : n - (k + 1) = m := by omega
  rw [hm, hm', List.replicate_succ, List.set_cons_zero, List.take_add_one, List.append_assoc, List.getD_eq_getElem?_getD, List.getElem?_eq_getElem (by omega)]
  rfl
theorem partA_len {α : Type} (d : α) (xs : List α) (n k : Nat) (hz : xs.length = n) (hk : k ≤ n) : (partA d xs n k).length = n := by unfold partA; simp; omega
theorem partA_full {α : Type} (d : α) (xs : List α) (n : Nat) (hz : xs.length = n) : partA d xs n n = xs := by
  unfold partA; rw [List.take_of_length_le (by omega), Nat.sub_self]; simp
theorem made_zero (n : Nat) : (madeCells #[.int .i64 0, .string ⟨#[]⟩] (n * 2)).toList = cellsP (List.replicate n dP) := by
  apply List.ext_getElem?
  intro j
  by_cases hj : j < n * 2
  · have h1 : (madeCells #[.int .i64 0, .string ⟨#[]⟩] (n * 2)).toList[j]? = some (#[Value.int .i64 0, .string ⟨#[]⟩][j % 2]!) := by
      simp [madeCells, hj]
    rw [h1]
    have hi : j / 2 < (List.replicate n dP).length := by simp; omega
    obtain ⟨c0, c1⟩ := cellsP_get (List.replicate n dP) (j / 2) hi
    have hd : (List.replicate n dP).getD (j / 2) dP = dP := by rw [List.getD_eq_getElem?_getD, List.getElem?_eq_getElem hi]; simp
    rw [hd] at c0 c1
    have hm : j % 2 = 0 ∨ j % 2 = 1 := by omega
    rcases hm with h | h
    · rw [h, show j = j / 2 * 2 by omega, c0]; rfl
    · rw [h, show j = j / 2 * 2 + 1 by omega, c1]; rfl
  · rw [List.getElem?_eq_none (by simp [size_madeCells]; omega), List.getElem?_eq_none (by rw [cellsP_len]; simp; omega)]
theorem info42 : (Tryd.prog.info? 103).map (fun i => (i.zero, i.size, i.bytes)) = some (some (.agg #[.int .i64 0, .string ⟨#[]⟩]), 2, 24) := by kernel_rfl
/-- A stored value. -/
theorem own_put {w : World} {base e g n cap : Nat} {vs : List PP} (h : w.ownsRow base e 2 (.slice (some ⟨g, 0, none⟩) n cap) n (cellsP vs)) (i : Nat) (v : PP) (hi : i < vs.length) :
    ((w.setCell ⟨g, i * 2, none⟩ (.int .i64 v.1)).setCell ⟨g, i * 2 + 1, none⟩ (.string v.2)).ownsRow base e 2 (.slice (some ⟨g, 0, none⟩) n cap) n (cellsP (vs.set i v)) := by
  have h1 := (h.stored (i * 2) (.int .i64 v.1)).1
  have h2 := (h1.stored (i * 2 + 1) (.string v.2)).1
  rw [cellsP_set vs i v hi] at h2
  exact h2
set_option maxRecDepth 100000 in
theorem c_szP1 (k : Int) (t : ByteArray) (left : Int) (w : World) (hs : t.size ≤ maxLen) (h0 : 0 ≤ left) (h1 : left ≤ 1048576) :
    Calls Tryd.prog 64 #[.agg #[.int .i64 k, .string t], .int .i64 left] w fun e w' => e = .returned (.int .i64 (if left - t.size < 0 then -1 else left - t.size)) ∧ Below w.heap.size w w' := by
  unfold maxLen at hs
  by_cases h : left - t.size < 0
  · go_enter Tryd.func64, Tryd.ntmps64
    go_wp2
    go_ret
    exact ⟨rfl, (Below.refl _ _).alloc (Nat.le_refl _) _⟩
  · go_enter Tryd.func64, Tryd.ntmps64
    go_wp2
    go_ret
    exact ⟨rfl, (Below.refl _ _).alloc (Nat.le_refl _) _⟩
set_option maxRecDepth 100000 in
theorem c_toP1 (k : Int) (t : ByteArray) (w : World) :
    Calls Tryd.prog 70 #[.agg #[.int .i64 k, .string t]] w fun e w' => e = .returned (.agg #[.int .i64 k, .string t]) ∧ Below w.heap.size w w' := by
  go_enter Tryd.func70, Tryd.ntmps70
  go_wp2
  refine bodyPost_ret (v := .agg #[.int .i64 k, .string t]) (by simp [results, Tryd.results70, go_sem]) rfl ⟨rfl, ?_⟩
  exact (((Below.refl _ _).alloc (Nat.le_refl _) _).alloc (by simp) _).alloc (by simp; omega) _
set_option maxRecDepth 100000 in
set_option maxHeartbeats 1000000 in
theorem c_toP (a : Option Addr) (n cap : Nat) (vs : List PP) (w : World) (hr : RdP w a n vs) (hn : n ≤ 1048576) :
    Calls Tryd.prog 47 #[.slice a n cap] w fun e w' => e = .returned (.slice (some ⟨w.heap.size, 0, none⟩) n n) ∧ w'.ownsRow w.heap.size 103 2 (.slice (some ⟨w.heap.size, 0, none⟩) n n) n (cellsP vs) ∧ Below w.heap.size w w' := by
  obtain ⟨hl, hcs⟩ := hr
  obtain ⟨i0, hi, hz0, hz1, hz2⟩ := info_parts info42
  go_enter Tryd.func47, Tryd.ntmps47
  go_wp2_with (at_make; refine wpList_make_full _ rfl (.tmp 6) (.tmp 6) 34 rfl w.heap.size 103 i0 (.agg #[.int .i64 0, .string ⟨#[]⟩]) 2 Tryd.underlying34 hi hz0 hz1 .i64 .i64 _ _ n rfl rfl rfl rfl (by rw [hz2]; omega) (by unfold maxLen; omega) (Nat.le_refl _) ?_; intro w1 hown hgrow)
  go_loopw [4] (fun i wr => ∃ k : Nat, k ≤ n ∧ i = .int .i64 k ∧ wr.ownsRow w.heap.size 103 2 (.slice (some ⟨w.heap.size, 0, none⟩) n n) n (cellsP (partA dP vs n k)) ∧ Below w.heap.size w wr) (fun i _ => n - (intOf i).toNat)
  case atStart => exact ⟨0, by omega, rfl, by have e := made_zero n; simp only [Value.cells] at hown; rw [e] at hown; simpa [partA] using hown, (Below.refl _ _).grown hgrow (Nat.le_refl _) (fun k h => by cases h)⟩
  case round =>
    obtain ⟨k, hk, rfl, hown, hb⟩ := hrel
    by_cases hlt : k < n
    · obtain ⟨b, off, rfl, hbl, hc⟩ := hcs (by omega)
      obtain ⟨⟨vn, vt⟩, hv⟩ : ∃ v, v = vs.getD k dP := ⟨_, rfl⟩
      obtain ⟨d0, d1⟩ := hc k hlt
      rw [← hv] at d0 d1
      have e0 : wr.cell? ⟨b, off + k * 2, none⟩ = some (.int .i64 vn) := by rw [hb.cell (p := ⟨b, off + k * 2, none⟩) hbl, d0]
      have e1 : wr.cell? ⟨b, off + k * 2 + 1, none⟩ = some (.string vt) := by rw [hb.cell (p := ⟨b, off + k * 2 + 1, none⟩) hbl, d1]
      have HV : Hid ((vn, vt) = vs.getD k dP) := hv
      clear hc hcs hgrow d0 d1 hv
      go_wp2_with fail
      refine (c_toP1 _ _ _).mono ?_
      rintro e w1 ⟨rfl, hb1⟩
      have hown1 := own_below hown hb1
      have hbb : Below w.heap.size w w1 := hb.trans (hb1.mono hb.size)
      have hpl := partA_len dP vs n k hl hk
      obtain ⟨o0, o1⟩ := cellsP_get (partA dP vs n k) k (by omega)
      have f0 := hown1.cellAt (k * 2) (by omega)
      have f1 := hown1.cellAt (k * 2 + 1) (by omega)
      rw [o0] at f0
      rw [o1] at f1
      have z0 := hown1.frozenAt (k * 2)
      have z1 := hown1.frozenAt (k * 2 + 1)
      have hput := own_put hown1 k (vn, vt) (by omega)
      rw [HV.out, partA_step dP vs n k hl hlt, ← HV.out] at hput
      have HP : Hid (_) := hput
      clear hput hown1 hown hb1 o0 o1 e0 e1
      go_wp2
      go_roundw
      case rel => exact ⟨k + 1, by omega, by go_num, HP.out, (hbb.setCell (Nat.le_refl _) _).setCell (Nat.le_refl _) _⟩
      case measure => simp [intOf]; omega
    · have e : k = n := by omega
      subst e
      rw [partA_full _ _ k hl] at hown
      go_wp2
      go_ret
      exact ⟨rfl, hown, hb⟩

/-! ### Sizes -/
def txtP (vs : List PP) : List ByteArray := vs.map (·.2)
theorem txtP_get (vs : List PP) (k : Nat) : (txtP vs).getD k ⟨#[]⟩ = (vs.getD k dP).2 := by
  unfold txtP
  rw [List.getD_eq_getElem?_getD, List.getD_eq_getElem?_getD, List.getElem?_map]
  cases vs[k]? <;> rfl
set_option maxRecDepth 100000 in
set_option maxHeartbeats 1000000 in
theorem c_szP (a : Option Addr) (n cap : Nat) (vs : List PP) (left : Int) (w : World) (hr : RdP w a n vs) (hm : n ≤ maxLen) (hs : ∀ v ∈ vs, v.2.size ≤ maxLen) (h0 : 0 ≤ left) (h1 : left ≤ 1048576) :
    Calls Tryd.prog 36 #[.slice a n cap, .int .i64 left] w fun e w' => e = .returned (.int .i64 (sizeS left n (txtP vs))) ∧ Below w.heap.size w w' := by
  unfold maxLen at hm
  obtain ⟨hl, hcs⟩ := hr
  have htl : (txtP vs).length = n := by simpa [txtP] using hl
  by_cases hn : left - n < 0
  · have E : Hid (sizeS left n (txtP vs) = -1) := by unfold Hid sizeS; rw [if_pos hn]
    go_enter Tryd.func36, Tryd.ntmps36
    go_wp2
    go_ret
    exact ⟨ret_int E.out.symm, Below.refl _ _⟩
  · have E : Hid (sizeS left n (txtP vs) = szL (left - n) (txtP vs)) := by unfold Hid sizeS; rw [if_neg hn]
    go_enter Tryd.func36, Tryd.ntmps36
    go_wp2
    go_loopw [1, 5] (fun m i wr => ∃ (k : Nat) (l : Int), k ≤ n ∧ 0 ≤ l ∧ l ≤ left ∧ i = .int .i64 k ∧ m = .int .i64 l ∧ Hid (szL l ((txtP vs).drop k) = szL (left - n) (txtP vs)) ∧ Below w.heap.size w wr) (fun _ i _ => n - (intOf i).toNat)
    case atStart => exact ⟨0, left - n, by omega, by omega, by omega, rfl, rfl, rfl, Below.refl _ _⟩
    case round =>
      obtain ⟨k, l, hk, hl0, hl1, rfl, rfl, HL, hb⟩ := hrel
      by_cases hlt : k < n
      · obtain ⟨b, off, rfl, hbl, hc⟩ := hcs (by omega)
        obtain ⟨⟨vn, vt⟩, hv⟩ : ∃ v, v = vs.getD k dP := ⟨_, rfl⟩
        obtain ⟨d0, d1⟩ := hc k hlt
        rw [← hv] at d0 d1
        have e0 : wr.cell? ⟨b, off + k * 2, none⟩ = some (.int .i64 vn) := by rw [hb.cell (p := ⟨b, off + k * 2, none⟩) hbl, d0]
        have e1 : wr.cell? ⟨b, off + k * 2 + 1, none⟩ = some (.string vt) := by rw [hb.cell (p := ⟨b, off + k * 2 + 1, none⟩) hbl, d1]
        have hvs : vt.size ≤ maxLen := by
          have hk' : k < vs.length := by omega
          have := hs (vs.getD k dP) (by rw [List.getD_eq_getElem?_getD, List.getElem?_eq_getElem hk']; exact List.getElem_mem hk')
          rw [← hv] at this
          exact this
        have HD : Hid (szL l ((txtP vs).drop k) = if l - vt.size < 0 then -1 else szL (l - vt.size) ((txtP vs).drop (k + 1))) := by
          have := szL_drop (ss := txtP vs) (k := k) (l := l) (by omega)
          rw [txtP_get, ← hv] at this
          exact this
        clear hc hcs hv hs d0 d1
        go_wp2_with fail
        refine (c_szP1 _ _ _ _ hvs hl0 (by omega)).mono ?_
        rintro e w1 ⟨rfl, hb1⟩
        have hb' : Below w.heap.size w w1 := hb.trans (hb1.mono hb.size)
        clear hb1 e0 e1
        by_cases hneg : l - vt.size < 0
        · rw [if_pos hneg]
          go_wp2
          go_ret
          exact ⟨ret_int (by rw [E.out, ← HL.out, HD.out, if_pos hneg]), hb'⟩
        · rw [if_neg hneg]
          have HN : Hid (¬ l - vt.size < 0) := hneg
          go_wp2
          go_roundw
          case rel => exact ⟨k + 1, l - vt.size, by omega, by omega, by omega, by go_num, rfl, by rw [← HL.out, HD.out, if_neg (by have := HN.out; omega)]; rfl, hb'⟩
          case measure => simp [intOf]; omega
      · have e : k = n := by omega
        subst e
        go_wp2
        go_ret
        exact ⟨ret_int (by rw [E.out, ← HL.out, List.drop_eq_nil_of_le (by omega)]; rfl), hb⟩

/-! ### Comparisons of what is alike -/
set_option maxRecDepth 100000 in
set_option maxHeartbeats 1000000 in
theorem c_eqP1 (k : Int) (t : ByteArray) (w : World) :
    Calls Tryd.prog 75 #[.agg #[.int .i64 k, .string t], .agg #[.int .i64 k, .string t]] w fun e w' => e = .returned (.bool true) ∧ Below w.heap.size w w' := by
  have e1 : (k != k) = false := by simp
  have e3 : (t.toList == t.toList) = true := by simp
  go_enter Tryd.func75, Tryd.ntmps75
  go_wp2
  go_ret
  exact ⟨rfl, ((Below.refl _ _).alloc (Nat.le_refl _) _).alloc (by simp) _⟩
set_option maxRecDepth 100000 in
set_option maxHeartbeats 2000000 in
theorem c_eqP (a a' : Option Addr) (n cap cap' : Nat) (zs : List PP) (w : World) (hr : RdP w a n zs) (hr' : RdP w a' n zs) (hn : n ≤ 1048576) :
    Calls Tryd.prog 56 #[.slice a n cap, .slice a' n cap'] w fun e w' => e = .returned (.bool true) ∧ Below w.heap.size w w' := by
  obtain ⟨hl, hcs⟩ := hr
  obtain ⟨hl', hcs'⟩ := hr'
  go_enter Tryd.func56, Tryd.ntmps56
  go_wp2
  go_loopw [5] (fun i wr => ∃ k : Nat, k ≤ n ∧ i = .int .i64 k ∧ Below w.heap.size w wr) (fun i _ => n - (intOf i).toNat)
  case atStart => exact ⟨0, by omega, rfl, Below.refl _ _⟩
  case round =>
    obtain ⟨k, hk, rfl, hb⟩ := hrel
    by_cases hlt : k < n
    · obtain ⟨b, off, rfl, hbl, hc⟩ := hcs (by omega)
      obtain ⟨b', off', rfl, hbl', hc'⟩ := hcs' (by omega)
      obtain ⟨⟨vn, vt⟩, hv⟩ : ∃ v, v = zs.getD k dP := ⟨_, rfl⟩
      obtain ⟨d0, d1⟩ := hc k hlt
      obtain ⟨x0, x1⟩ := hc' k hlt
      rw [← hv] at d0 d1 x0 x1
      have e0 : wr.cell? ⟨b, off + k * 2, none⟩ = some (.int .i64 vn) := by rw [hb.cell (p := ⟨b, off + k * 2, none⟩) hbl, d0]
      have e1 : wr.cell? ⟨b, off + k * 2 + 1, none⟩ = some (.string vt) := by rw [hb.cell (p := ⟨b, off + k * 2 + 1, none⟩) hbl, d1]
      have y0 : wr.cell? ⟨b', off' + k * 2, none⟩ = some (.int .i64 vn) := by rw [hb.cell (p := ⟨b', off' + k * 2, none⟩) hbl', x0]
      have y1 : wr.cell? ⟨b', off' + k * 2 + 1, none⟩ = some (.string vt) := by rw [hb.cell (p := ⟨b', off' + k * 2 + 1, none⟩) hbl', x1]
      have g1 : (0 : Int) ≤ (k : Int) := by omega
      have g2 : (k : Int) < (n : Int) := by omega
      have C : Hid (∀ wx, Calls Tryd.prog 75 #[.agg #[.int .i64 vn, .string vt], .agg #[.int .i64 vn, .string vt]] wx fun e w' => e = .returned (.bool true) ∧ Below wx.heap.size wx w') := fun wx => c_eqP1 vn vt wx
      clear hc hc' hcs hcs' hv d0 d1 x0 x1
      go_wp2_with fail
      go_region_held3 (fun x => x.cell? ⟨b, off + k * 2, none⟩ = some (.int .i64 vn) ∧ x.cell? ⟨b, off + k * 2 + 1, none⟩ = some (.string vt) ∧ x.cell? ⟨b', off' + k * 2, none⟩ = some (.int .i64 vn) ∧ x.cell? ⟨b', off' + k * 2 + 1, none⟩ = some (.string vt))
        (first | go_keep | (exact ⟨far6 hb3 e0, far6 hb3 e1, far6 hb3 y0, far6 hb3 y1⟩))
        (first | (go_at_call 75; refine (C.out _).mono ?_; rintro e w3 ⟨rfl, hb3⟩))
      have hb' : Below w.heap.size w w3 := hb.drew.trans (hb3.mono hb.size)
      clear hb3 e0 e1 y0 y1 C
      go_wp2
      go_roundw
      case rel => exact ⟨k + 1, by omega, by go_num, hb'⟩
      case measure => simp [intOf]; omega
    · have e : k = n := by omega
      subst e
      go_wp2
      go_ret
      exact ⟨rfl, hb⟩

/-! ### Marks -/
def mP (k0 i : Nat) : PP := (((k0 + i * 2 : Nat) : Int), mtext (k0 + i * 2 + 1))
def marksP (k0 n : Nat) : List PP := (List.range n).map (mP k0)
theorem marksP_len (k0 n : Nat) : (marksP k0 n).length = n := by simp [marksP]
theorem marksP_get (k0 n k : Nat) (h : k < n) : (marksP k0 n).getD k dP = mP k0 k := by
  unfold marksP; rw [List.getD_eq_getElem?_getD, List.getElem?_map, List.getElem?_range h]; rfl
def mixA {α : Type} (ys xs : List α) (k : Nat) : List α := ys.take k ++ xs.drop k
theorem mixA_zero {α : Type} (ys xs : List α) : mixA ys xs 0 = xs := by simp [mixA]
theorem mixA_len {α : Type} (ys xs : List α) (n k : Nat) (hx : xs.length = n) (hy : ys.length = n) (hk : k ≤ n) : (mixA ys xs k).length = n := by unfold mixA; simp; omega
theorem mixA_step {α : Type} (ys xs : List α) (n k : Nat) (d : α) (hx : xs.length = n) (hy : ys.length = n) (hk : k < n) : (mixA ys xs k).set k (ys.getD k d) = mixA ys xs (k + 1) := by
  unfold mixA
  have hl : (ys.take k).length = k := by simp; omega
  rw [List.set_append, if_neg (by omega), hl, Nat.sub_self, List.drop_eq_getElem_cons (show k < xs.length by omega), List.set_cons_zero, List.take_add_one, List.append_assoc, List.getD_eq_getElem?_getD, List.getElem?_eq_getElem (by omega)]
  rfl
theorem mixA_full {α : Type} (ys xs : List α) (n : Nat) (hx : xs.length = n) (hy : ys.length = n) : mixA ys xs n = ys := by
  unfold mixA; rw [List.take_of_length_le (by omega), List.drop_eq_nil_of_le (by omega)]; simp
end Go.Proofs.YtcokbogicbdoaaaDoor
