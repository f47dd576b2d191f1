/-
  Walks over slices of values (three cells each): copies, sizes, comparisons, marks.
-/
import Derived.Test.YtkfkhfagehcmiaaMk
import Derived.Test.YtkfkhfagehcmiaaVal
namespace Go.Proofs.Ytkfkhfagehcmiaa
open Go Go.RowKit
attribute [local go_sem ↓] Go.wp_at_zero Go.wp_at_succ

abbrev VV := Int × Int × ByteArray
def dV : VV := (0, 0, ⟨#[]⟩)
def cV (v : VV) : List Value := [.int .i64 v.1, .int .i64 v.2.1, .string v.2.2]
def cellsV (vs : List VV) : List Value := vs.flatMap cV
theorem cellsV_len (vs : List VV) : (cellsV vs).length = vs.length * 3 := by
  induction vs with
  | nil => rfl
  | cons v vs ih => rw [show cellsV (v :: vs) = cV v ++ cellsV vs from rfl, List.length_append, ih, List.length_cons]; simp only [cV, List.length_cons, List.length_nil]; omega
theorem cellsV_get : ∀ (vs : List VV) (i : Nat), i < vs.length → (cellsV vs)[i * 3]? = some (.int .i64 (vs.getD i dV).1) ∧ (cellsV vs)[i * 3 + 1]? = some (.int .i64 (vs.getD i dV).2.1) ∧ (cellsV vs)[i * 3 + 2]? = some (.string (vs.getD i dV).2.2)
  | v :: vs, 0, _ => by simp [cellsV, cV]
  | v :: vs, i + 1, h => by
    have := cellsV_get vs i (by simpa using h)
    have e : cellsV (v :: vs) = cV v ++ cellsV vs := rfl
    rw [e]
    have el : ∀ j, (cV v ++ cellsV vs)[j + 3]? = (cellsV vs)[j]? := fun j => by rw [List.getElem?_append_right (by simp [cV])]; simp [cV]
    rw [show (i + 1) * 3 = i * 3 + 3 by omega, show i * 3 + 3 + 1 = i * 3 + 1 + 3 by omega, show i * 3 + 3 + 2 = i * 3 + 2 + 3 by omega, el, el, el]
    simpa using this
theorem cellsV_set : ∀ (vs : List VV) (i : Nat) (v : VV), i < vs.length → (((cellsV vs).set (i * 3) (.int .i64 v.1)).set (i * 3 + 1) (.int .i64 v.2.1)).set (i * 3 + 2) (.string v.2.2) = cellsV (vs.set i v)
  | u :: vs, 0, v, _ => by simp [cellsV, cV]
  | u :: vs, i + 1, v, h => by
    have ih := cellsV_set vs i v (by simpa using h)
    have e : cellsV (u :: vs) = .int .i64 u.1 :: .int .i64 u.2.1 :: .string u.2.2 :: cellsV vs := rfl
    have e2 : cellsV ((u :: vs).set (i + 1) v) = .int .i64 u.1 :: .int .i64 u.2.1 :: .string u.2.2 :: cellsV (vs.set i v) := rfl
    rw [e, e2, show (i + 1) * 3 = i * 3 + 1 + 1 + 1 by omega, ← ih]
    rfl
/-- The slice at a reads as the values vs. -/
def RdC (w : World) (a : Option Addr) (n : Nat) (vs : List VV) : Prop :=
  vs.length = n ∧ (0 < n → ∃ b off, a = some ⟨b, off, none⟩ ∧ b < w.heap.size ∧ ∀ i, i < n → w.cell? ⟨b, off + i * 3, none⟩ = some (.int .i64 (vs.getD i dV).1) ∧ w.cell? ⟨b, off + i * 3 + 1, none⟩ = some (.int .i64 (vs.getD i dV).2.1) ∧ w.cell? ⟨b, off + i * 3 + 2, none⟩ = some (.string (vs.getD i dV).2.2))
theorem RdC.below {w w' : World} {a : Option Addr} {n : Nat} {vs : List VV} (h : RdC w a n vs) (hb : Below w.heap.size w w') : RdC w' a n vs := by
  obtain ⟨h1, h3⟩ := h
  refine ⟨h1, fun hn => ?_⟩
  obtain ⟨b, off, e, hlt, hc⟩ := h3 hn
  refine ⟨b, off, e, Nat.lt_of_lt_of_le hlt hb.size, fun i hi => ?_⟩
  rw [hb.cell (p := ⟨b, off + i * 3, none⟩) hlt, hb.cell (p := ⟨b, off + i * 3 + 1, none⟩) hlt, hb.cell (p := ⟨b, off + i * 3 + 2, none⟩) hlt]
  exact hc i hi
theorem RdC.own {w : World} {base e n : Nat} {a : Option Addr} {m cap : Nat} {vs : List VV} (h : w.ownsRow base e 3 (.slice a m cap) n (cellsV vs)) : RdC w a m vs := by
  have hl : vs.length = n := by have := h.1; rw [cellsV_len] at this; omega
  rcases h.2 with ⟨hv, h0⟩ | ⟨g, cap', cur, hv, hb, hg, hnc, hcm, hcs, htake⟩
  · simp only [Value.slice.injEq] at hv
    obtain ⟨rfl, rfl, rfl⟩ := hv
    exact ⟨by omega, fun h => absurd h (by omega)⟩
  · simp only [Value.slice.injEq] at hv
    obtain ⟨rfl, rfl, rfl⟩ := hv
    refine ⟨hl, fun _ => ⟨g, 0, rfl, ?_, fun i hi => ?_⟩⟩
    · rcases Nat.lt_or_ge g w.heap.size with h1 | h1
      · exact h1
      · rw [Array.getElem?_eq_none h1] at hg; cases hg
    · rw [Nat.zero_add, h.cellAt (i * 3) (by omega), h.cellAt (i * 3 + 1) (by omega), h.cellAt (i * 3 + 2) (by omega)]
      exact cellsV_get vs i (by omega)
def partA {α : Type} (d : α) (xs : List α) (n k : Nat) : List α := xs.take k ++ List.replicate (n - k) d
theorem partA_step {α : Type} (d : α) (xs : List α) (n k : Nat) (hz : xs.length = n) (hk : k < n) : (partA d xs n k).set k (xs.getD k d) = partA d xs n (k + 1) := by
  unfold partA
  have hl : (xs.take k).length = k := by simp; omega
  rw [List.set_append, if_neg (by omega), hl, Nat.sub_self]
  obtain ⟨m, hm⟩ : ∃ m, n - k = m + 1 := ⟨n - k - 1, by omega⟩
  have hm' : n - (k + 1) = m := by omega
  rw [hm, hm', List.replicate_succ, List.set_cons_zero, List.take_add_one, List.append_assoc, List.getD_eq_getElem?_getD, List.getElem?_eq_getElem (by omega)]
  rfl
theorem partA_len {α : Type} (d : α) (xs : List α) (n k : Nat) (hz : xs.length = n) (hk : k ≤ n) : (partA d xs n k).length = n := by unfold partA; simp; omega
theorem partA_full {α : Type} (d : α) (xs : List α) (n : Nat) (hz : xs.length = n) : partA d xs n n = xs := by
  unfold partA; rw [List.take_of_length_le (by omega), Nat.sub_self]; simp
theorem made_zero (n : Nat) : (madeCells #[.int .i64 0, .int .i64 0, .string ⟨#[]⟩] (n * 3)).toList = cellsV (List.replicate n dV) := by
  apply List.ext_getElem?
  intro j
  by_cases hj : j < n * 3
  · have h1 : (madeCells #[.int .i64 0, .int .i64 0, .string ⟨#[]⟩] (n * 3)).toList[j]? = some (#[Value.int .i64 0, .int .i64 0, .string ⟨#[]⟩][j % 3]!) := by
      simp [madeCells, hj]
    rw [h1]
    have hi : j / 3 < (List.replicate n dV).length := by simp; omega
    obtain ⟨c0, c1, c2⟩ := cellsV_get (List.replicate n dV) (j / 3) hi
    have hd : (List.replicate n dV).getD (j / 3) dV = dV := by rw [List.getD_eq_getElem?_getD, List.getElem?_eq_getElem hi]; simp
    rw [hd] at c0 c1 c2
    have hm : j % 3 = 0 ∨ j % 3 = 1 ∨ j % 3 = 2 := by omega
    rcases hm with h | h | h
    · rw [h, show j = j / 3 * 3 by omega, c0]; rfl
    · rw [h, show j = j / 3 * 3 + 1 by omega, c1]; rfl
    · rw [h, show j = j / 3 * 3 + 2 by omega, c2]; rfl
  · rw [List.getElem?_eq_none (by simp [size_madeCells]; omega), List.getElem?_eq_none (by rw [cellsV_len]; simp; omega)]
theorem info40 : (Try.prog.info? 25).map (fun i => (i.zero, i.size, i.bytes)) = some (some (.agg #[.int .i64 0, .int .i64 0, .string ⟨#[]⟩]), 3, 32) := by kernel_rfl
/-- A stored value. -/
theorem own_put {w : World} {base e g n cap : Nat} {vs : List VV} (h : w.ownsRow base e 3 (.slice (some ⟨g, 0, none⟩) n cap) n (cellsV vs)) (i : Nat) (v : VV) (hi : i < vs.length) :
    (((w.setCell ⟨g, i * 3, none⟩ (.int .i64 v.1)).setCell ⟨g, i * 3 + 1, none⟩ (.int .i64 v.2.1)).setCell ⟨g, i * 3 + 2, none⟩ (.string v.2.2)).ownsRow base e 3 (.slice (some ⟨g, 0, none⟩) n cap) n (cellsV (vs.set i v)) := by
  have h1 := (h.stored (i * 3) (.int .i64 v.1)).1
  have h2 := (h1.stored (i * 3 + 1) (.int .i64 v.2.1)).1
  have h3 := (h2.stored (i * 3 + 2) (.string v.2.2)).1
  rw [cellsV_set vs i v hi] at h3
  exact h3

set_option maxRecDepth 100000 in
set_option maxHeartbeats 1000000 in
theorem c_toV (a : Option Addr) (n cap : Nat) (vs : List VV) (w : World) (hr : RdC w a n vs) (hn : n ≤ 1048576) :
    Calls Try.prog 26 #[.slice a n cap] w fun e w' => e = .returned (.slice (some ⟨w.heap.size, 0, none⟩) n n) ∧ w'.ownsRow w.heap.size 25 3 (.slice (some ⟨w.heap.size, 0, none⟩) n n) n (cellsV vs) ∧ Below w.heap.size w w' := by
  obtain ⟨hl, hcs⟩ := hr
  obtain ⟨i0, hi, hz0, hz1, hz2⟩ := info_parts info40
  go_enter Try.func26, Try.ntmps26
  go_wp2_with (at_make; refine wpList_make_full _ rfl (.tmp 6) (.tmp 6) 44 rfl w.heap.size 25 i0 (.agg #[.int .i64 0, .int .i64 0, .string ⟨#[]⟩]) 3 Try.underlying44 hi hz0 hz1 .i64 .i64 _ _ n rfl rfl rfl rfl (by rw [hz2]; omega) (by unfold maxLen; omega) (Nat.le_refl _) ?_; intro w1 hown hgrow)
  go_loopw [4] (fun i wr => ∃ k : Nat, k ≤ n ∧ i = .int .i64 k ∧ wr.ownsRow w.heap.size 25 3 (.slice (some ⟨w.heap.size, 0, none⟩) n n) n (cellsV (partA dV vs n k)) ∧ Below w.heap.size w wr) (fun i _ => n - (intOf i).toNat)
  case atStart => exact ⟨0, by omega, rfl, by have e := made_zero n; simp only [Value.cells] at hown; rw [e] at hown; simpa [partA] using hown, (Below.refl _ _).grown hgrow (Nat.le_refl _) (fun k h => by cases h)⟩
  case round =>
    obtain ⟨k, hk, rfl, hown, hb⟩ := hrel
    by_cases hlt : k < n
    · obtain ⟨b, off, rfl, hbl, hc⟩ := hcs (by omega)
      obtain ⟨⟨vk, vn, vt⟩, hv⟩ : ∃ v, v = vs.getD k dV := ⟨_, rfl⟩
      obtain ⟨d0, d1, d2⟩ := hc k hlt
      rw [← hv] at d0 d1 d2
      have e0 : wr.cell? ⟨b, off + k * 3, none⟩ = some (.int .i64 vk) := by rw [hb.cell (p := ⟨b, off + k * 3, none⟩) hbl, d0]
      have e1 : wr.cell? ⟨b, off + k * 3 + 1, none⟩ = some (.int .i64 vn) := by rw [hb.cell (p := ⟨b, off + k * 3 + 1, none⟩) hbl, d1]
      have e2 : wr.cell? ⟨b, off + k * 3 + 2, none⟩ = some (.string vt) := by rw [hb.cell (p := ⟨b, off + k * 3 + 2, none⟩) hbl, d2]
      have HV : Hid ((vk, vn, vt) = vs.getD k dV) := hv
      clear hc hcs hgrow d0 d1 d2 hv
      go_wp2_with fail
      refine (c_to _ _ _ _).mono ?_
      rintro e w1 ⟨rfl, hb1⟩
      have hown1 := own_below hown hb1
      have hbb : Below w.heap.size w w1 := hb.trans (hb1.mono hb.size)
      have hpl := partA_len dV vs n k hl hk
      obtain ⟨o0, o1, o2⟩ := cellsV_get (partA dV vs n k) k (by omega)
      have f0 := hown1.cellAt (k * 3) (by omega)
      have f1 := hown1.cellAt (k * 3 + 1) (by omega)
      have f2 := hown1.cellAt (k * 3 + 2) (by omega)
      rw [o0] at f0
      rw [o1] at f1
      rw [o2] at f2
      have z0 := hown1.frozenAt (k * 3)
      have z1 := hown1.frozenAt (k * 3 + 1)
      have z2 := hown1.frozenAt (k * 3 + 2)
      have hput := own_put hown1 k (vk, vn, vt) (by omega)
      rw [HV.out, partA_step dV vs n k hl hlt, ← HV.out] at hput
      have HP : Hid (_) := hput
      clear hput hown1 hown hb1 o0 o1 o2 e0 e1 e2
      go_wp2
      go_roundw
      case rel => exact ⟨k + 1, by omega, by go_num, HP.out, ((hbb.setCell (Nat.le_refl _) _).setCell (Nat.le_refl _) _).setCell (Nat.le_refl _) _⟩
      case measure => simp [intOf]; omega
    · have e : k = n := by omega
      subst e
      rw [partA_full _ _ k hl] at hown
      go_wp2
      go_ret
      exact ⟨rfl, hown, hb⟩

/-! ### Sizes -/
def txtV (vs : List VV) : List ByteArray := vs.map (·.2.2)
theorem txtV_get (vs : List VV) (k : Nat) : (txtV vs).getD k ⟨#[]⟩ = (vs.getD k dV).2.2 := by
  unfold txtV
  rw [List.getD_eq_getElem?_getD, List.getD_eq_getElem?_getD, List.getElem?_map]
  cases vs[k]? <;> rfl

set_option maxRecDepth 100000 in
set_option maxHeartbeats 1000000 in
theorem c_szV (a : Option Addr) (n cap : Nat) (vs : List VV) (left : Int) (w : World) (hr : RdC w a n vs) (hm : n ≤ maxLen) (hs : ∀ v ∈ vs, v.2.2.size ≤ maxLen) (h0 : 0 ≤ left) (h1 : left ≤ 1048576) :
    Calls Try.prog 24 #[.slice a n cap, .int .i64 left] w fun e w' => e = .returned (.int .i64 (sizeS left n (txtV vs))) ∧ Below w.heap.size w w' := by
  unfold maxLen at hm
  obtain ⟨hl, hcs⟩ := hr
  have htl : (txtV vs).length = n := by simpa [txtV] using hl
  by_cases hn : left - n < 0
  · have E : Hid (sizeS left n (txtV vs) = -1) := by unfold Hid sizeS; rw [if_pos hn]
    go_enter Try.func24, Try.ntmps24
    go_wp2
    go_ret
    exact ⟨ret_int E.out.symm, Below.refl _ _⟩
  · have E : Hid (sizeS left n (txtV vs) = szL (left - n) (txtV vs)) := by unfold Hid sizeS; rw [if_neg hn]
    go_enter Try.func24, Try.ntmps24
    go_wp2
    go_loopw [1, 5] (fun m i wr => ∃ (k : Nat) (l : Int), k ≤ n ∧ 0 ≤ l ∧ l ≤ left ∧ i = .int .i64 k ∧ m = .int .i64 l ∧ Hid (szL l ((txtV vs).drop k) = szL (left - n) (txtV vs)) ∧ Below w.heap.size w wr) (fun _ i _ => n - (intOf i).toNat)
    case atStart => exact ⟨0, left - n, by omega, by omega, by omega, rfl, rfl, rfl, Below.refl _ _⟩
    case round =>
      obtain ⟨k, l, hk, hl0, hl1, rfl, rfl, HL, hb⟩ := hrel
      by_cases hlt : k < n
      · obtain ⟨b, off, rfl, hbl, hc⟩ := hcs (by omega)
        obtain ⟨⟨vk, vn, vt⟩, hv⟩ : ∃ v, v = vs.getD k dV := ⟨_, rfl⟩
        obtain ⟨d0, d1, d2⟩ := hc k hlt
        rw [← hv] at d0 d1 d2
        have e0 : wr.cell? ⟨b, off + k * 3, none⟩ = some (.int .i64 vk) := by rw [hb.cell (p := ⟨b, off + k * 3, none⟩) hbl, d0]
        have e1 : wr.cell? ⟨b, off + k * 3 + 1, none⟩ = some (.int .i64 vn) := by rw [hb.cell (p := ⟨b, off + k * 3 + 1, none⟩) hbl, d1]
        have e2 : wr.cell? ⟨b, off + k * 3 + 2, none⟩ = some (.string vt) := by rw [hb.cell (p := ⟨b, off + k * 3 + 2, none⟩) hbl, d2]
        have hvs : vt.size ≤ maxLen := by
          have hk' : k < vs.length := by omega
          have := hs (vs.getD k dV) (by rw [List.getD_eq_getElem?_getD, List.getElem?_eq_getElem hk']; exact List.getElem_mem hk')
          rw [← hv] at this
          exact this
        have HD : Hid (szL l ((txtV vs).drop k) = if l - vt.size < 0 then -1 else szL (l - vt.size) ((txtV vs).drop (k + 1))) := by
          have := szL_drop (ss := txtV vs) (k := k) (l := l) (by omega)
          rw [txtV_get, ← hv] at this
          exact this
        clear hc hcs hv hs d0 d1 d2
        go_wp2_with fail
        refine (c_sz _ _ _ _ _ hvs hl0 (by omega)).mono ?_
        rintro e w1 ⟨rfl, hb1⟩
        have hb' : Below w.heap.size w w1 := hb.trans (hb1.mono hb.size)
        clear hb1 e0 e1 e2
        by_cases hneg : l - vt.size < 0
        · rw [if_pos hneg]
          go_wp2
          go_ret
          exact ⟨ret_int (by rw [E.out, ← HL.out, HD.out, if_pos hneg]), hb'⟩
        · rw [if_neg hneg]
          have HN : Hid (¬ l - vt.size < 0) := hneg
          go_wp2
          go_roundw
          case rel => exact ⟨k + 1, l - vt.size, by omega, by omega, by omega, by go_num, rfl, by rw [← HL.out, HD.out, if_neg (by have := HN.out; omega)]; rfl, hb'⟩
          case measure => simp [intOf]; omega
      · have e : k = n := by omega
        subst e
        go_wp2
        go_ret
        exact ⟨ret_int (by rw [E.out, ← HL.out, List.drop_eq_nil_of_le (by omega)]; rfl), hb⟩

/-! ### Comparisons -/
set_option maxRecDepth 100000 in
set_option maxHeartbeats 1000000 in
theorem c_eqV1 (v v' : VV) (w : World) :
    Calls Try.prog 16 #[.agg #[.int .i64 v.1, .int .i64 v.2.1, .string v.2.2], .agg #[.int .i64 v'.1, .int .i64 v'.2.1, .string v'.2.2]] w fun e w' => e = .returned (.bool (decide (v = v'))) ∧ Below w.heap.size w w' := by
  obtain ⟨k, n, t⟩ := v
  obtain ⟨k', n', t'⟩ := v'
  have bz : ∀ o o', Below w.heap.size w ((w.alloc o).alloc o') := fun o o' => ((Below.refl _ _).alloc (Nat.le_refl _) _).alloc (by simp) _
  by_cases h1 : k = k'
  · by_cases h2 : n = n'
    · by_cases h3 : t = t'
      · have E : Hid (decide ((k, n, t) = (k', n', t')) = true) := by unfold Hid; simp [h1, h2, h3]
        have e1 : (k != k') = false := by simp [h1]
        have e2 : (n != n') = false := by simp [h2]
        have e3 : (t.toList == t'.toList) = true := by simp [h3]
        clear h1 h2 h3
        go_enter Try.func16, Try.ntmps16
        go_wp2
        go_ret
        exact ⟨ret_bool E.out.symm, bz _ _⟩
      · have E : Hid (decide ((k, n, t) = (k', n', t')) = false) := by unfold Hid; simp [h3]
        have e1 : (k != k') = false := by simp [h1]
        have e2 : (n != n') = false := by simp [h2]
        have e3 : (t.toList == t'.toList) = false := by rw [beq_eq_false_iff_ne]; exact fun e => h3 (toList_inj e)
        clear h1 h2 h3
        go_enter Try.func16, Try.ntmps16
        go_wp2
        go_ret
        exact ⟨ret_bool E.out.symm, bz _ _⟩
    · have E : Hid (decide ((k, n, t) = (k', n', t')) = false) := by unfold Hid; simp [h2]
      have e1 : (k != k') = false := by simp [h1]
      have e2 : (n != n') = true := by simpa using h2
      clear h1 h2
      go_enter Try.func16, Try.ntmps16
      go_wp2
      go_ret
      exact ⟨ret_bool E.out.symm, bz _ _⟩
  · have E : Hid (decide ((k, n, t) = (k', n', t')) = false) := by unfold Hid; simp [h1]
    have e1 : (k != k') = true := by simpa using h1
    clear h1
    go_enter Try.func16, Try.ntmps16
    go_wp2
    go_ret
    exact ⟨ret_bool E.out.symm, bz _ _⟩

def sameToV (zs zs' : List VV) (k : Nat) : Prop := ∀ j, j < k → zs.getD j dV = zs'.getD j dV
theorem same_allV {zs zs' : List VV} (hl : zs.length = zs'.length) (h : sameToV zs zs' zs.length) : zs = zs' := by
  apply List.ext_getElem hl
  intro i h1 h2
  have := h i h1
  rwa [List.getD_eq_getElem?_getD, List.getElem?_eq_getElem h1, List.getD_eq_getElem?_getD, List.getElem?_eq_getElem h2] at this
theorem far6 {w w' : World} {b o : Nat} {u : Value} (hb : Below w.heap.size w w') (h : w.cell? ⟨b, o, none⟩ = some u) : w'.cell? ⟨b, o, none⟩ = some u :=
  (hb.cell (p := ⟨b, o, none⟩) (World.block_lt_of_cell? w ⟨b, o, none⟩ h)).trans h

set_option maxRecDepth 100000 in
set_option maxHeartbeats 2000000 in
theorem c_eqV (a a' : Option Addr) (n cap n' cap' : Nat) (zs zs' : List VV) (w : World) (hr : RdC w a n zs) (hr' : RdC w a' n' zs') (hn : n ≤ 1048576) (hn' : n' ≤ 1048576) :
    Calls Try.prog 29 #[.slice a n cap, .slice a' n' cap'] w fun e w' => e = .returned (.bool (decide (zs = zs'))) ∧ Below w.heap.size w w' := by
  obtain ⟨hl, hcs⟩ := hr
  obtain ⟨hl', hcs'⟩ := hr'
  by_cases hnn : n = n'
  · subst hnn
    have hll : zs.length = zs'.length := by omega
    go_enter Try.func29, Try.ntmps29
    go_wp2
    go_loopw [5] (fun i wr => ∃ k : Nat, k ≤ n ∧ i = .int .i64 k ∧ Hid (sameToV zs zs' k) ∧ Below w.heap.size w wr) (fun i _ => n - (intOf i).toNat)
    case atStart => exact ⟨0, by omega, rfl, fun j h => absurd h (by omega), Below.refl _ _⟩
    case round =>
      obtain ⟨k, hk, rfl, HS, hb⟩ := hrel
      by_cases hlt : k < n
      · obtain ⟨b, off, rfl, hbl, hc⟩ := hcs (by omega)
        obtain ⟨b', off', rfl, hbl', hc'⟩ := hcs' (by omega)
        obtain ⟨⟨vk, vn, vt⟩, hv⟩ : ∃ v, v = zs.getD k dV := ⟨_, rfl⟩
        obtain ⟨⟨uk, un, ut⟩, hu⟩ : ∃ v, v = zs'.getD k dV := ⟨_, rfl⟩
        obtain ⟨d0, d1, d2⟩ := hc k hlt
        obtain ⟨x0, x1, x2⟩ := hc' k hlt
        rw [← hv] at d0 d1 d2
        rw [← hu] at x0 x1 x2
        have e0 : wr.cell? ⟨b, off + k * 3, none⟩ = some (.int .i64 vk) := by rw [hb.cell (p := ⟨b, off + k * 3, none⟩) hbl, d0]
        have e1 : wr.cell? ⟨b, off + k * 3 + 1, none⟩ = some (.int .i64 vn) := by rw [hb.cell (p := ⟨b, off + k * 3 + 1, none⟩) hbl, d1]
        have e2 : wr.cell? ⟨b, off + k * 3 + 2, none⟩ = some (.string vt) := by rw [hb.cell (p := ⟨b, off + k * 3 + 2, none⟩) hbl, d2]
        have y0 : wr.cell? ⟨b', off' + k * 3, none⟩ = some (.int .i64 uk) := by rw [hb.cell (p := ⟨b', off' + k * 3, none⟩) hbl', x0]
        have y1 : wr.cell? ⟨b', off' + k * 3 + 1, none⟩ = some (.int .i64 un) := by rw [hb.cell (p := ⟨b', off' + k * 3 + 1, none⟩) hbl', x1]
        have y2 : wr.cell? ⟨b', off' + k * 3 + 2, none⟩ = some (.string ut) := by rw [hb.cell (p := ⟨b', off' + k * 3 + 2, none⟩) hbl', x2]
        have g1 : (0 : Int) ≤ (k : Int) := by omega
        have g2 : (k : Int) < (n : Int) := by omega
        have HV : Hid ((vk, vn, vt) = zs.getD k dV) := hv
        have HU : Hid ((uk, un, ut) = zs'.getD k dV) := hu
        have C : Hid (∀ wx, Calls Try.prog 16 #[.agg #[.int .i64 vk, .int .i64 vn, .string vt], .agg #[.int .i64 uk, .int .i64 un, .string ut]] wx fun e w' => e = .returned (.bool (decide ((vk, vn, vt) = (uk, un, ut)))) ∧ Below wx.heap.size wx w') := fun wx => c_eqV1 (vk, vn, vt) (uk, un, ut) wx
        clear hc hc' hcs hcs' hv hu d0 d1 d2 x0 x1 x2
        obtain ⟨t, ht⟩ : ∃ t, t = decide ((vk, vn, vt) = (uk, un, ut)) := ⟨_, rfl⟩
        rw [← ht] at C
        have HT : Hid (t = decide ((vk, vn, vt) = (uk, un, ut))) := ht
        clear ht
        cases t
        all_goals
          go_wp2_with fail
          go_region_held3 (fun x => x.cell? ⟨b, off + k * 3, none⟩ = some (.int .i64 vk) ∧ x.cell? ⟨b, off + k * 3 + 1, none⟩ = some (.int .i64 vn) ∧ x.cell? ⟨b, off + k * 3 + 2, none⟩ = some (.string vt) ∧ x.cell? ⟨b', off' + k * 3, none⟩ = some (.int .i64 uk) ∧ x.cell? ⟨b', off' + k * 3 + 1, none⟩ = some (.int .i64 un) ∧ x.cell? ⟨b', off' + k * 3 + 2, none⟩ = some (.string ut))
            (first | go_keep | (exact ⟨far6 hb3 e0, far6 hb3 e1, far6 hb3 e2, far6 hb3 y0, far6 hb3 y1, far6 hb3 y2⟩))
            (first | (go_at_call 16; refine (C.out _).mono ?_; rintro e w3 ⟨rfl, hb3⟩))
          have hb' : Below w.heap.size w w3 := hb.drew.trans (hb3.mono hb.size)
          clear hb3 e0 e1 e2 y0 y1 y2 C
        · go_wp2
          go_ret
          exact ⟨ret_bool (decide_eq_false fun e => of_decide_eq_false HT.out.symm (by rw [HV.out, HU.out, e])).symm, hb'⟩
        · go_wp2
          go_roundw
          case rel => exact ⟨k + 1, by omega, by go_num, fun j hj => if e : j = k then by rw [e, ← HV.out, ← HU.out]; exact of_decide_eq_true HT.out.symm else HS.out j (by omega), hb'⟩
          case measure => simp [intOf]; omega
      · have e : k = n := by omega
        subst e
        go_wp2
        go_ret
        exact ⟨ret_bool (decide_eq_true (same_allV hll (by rw [hl]; exact HS.out))).symm, hb⟩
  · have hne : ((n : Int) != (n' : Int)) = true := by simp; omega
    go_enter Try.func29, Try.ntmps29
    go_wp2
    go_ret
    exact ⟨ret_bool (decide_eq_false fun e => hnn (by rw [← hl, ← hl', e])).symm, Below.refl _ _⟩
end Go.Proofs.Ytkfkhfagehcmiaa
