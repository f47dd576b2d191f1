/-
  Lists of records: sizes and copies.
-/
import Derived.Test.YtimdoaehlciecaaYla
import Derived.Deep.RegionHeld3
namespace Go.Proofs.Ytimdoaehlciecaa
open Go Go.RowKit
attribute [local go_sem ↓] Go.wp_at_zero Go.wp_at_succ

def partA {α : Type} (d : α) (xs : List α) (n k : Nat) : List α := xs.take k ++ List.replicate (n - k) d
theorem partA_len {α : Type} (d : α) (xs : List α) (n k : Nat) (hz : xs.length = n) (hk : k ≤ n) : (partA d xs n k).length = n := by unfold partA; simp; omega
theorem partA_full {α : Type} (d : α) (xs : List α) (n : Nat) (hz : xs.length = n) : partA d xs n n = xs := by
  unfold partA; rw [List.take_of_length_le (by omega), Nat.sub_self]; simp
theorem partA_step {α : Type} (d : α) (xs : List α) (n k : Nat) (hz : xs.length = n) (hk : k < n) : (partA d xs n k).set k (xs.getD k d) = partA d xs n (k + 1) := by
  unfold partA
  have hl : (xs.take k).length = k := by simp; omega
  rw [List.set_append, if_neg (by omega), hl, Nat.sub_self]
  obtain ⟨m, hm⟩ : ∃ m, n - k = m + 1 := ⟨n - k - 1, by omega⟩
  have hm' : n - (k + 1) = m := by omega
  rw [hm, hm', List.replicate_succ, List.set_cons_zero, List.take_add_one, List.append_assoc, List.getD_eq_getElem?_getD, List.getElem?_eq_getElem (by omega)]
  rfl
theorem getD_of1 {α : Type} {Q : α → Prop} {vs : List α} {d : α} {k : Nat} (h : ∀ v ∈ vs, Q v) (hk : k < vs.length) : Q (vs.getD k d) := by
  rw [List.getD_eq_getElem?_getD, List.getElem?_eq_getElem hk]
  exact h _ (List.getElem_mem hk)
set_option maxRecDepth 100000 in
set_option maxHeartbeats 8000000 in
theorem c_szR2 (e l t k p n g s : Int) (b a : ByteArray) (left : Int) (w : World) (hb : b.size ≤ maxLen) (ha : a.size ≤ maxLen) (h0 : 0 ≤ left) (h1 : left ≤ 1048576) :
    Calls Try.prog 20 #[.agg #[.int .i64 e, .int .i64 l, .int .i64 t, .int .i64 k, .int .i64 p, .int .i64 n, .int .i64 g, .int .i64 s, .string b, .string a], .int .i64 left] w fun e w' => (∃ z : Int, e = .returned (.int .i64 z) ∧ z ≤ left ∧ (0 ≤ z → b.size ≤ 1048576 ∧ a.size ≤ 1048576)) ∧ Below w.heap.size w w' := by
  unfold maxLen at hb ha
  by_cases h : left - b.size < 0
  · go_enter Try.func20, Try.ntmps20
    go_wp2
    go_ret
    exact ⟨⟨_, rfl, by omega, fun h => absurd h (by omega)⟩, (Below.refl _ _).alloc (Nat.le_refl _) _⟩
  · by_cases h2 : left - b.size - a.size < 0
    · go_enter Try.func20, Try.ntmps20
      go_wp2
      go_ret
      exact ⟨⟨_, rfl, by omega, fun h => absurd h (by omega)⟩, (Below.refl _ _).alloc (Nat.le_refl _) _⟩
    · go_enter Try.func20, Try.ntmps20
      go_wp2
      go_ret
      exact ⟨⟨_, rfl, by omega, fun _ => ⟨by omega, by omega⟩⟩, (Below.refl _ _).alloc (Nat.le_refl _) _⟩

set_option maxRecDepth 100000 in
set_option maxHeartbeats 8000000 in
theorem c_szQ (a : Option Addr) (n cap : Nat) (vs : List DR) (left : Int) (w : World) (hr : RdQ w a n vs) (hm : n ≤ maxLen) (hs : ∀ v ∈ vs, v.b.size ≤ maxLen ∧ v.a.size ≤ maxLen) (h0 : 0 ≤ left) (h1 : left ≤ 1048576) :
    Calls Try.prog 6 #[.slice a n cap, .int .i64 left] w fun e w' => (∃ z : Int, e = .returned (.int .i64 z) ∧ z ≤ left ∧ (0 ≤ z → n ≤ 1048576 ∧ ∀ v ∈ vs, v.b.size ≤ 1048576 ∧ v.a.size ≤ 1048576)) ∧ Below w.heap.size w w' := by
  unfold maxLen at hm
  obtain ⟨hl, hcs⟩ := hr
  by_cases hn : left - n < 0
  · go_enter Try.func6, Try.ntmps6
    go_wp2
    go_ret
    exact ⟨⟨_, rfl, by omega, fun h => absurd h (by omega)⟩, Below.refl _ _⟩
  · have HS : Hid (∀ v ∈ vs, v.b.size ≤ maxLen ∧ v.a.size ≤ maxLen) := hs
    clear hs
    go_enter Try.func6, Try.ntmps6
    go_wp2
    go_loopw [1, 5] (fun m i wr => ∃ (k : Nat) (l : Int), k ≤ n ∧ 0 ≤ l ∧ l ≤ left ∧ i = .int .i64 k ∧ m = .int .i64 l ∧ Hid (∀ j, j < k → (vs.getD j zeroR).b.size ≤ 1048576 ∧ (vs.getD j zeroR).a.size ≤ 1048576) ∧ Below w.heap.size w wr) (fun _ i _ => n - (intOf i).toNat)
    case atStart => exact ⟨0, left - n, by omega, by omega, by omega, rfl, rfl, fun j hj => absurd hj (by omega), Below.refl _ _⟩
    case round =>
      obtain ⟨k, l, hk, hl0, hl1, rfl, rfl, HL, hb⟩ := hrel
      by_cases hlt : k < n
      · obtain ⟨b, off, rfl, hbl, hc⟩ := hcs (by omega)
        obtain ⟨⟨ve, vl, vt, vk, vp, vn, vg, vz, vb, va⟩, hv⟩ : ∃ v, v = vs.getD k zeroR := ⟨_, rfl⟩
        obtain ⟨d0, d1, d2, d3, d4, d5, d6, d7, d8, d9⟩ := RdQ.at hc hlt hv
        dsimp only at d0 d1 d2 d3 d4 d5 d6 d7 d8 d9
        have e0 : wr.cell? ⟨b, off + k * 10, none⟩ = some (.int .i64 ve) := by rw [hb.cell (p := ⟨b, off + k * 10, none⟩) hbl, d0]
        have e1 : wr.cell? ⟨b, off + k * 10 + 1, none⟩ = some (.int .i64 vl) := by rw [hb.cell (p := ⟨b, off + k * 10 + 1, none⟩) hbl, d1]
        have e2 : wr.cell? ⟨b, off + k * 10 + 2, none⟩ = some (.int .i64 vt) := by rw [hb.cell (p := ⟨b, off + k * 10 + 2, none⟩) hbl, d2]
        have e3 : wr.cell? ⟨b, off + k * 10 + 3, none⟩ = some (.int .i64 vk) := by rw [hb.cell (p := ⟨b, off + k * 10 + 3, none⟩) hbl, d3]
        have e4 : wr.cell? ⟨b, off + k * 10 + 4, none⟩ = some (.int .i64 vp) := by rw [hb.cell (p := ⟨b, off + k * 10 + 4, none⟩) hbl, d4]
        have e5 : wr.cell? ⟨b, off + k * 10 + 5, none⟩ = some (.int .i64 vn) := by rw [hb.cell (p := ⟨b, off + k * 10 + 5, none⟩) hbl, d5]
        have e6 : wr.cell? ⟨b, off + k * 10 + 6, none⟩ = some (.int .i64 vg) := by rw [hb.cell (p := ⟨b, off + k * 10 + 6, none⟩) hbl, d6]
        have e7 : wr.cell? ⟨b, off + k * 10 + 7, none⟩ = some (.int .i64 vz) := by rw [hb.cell (p := ⟨b, off + k * 10 + 7, none⟩) hbl, d7]
        have e8 : wr.cell? ⟨b, off + k * 10 + 8, none⟩ = some (.string vb) := by rw [hb.cell (p := ⟨b, off + k * 10 + 8, none⟩) hbl, d8]
        have e9 : wr.cell? ⟨b, off + k * 10 + 9, none⟩ = some (.string va) := by rw [hb.cell (p := ⟨b, off + k * 10 + 9, none⟩) hbl, d9]
        have hvs : vb.size ≤ maxLen ∧ va.size ≤ maxLen := by
          have := getD_of1 (d := zeroR) HS.out (show k < vs.length by omega)
          rw [← hv] at this
          exact this
        have HV : Hid ((⟨ve, vl, vt, vk, vp, vn, vg, vz, vb, va⟩ : DR) = vs.getD k zeroR) := hv
        clear hc hcs hv HS d0 d1 d2 d3 d4 d5 d6 d7 d8 d9
        go_wp2_with fail
        refine (c_szR2 _ _ _ _ _ _ _ _ _ _ _ _ hvs.1 hvs.2 hl0 (by omega)).mono ?_
        rintro e w1 ⟨⟨z, rfl, hzl, hz⟩, hb1⟩
        have hb' : Below w.heap.size w w1 := hb.trans (hb1.mono hb.size)
        have HZ : Hid (0 ≤ z → vb.size ≤ 1048576 ∧ va.size ≤ 1048576) := hz
        clear hb1 hz hb e0 e1 e2 e3 e4 e5 e6 e7 e8 e9
        by_cases hneg : z < 0
        · go_wp2
          go_ret
          exact ⟨⟨_, rfl, by omega, fun h => absurd h (by omega)⟩, hb'⟩
        · go_wp2
          go_roundw
          case rel => exact ⟨k + 1, z, by omega, by omega, by omega, by go_num, rfl, fun j hj => by
                        by_cases e : j = k
                        · subst e; rw [← HV.out]; exact HZ.out (by omega)
                        · exact HL.out j (by omega), hb'⟩
          case measure => simp [intOf]; omega
      · have e : k = n := by omega
        subst e
        have HK : Hid (∀ v ∈ vs, v.b.size ≤ 1048576 ∧ v.a.size ≤ 1048576) := fun v hv => by
          obtain ⟨j, hj, rfl⟩ := List.getElem_of_mem hv
          have := HL.out j (by omega)
          rw [List.getD_eq_getElem?_getD, List.getElem?_eq_getElem hj] at this
          exact this
        go_wp2
        go_ret
        exact ⟨⟨_, rfl, by omega, fun _ => ⟨by omega, HK.out⟩⟩, hb⟩

/-! ### Copies -/
theorem made_zeroQ (n : Nat) : (madeCells #[.int .i64 0, .int .i64 0, .int .i64 0, .int .i64 0, .int .i64 0, .int .i64 0, .int .i64 0, .int .i64 0, .string ⟨#[]⟩, .string ⟨#[]⟩] (n * 10)).toList = cellsQ (List.replicate n zeroR) := by
  apply List.ext_getElem?
  intro j
  by_cases hj : j < n * 10
  · have h1 : (madeCells #[.int .i64 0, .int .i64 0, .int .i64 0, .int .i64 0, .int .i64 0, .int .i64 0, .int .i64 0, .int .i64 0, .string ⟨#[]⟩, .string ⟨#[]⟩] (n * 10)).toList[j]? = some ((#[.int .i64 0, .int .i64 0, .int .i64 0, .int .i64 0, .int .i64 0, .int .i64 0, .int .i64 0, .int .i64 0, .string ⟨#[]⟩, .string ⟨#[]⟩] : Array Value)[j % 10]!) := by
      simp [madeCells, hj]
    rw [h1]
    have hi : j / 10 < (List.replicate n zeroR).length := by simp; omega
    have hd : (List.replicate n zeroR).getD (j / 10) zeroR = zeroR := by rw [List.getD_eq_getElem?_getD, List.getElem?_eq_getElem hi]; simp
    have c := cellsQ_get (List.replicate n zeroR) (j / 10) hi (j % 10) (by omega)
    rw [hd, show j / 10 * 10 + j % 10 = j by omega] at c
    rw [c]
    have hm : j % 10 < 10 := by omega
    generalize j % 10 = m at hm
    match m, hm with
    | 0, _ => rfl
    | 1, _ => rfl
    | 2, _ => rfl
    | 3, _ => rfl
    | 4, _ => rfl
    | 5, _ => rfl
    | 6, _ => rfl
    | 7, _ => rfl
    | 8, _ => rfl
    | 9, _ => rfl
  · rw [List.getElem?_eq_none (by simp [size_madeCells]; omega), List.getElem?_eq_none (by rw [cellsQ_len]; simp; omega)]
theorem infoQ : (Try.prog.info? 43).map (fun i => (i.zero, i.size, i.bytes)) = some (some (.agg #[.int .i64 0, .int .i64 0, .int .i64 0, .int .i64 0, .int .i64 0, .int .i64 0, .int .i64 0, .int .i64 0, .string ⟨#[]⟩, .string ⟨#[]⟩]), 10, 96) := by kernel_rfl
theorem own_putQ {w : World} {base e g n cap : Nat} {vs : List DR} (h : w.ownsRow base e 10 (.slice (some ⟨g, 0, none⟩) n cap) n (cellsQ vs)) (i : Nat) (v : DR) (hi : i < vs.length) :
    ((((((((((w.setCell ⟨g, i * 10, none⟩ (.int .i64 v.e)).setCell ⟨g, i * 10 + 1, none⟩ (.int .i64 v.l)).setCell ⟨g, i * 10 + 2, none⟩ (.int .i64 v.t)).setCell ⟨g, i * 10 + 3, none⟩ (.int .i64 v.k)).setCell ⟨g, i * 10 + 4, none⟩ (.int .i64 v.p)).setCell ⟨g, i * 10 + 5, none⟩ (.int .i64 v.n)).setCell ⟨g, i * 10 + 6, none⟩ (.int .i64 v.g)).setCell ⟨g, i * 10 + 7, none⟩ (.int .i64 v.s)).setCell ⟨g, i * 10 + 8, none⟩ (.string v.b)).setCell ⟨g, i * 10 + 9, none⟩ (.string v.a)).ownsRow base e 10 (.slice (some ⟨g, 0, none⟩) n cap) n (cellsQ (vs.set i v)) := by
  have h0 := (h.stored (i * 10) (.int .i64 v.e)).1
  have h1 := (h0.stored (i * 10 + 1) (.int .i64 v.l)).1
  have h2 := (h1.stored (i * 10 + 2) (.int .i64 v.t)).1
  have h3 := (h2.stored (i * 10 + 3) (.int .i64 v.k)).1
  have h4 := (h3.stored (i * 10 + 4) (.int .i64 v.p)).1
  have h5 := (h4.stored (i * 10 + 5) (.int .i64 v.n)).1
  have h6 := (h5.stored (i * 10 + 6) (.int .i64 v.g)).1
  have h7 := (h6.stored (i * 10 + 7) (.int .i64 v.s)).1
  have h8 := (h7.stored (i * 10 + 8) (.string v.b)).1
  have h9 := (h8.stored (i * 10 + 9) (.string v.a)).1
  have := cellsQ_set vs i v hi
  unfold setQ at this
  rw [this] at h9
  exact h9
set_option maxRecDepth 100000 in
set_option maxHeartbeats 8000000 in
theorem c_toQ (a : Option Addr) (n cap : Nat) (vs : List DR) (w : World) (hr : RdQ w a n vs) (hn : n ≤ 1048576) :
    Calls Try.prog 8 #[.slice a n cap] w fun e w' => e = .returned (.slice (some ⟨w.heap.size, 0, none⟩) n n) ∧ w'.ownsRow w.heap.size 43 10 (.slice (some ⟨w.heap.size, 0, none⟩) n n) n (cellsQ vs) ∧ Below w.heap.size w w' := by
  obtain ⟨hl, hcs⟩ := hr
  obtain ⟨i0, hi, hz0, hz1, hz2⟩ := info_parts infoQ
  go_enter Try.func8, Try.ntmps8
  go_wp2_with (at_make; refine wpList_make_full _ rfl (.tmp 6) (.tmp 6) 26 rfl w.heap.size 43 i0 (.agg #[.int .i64 0, .int .i64 0, .int .i64 0, .int .i64 0, .int .i64 0, .int .i64 0, .int .i64 0, .int .i64 0, .string ⟨#[]⟩, .string ⟨#[]⟩]) 10 Try.underlying26 hi hz0 hz1 .i64 .i64 _ _ n rfl rfl rfl rfl (by rw [hz2]; omega) (by unfold maxLen; omega) (Nat.le_refl _) ?_; intro w1 hown hgrow)
  go_loopw [4] (fun i wr => ∃ k : Nat, k ≤ n ∧ i = .int .i64 k ∧ wr.ownsRow w.heap.size 43 10 (.slice (some ⟨w.heap.size, 0, none⟩) n n) n (cellsQ (partA zeroR vs n k)) ∧ Below w.heap.size w wr) (fun i _ => n - (intOf i).toNat)
  case atStart => exact ⟨0, by omega, rfl, by have e := made_zeroQ n; simp only [Value.cells] at hown; rw [e] at hown; simpa [partA] using hown, (Below.refl _ _).grown hgrow (Nat.le_refl _) (fun k h => by cases h)⟩
  case round =>
    obtain ⟨k, hk, rfl, hown, hb⟩ := hrel
    by_cases hlt : k < n
    · obtain ⟨b, off, rfl, hbl, hc⟩ := hcs (by omega)
      obtain ⟨⟨ve, vl, vt, vk, vp, vn, vg, vz, vb, va⟩, hv⟩ : ∃ v, v = vs.getD k zeroR := ⟨_, rfl⟩
      obtain ⟨d0, d1, d2, d3, d4, d5, d6, d7, d8, d9⟩ := RdQ.at hc hlt hv
      dsimp only at d0 d1 d2 d3 d4 d5 d6 d7 d8 d9
      have e0 : wr.cell? ⟨b, off + k * 10, none⟩ = some (.int .i64 ve) := by rw [hb.cell (p := ⟨b, off + k * 10, none⟩) hbl, d0]
      have e1 : wr.cell? ⟨b, off + k * 10 + 1, none⟩ = some (.int .i64 vl) := by rw [hb.cell (p := ⟨b, off + k * 10 + 1, none⟩) hbl, d1]
      have e2 : wr.cell? ⟨b, off + k * 10 + 2, none⟩ = some (.int .i64 vt) := by rw [hb.cell (p := ⟨b, off + k * 10 + 2, none⟩) hbl, d2]
      have e3 : wr.cell? ⟨b, off + k * 10 + 3, none⟩ = some (.int .i64 vk) := by rw [hb.cell (p := ⟨b, off + k * 10 + 3, none⟩) hbl, d3]
      have e4 : wr.cell? ⟨b, off + k * 10 + 4, none⟩ = some (.int .i64 vp) := by rw [hb.cell (p := ⟨b, off + k * 10 + 4, none⟩) hbl, d4]
      have e5 : wr.cell? ⟨b, off + k * 10 + 5, none⟩ = some (.int .i64 vn) := by rw [hb.cell (p := ⟨b, off + k * 10 + 5, none⟩) hbl, d5]
      have e6 : wr.cell? ⟨b, off + k * 10 + 6, none⟩ = some (.int .i64 vg) := by rw [hb.cell (p := ⟨b, off + k * 10 + 6, none⟩) hbl, d6]
      have e7 : wr.cell? ⟨b, off + k * 10 + 7, none⟩ = some (.int .i64 vz) := by rw [hb.cell (p := ⟨b, off + k * 10 + 7, none⟩) hbl, d7]
      have e8 : wr.cell? ⟨b, off + k * 10 + 8, none⟩ = some (.string vb) := by rw [hb.cell (p := ⟨b, off + k * 10 + 8, none⟩) hbl, d8]
      have e9 : wr.cell? ⟨b, off + k * 10 + 9, none⟩ = some (.string va) := by rw [hb.cell (p := ⟨b, off + k * 10 + 9, none⟩) hbl, d9]
      have HV : Hid ((⟨ve, vl, vt, vk, vp, vn, vg, vz, vb, va⟩ : DR) = vs.getD k zeroR) := hv
      clear hc hcs hgrow hv d0 d1 d2 d3 d4 d5 d6 d7 d8 d9
      have HO : Hid (wr.ownsRow w.heap.size 43 10 (.slice (some ⟨w.heap.size, 0, none⟩) n n) n (cellsQ (partA zeroR vs n k))) := hown
      have HB : Hid (Below w.heap.size w wr) := hb
      clear hown hb
      go_wp2_with fail
      refine (c_toR _ _ _ _ _ _ _ _ _ _ _).mono ?_
      rintro e w1 ⟨rfl, hb1⟩
      have hown1 := own_below HO.out hb1
      have hbb : Below w.heap.size w w1 := HB.out.trans (hb1.mono HB.out.size)
      have hpl := partA_len zeroR vs n k hl hk
      obtain ⟨u0, f0⟩ : ∃ u, w1.cell? ⟨w.heap.size, k * 10, none⟩ = some u := ⟨_, (hown1.cellAt (k * 10) (by omega)).trans (List.getElem?_eq_getElem (by rw [cellsQ_len]; omega))⟩
      have z0 := hown1.frozenAt (k * 10)
      obtain ⟨u1, f1⟩ : ∃ u, w1.cell? ⟨w.heap.size, k * 10 + 1, none⟩ = some u := ⟨_, (hown1.cellAt (k * 10 + 1) (by omega)).trans (List.getElem?_eq_getElem (by rw [cellsQ_len]; omega))⟩
      have z1 := hown1.frozenAt (k * 10 + 1)
      obtain ⟨u2, f2⟩ : ∃ u, w1.cell? ⟨w.heap.size, k * 10 + 2, none⟩ = some u := ⟨_, (hown1.cellAt (k * 10 + 2) (by omega)).trans (List.getElem?_eq_getElem (by rw [cellsQ_len]; omega))⟩
      have z2 := hown1.frozenAt (k * 10 + 2)
      obtain ⟨u3, f3⟩ : ∃ u, w1.cell? ⟨w.heap.size, k * 10 + 3, none⟩ = some u := ⟨_, (hown1.cellAt (k * 10 + 3) (by omega)).trans (List.getElem?_eq_getElem (by rw [cellsQ_len]; omega))⟩
      have z3 := hown1.frozenAt (k * 10 + 3)
      obtain ⟨u4, f4⟩ : ∃ u, w1.cell? ⟨w.heap.size, k * 10 + 4, none⟩ = some u := ⟨_, (hown1.cellAt (k * 10 + 4) (by omega)).trans (List.getElem?_eq_getElem (by rw [cellsQ_len]; omega))⟩
      have z4 := hown1.frozenAt (k * 10 + 4)
      obtain ⟨u5, f5⟩ : ∃ u, w1.cell? ⟨w.heap.size, k * 10 + 5, none⟩ = some u := ⟨_, (hown1.cellAt (k * 10 + 5) (by omega)).trans (List.getElem?_eq_getElem (by rw [cellsQ_len]; omega))⟩
      have z5 := hown1.frozenAt (k * 10 + 5)
      obtain ⟨u6, f6⟩ : ∃ u, w1.cell? ⟨w.heap.size, k * 10 + 6, none⟩ = some u := ⟨_, (hown1.cellAt (k * 10 + 6) (by omega)).trans (List.getElem?_eq_getElem (by rw [cellsQ_len]; omega))⟩
      have z6 := hown1.frozenAt (k * 10 + 6)
      obtain ⟨u7, f7⟩ : ∃ u, w1.cell? ⟨w.heap.size, k * 10 + 7, none⟩ = some u := ⟨_, (hown1.cellAt (k * 10 + 7) (by omega)).trans (List.getElem?_eq_getElem (by rw [cellsQ_len]; omega))⟩
      have z7 := hown1.frozenAt (k * 10 + 7)
      obtain ⟨u8, f8⟩ : ∃ u, w1.cell? ⟨w.heap.size, k * 10 + 8, none⟩ = some u := ⟨_, (hown1.cellAt (k * 10 + 8) (by omega)).trans (List.getElem?_eq_getElem (by rw [cellsQ_len]; omega))⟩
      have z8 := hown1.frozenAt (k * 10 + 8)
      obtain ⟨u9, f9⟩ : ∃ u, w1.cell? ⟨w.heap.size, k * 10 + 9, none⟩ = some u := ⟨_, (hown1.cellAt (k * 10 + 9) (by omega)).trans (List.getElem?_eq_getElem (by rw [cellsQ_len]; omega))⟩
      have z9 := hown1.frozenAt (k * 10 + 9)
      have hput := own_putQ hown1 k ⟨ve, vl, vt, vk, vp, vn, vg, vz, vb, va⟩ (by omega)
      rw [show (partA zeroR vs n k).set k (⟨ve, vl, vt, vk, vp, vn, vg, vz, vb, va⟩ : DR) = partA zeroR vs n (k + 1) by rw [HV.out]; exact partA_step zeroR vs n k hl hlt] at hput
      dsimp only at hput
      have HP : Hid (_) := hput
      have BB : Hid (Below w.heap.size w ((((((((((w1.setCell ⟨w.heap.size, k * 10, none⟩ (.int .i64 ve)).setCell ⟨w.heap.size, k * 10 + 1, none⟩ (.int .i64 vl)).setCell ⟨w.heap.size, k * 10 + 2, none⟩ (.int .i64 vt)).setCell ⟨w.heap.size, k * 10 + 3, none⟩ (.int .i64 vk)).setCell ⟨w.heap.size, k * 10 + 4, none⟩ (.int .i64 vp)).setCell ⟨w.heap.size, k * 10 + 5, none⟩ (.int .i64 vn)).setCell ⟨w.heap.size, k * 10 + 6, none⟩ (.int .i64 vg)).setCell ⟨w.heap.size, k * 10 + 7, none⟩ (.int .i64 vz)).setCell ⟨w.heap.size, k * 10 + 8, none⟩ (.string vb)).setCell ⟨w.heap.size, k * 10 + 9, none⟩ (.string va))) := ((((((((((hbb.setCell (Nat.le_refl _) _).setCell (Nat.le_refl _) _).setCell (Nat.le_refl _) _).setCell (Nat.le_refl _) _).setCell (Nat.le_refl _) _).setCell (Nat.le_refl _) _).setCell (Nat.le_refl _) _).setCell (Nat.le_refl _) _).setCell (Nat.le_refl _) _).setCell (Nat.le_refl _) _)
      clear hput hown1 hb1 HO HB hbb e0 e1 e2 e3 e4 e5 e6 e7 e8 e9
      go_wp2
      go_roundw
      case rel => exact ⟨k + 1, by omega, by go_num, HP.out, BB.out⟩
      case measure => simp [intOf]; omega
    · have e : k = n := by omega
      subst e
      rw [partA_full _ _ k hl] at hown
      go_wp2
      go_ret
      exact ⟨rfl, hown, hb⟩

end Go.Proofs.Ytimdoaehlciecaa
