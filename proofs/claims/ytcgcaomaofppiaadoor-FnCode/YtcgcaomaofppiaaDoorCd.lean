/-
  The library's Repeat of one number, and its Max.
-/
import Derived.Test.YtcgcaomaofppiaaDoorCc
import Derived.Laws.CopyOwn
import Derived.Deep.RegionLaw
namespace Go.Proofs.YtcgcaomaofppiaaDoor
open Go Go.RowKit
attribute [local go_sem ↓] Go.wp_at_zero Go.wp_at_succ

theorem infoN : (Tryd.prog.info? 3).map (fun i => (i.zero, i.size, i.bytes)) = some (some (Value.int .i64 0), 1, 8) := by kernel_rfl
theorem sizeN : (Tryd.prog.info? 3).map (·.size) = some 1 := by kernel_rfl
def vI (ds : List Int) : List Value := ds.map (Value.int .i64)
/-- Block g is a row of the numbers ds. -/
def NB (w : World) (g : Nat) (ds : List Int) : Prop := Box w g 3 (vI ds).toArray
theorem vI_len (ds : List Int) : (vI ds).length = ds.length := by simp [vI]
theorem vI_get {ds : List Int} {i : Nat} (h : i < ds.length) : (vI ds)[i]? = some (.int .i64 (ds.getD i 0)) := map_get (Value.int .i64) ds 0 i h
theorem NB.cell {w : World} {g : Nat} {ds : List Int} (h : NB w g ds) {i : Nat} (hi : i < ds.length) : w.cell? ⟨g, i, none⟩ = some (.int .i64 (ds.getD i 0)) := by
  have := Box.cell h i
  rw [this]
  simpa using vI_get hi
theorem NB.thaw {w : World} {g : Nat} {ds : List Int} (h : NB w g ds) (i : Nat) : w.frozen? ⟨g, i, none⟩ = false := Box.thaw h i
theorem NB.set {w : World} {g : Nat} {ds : List Int} (h : NB w g ds) (i : Nat) (v : Int) : NB (w.setCell ⟨g, i, none⟩ (.int .i64 v)) g (ds.set i v) := by
  have := Box.set h i (.int .i64 v)
  unfold NB
  rw [show vI (ds.set i v) = (vI ds).set i (.int .i64 v) by simp [vI, List.map_set]]
  rwa [List.setIfInBounds_toArray] at this
theorem NB.below {w w' : World} {g : Nat} {ds : List Int} (h : NB w g ds) (hb : Below w.heap.size w w') : NB w' g ds := Box.belowS h hb
def rowR (c k : Nat) : List Int := List.replicate k (-1) ++ List.replicate (c - k) 0
def mR (m : Nat) : List Value := List.replicate m (.int .i64 (-1))
theorem mR_len (m : Nat) : (mR m).length = m := by simp [mR]
theorem mR_one (m : Nat) : ∀ v ∈ mR m, v.oneCell' = true := by intro v hv; rw [List.eq_of_mem_replicate hv]; rfl
theorem rowR_len {c k : Nat} (h : k ≤ c) : (vI (rowR c k)).length = c := by simp [vI, rowR]; omega
theorem rowR_full (c : Nat) : rowR c c = List.replicate c (-1) := by simp [rowR]
theorem rowR_splice {c k m : Nat} (h : k + m ≤ c) : splice (vI (rowR c k)) k (mR m) = vI (rowR c (k + m)) := by
  unfold splice vI rowR mR
  simp only [List.map_append, List.map_replicate, List.length_replicate]
  rw [List.take_left' (by simp), List.drop_append, List.drop_eq_nil_of_le (by simp), List.length_replicate, List.drop_replicate, List.nil_append, ← List.append_assoc, List.replicate_append_replicate, show c - k - (k + m - k) = c - (k + m) by omega]
theorem mR_get {m j : Nat} {v : Value} (h : (mR m)[j]? = some v) : j < m ∧ v = .int .i64 (-1) := by
  obtain ⟨h1, h2⟩ := List.getElem?_eq_some_iff.1 h
  rw [mR_len] at h1
  exact ⟨h1, by rw [← h2]; simp [mR]⟩
theorem rowR_cell {c k j : Nat} (hj : j < k) : (rowR c k).getD j 0 = -1 := by
  rw [List.getD_eq_getElem?_getD, rowR, List.getElem?_append_left (by simpa using hj), List.getElem?_replicate, if_pos hj]; rfl
theorem made_zeroN (n : Nat) : (madeCells #[.int .i64 0] (n * 1)).toList = vI (rowR n 0) := by
  rw [Nat.mul_one, toList_madeCells_one]; simp [vI, rowR]
theorem own_nb {w : World} {base g n : Nat} {ds : List Int} (h : w.ownsRow base 3 1 (.slice (some ⟨g, 0, none⟩) n n) n (vI ds)) : NB w g ds := by
  obtain ⟨h1, h2⟩ := h
  rcases h2 with ⟨h0, _⟩ | ⟨g', cap, cur, hv, hb, hg, hn, hm, hs, ht⟩
  · cases h0
  · simp only [Value.slice.injEq, Option.some.injEq, Addr.mk.injEq] at hv
    obtain ⟨⟨rfl, _, _⟩, _, rfl⟩ := hv
    rw [List.take_of_length_le (by simp; omega)] at ht
    unfold NB Box
    rw [hg, ← ht]
set_option maxRecDepth 100000 in
set_option maxHeartbeats 4000000 in
theorem c_repeat (g off cap c : Nat) (w : World) (h0 : w.cell? ⟨g, off, none⟩ = some (.int .i64 (-1))) (hc1 : 1 ≤ c) (hc : c ≤ 81) :
    Calls Tryd.prog 66 #[.slice (some ⟨g, off, none⟩) 1 cap, .int .i64 (c : Int)] w fun e w' => e = .returned (.slice (some ⟨w.heap.size, 0, none⟩) c c) ∧ NB w' w.heap.size (List.replicate c (-1)) ∧ Below w.heap.size w w' := by
  obtain ⟨i0, hi, hz0, hz1, hz2⟩ := info_parts infoN
  have hu := u64w hc
  have hw1 : IntKind.wrap .u64 1 = 1 := u64w (c := 1) (by omega)
  have hi1 : IntKind.wrap .i64 (c : Int) = (c : Int) := by have := hc; simp [IntKind.wrap, IntKind.signed, IntKind.bits]; omega
  have hlt : g < w.heap.size := World.block_lt_of_cell? w ⟨g, off, none⟩ h0
  have n1 : ¬ ((c : Int) < 0) := by omega
  have n2 : ¬ ((c : Int) > 9223372036854775807) := by omega
  go_enter Tryd.func66, Tryd.ntmps66
  go_wp2_with (first | (go_at_call 86; refine (mul_1 c hc _).mono ?_; rintro e w ⟨rfl, rfl⟩)
                     | (at_make; refine wpList_make_full _ rfl (.tmp 29) (.tmp 29) 80 rfl _ 3 i0 (.int .i64 0) 1 Tryd.underlying80 hi hz0 hz1 .i64 .i64 _ _ c rfl rfl rfl rfl (by rw [hz2]; omega) (by unfold maxLen; omega) (Nat.le_refl _) ?_; intro w1 hown hgrow))
  obtain ⟨w2, hw2⟩ : ∃ W, w1.setRow w.heap.size (vI (rowR c 1)).toArray = W := ⟨_, rfl⟩
  have H2 : Hid (NB w2 w.heap.size (rowR c 1)) ∧ Below w.heap.size w w2 ∧ (Builtin.copy_ #[80, 80] 3 #[.slice (some ⟨w.heap.size, 0, none⟩) c c, .slice (some ⟨g, off, none⟩) 1 cap]).run Tryd.prog w1 = .ok (goInt 1) w2 := by
    have e0 := made_zeroN c
    simp only [Value.cells] at hown
    rw [e0] at hown
    have HG : NB w1 w.heap.size (rowR c 0) := own_nb hown
    have HB : Below w.heap.size w w1 := (Below.refl _ _).grown hgrow (Nat.le_refl _) (fun k h => by cases h)
    have hcell : w1.cell? ⟨g, off, none⟩ = some (.int .i64 (-1)) := far6 HB h0
    have hr := run_copy_row (P := Tryd.prog) w1 80 80 3 3 w.heap.size 0 c c ⟨g, off, none⟩ 1 cap (vI (rowR c 0)).toArray 3 (mR 1) Tryd.underlying80 sizeN HG (by rw [mR_len]; exact (Nat.min_eq_left hc1).symm) (fun j v hv => by obtain ⟨hj, rfl⟩ := mR_get hv; obtain rfl : j = 0 := (by omega); rw [addr_add]; exact hcell) (by rw [mR_len]; simp only [List.size_toArray]; rw [rowR_len (Nat.zero_le _)]; omega) (mR_one 1)
    have es : (vI (rowR c 0)).toArray.toList.take 0 ++ (mR 1 ++ (vI (rowR c 0)).toArray.toList.drop (0 + (mR 1).length)) = vI (rowR c 1) := by
      have := rowR_splice (c := c) (k := 0) (m := 1) (by omega)
      rw [Nat.zero_add] at this
      exact this
    rw [List.append_assoc, es, mR_len, hw2] at hr
    refine ⟨?_, ?_, hr⟩
    · show NB w2 _ _
      rw [← hw2]
      exact setRow_heap w1 _ _ _ _ _ HG
    · rw [← hw2]; exact below_setRow HB (Nat.le_refl _) _
  obtain ⟨G2, B2, R2⟩ := H2
  rw [R2]
  clear hown hgrow hw2 h0 hlt R2
  go_wp2
  go_loopw [8] (fun v wr => ∃ k : Nat, 1 ≤ k ∧ k ≤ c ∧ v = .int .i64 (k : Int) ∧ Hid (NB wr w.heap.size (rowR c k)) ∧ Below w.heap.size w wr) (fun v _ => c - (intOf v).toNat)
  case atStart => exact ⟨1, by omega, by omega, rfl, G2, B2⟩
  case round =>
    obtain ⟨k, hk1, hk, rfl, G, B⟩ := hrel
    by_cases hlt : k < c
    · have g0 : (0 : Int) ≤ (k : Int) := by omega
      have g1 : (k : Int) < (c : Int) := by omega
      have g2 : (k : Int) ≤ (c : Int) := by omega
      have hne : ¬ c = k := by omega
      obtain ⟨m, hm⟩ : ∃ m, m = min k (c - k) := ⟨_, rfl⟩
      have hm1 : 1 ≤ m := by omega
      have hm2 : k + m ≤ c := by omega
      have hm3 : m ≤ k := by omega
      obtain ⟨w3, hw3⟩ : ∃ W, wr.drew.setRow w.heap.size (vI (rowR c (k + m))).toArray = W := ⟨_, rfl⟩
      have H3 : Hid (NB w3 w.heap.size (rowR c (k + m))) ∧ Below w.heap.size w w3 ∧ (Builtin.copy_ #[80, 80] 3 #[.slice (some ⟨w.heap.size, k, none⟩) (c - k) (c - k), .slice (some ⟨w.heap.size, 0, none⟩) k c]).run Tryd.prog wr.drew = .ok (goInt m) w3 := by
        have HG : NB wr.drew w.heap.size (rowR c k) := G.out
        have HB : Below w.heap.size w wr.drew := B.drew
        have hr := run_copy_row (P := Tryd.prog) wr.drew 80 80 3 3 w.heap.size k (c - k) (c - k) ⟨w.heap.size, 0, none⟩ k c (vI (rowR c k)).toArray 3 (mR m) Tryd.underlying80 sizeN HG (by rw [mR_len]; exact hm) (fun j v hv => by
          obtain ⟨hj, rfl⟩ := mR_get hv
          have := NB.cell HG (show j < (rowR c k).length by simp [rowR]; omega)
          rw [rowR_cell (by omega)] at this
          rw [addr_add, Nat.zero_add]
          exact this) (by rw [mR_len]; simp only [List.size_toArray]; rw [rowR_len hk]; omega) (mR_one m)
        have es : (vI (rowR c k)).toArray.toList.take k ++ (mR m ++ (vI (rowR c k)).toArray.toList.drop (k + (mR m).length)) = vI (rowR c (k + m)) := rowR_splice hm2
        rw [List.append_assoc, es, mR_len, hw3] at hr
        refine ⟨?_, ?_, hr⟩
        · show NB w3 _ _
          rw [← hw3]
          exact setRow_heap wr.drew _ _ _ _ _ HG
        · rw [← hw3]; exact below_setRow HB (Nat.le_refl _) _
      obtain ⟨G3, B3, R3⟩ := H3
      clear hm hw3 B2 G2 B G
      go_wp2_with fail
      go_region
      go_wp2
      go_roundw
      case rel => exact ⟨k + m, by omega, by omega, by go_num, G3, B3⟩
      case measure => simp [intOf]; omega
    · have e : k = c := by omega
      subst e
      go_wp2
      go_ret
      exact ⟨rfl, by have := G.out; rwa [rowR_full] at this, B⟩

end Go.Proofs.YtcgcaomaofppiaaDoor
