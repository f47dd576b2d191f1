/-
  Records of the log: the walks of the program's isCheck and RecordOK.
-/
import Derived.Test.YtimdoaehlciecaaRi
import Derived.Test.YtimdoaehlciecaaRk
namespace Go.Proofs.Ytimdoaehlciecaa
open Go Go.RowKit
attribute [local go_sem ↓] Go.wp_at_zero Go.wp_at_succ


theorem rc1_fit {zs r : List Int} {ps : List (Int × Int)} (hz : ∀ z ∈ zs, 0 ≤ z ∧ z < 256) (h : rc1 zs = some (ps, r)) : ps.length ≤ 255 ∧ (∀ p ∈ ps, 0 ≤ p.1 ∧ p.1 < 256) ∧ (∀ y ∈ r, 0 ≤ y ∧ y < 256) ∧ r.length ≤ zs.length := by
  cases zs with
  | nil => simp [rc1] at h
  | cons z t =>
    simp only [rc1] at h
    split at h
    · cases h
    · rename_i hl
      simp only [Option.some.injEq, Prod.mk.injEq] at h
      obtain ⟨rfl, rfl⟩ := h
      have hz0 := hz z (by simp)
      refine ⟨by rw [prs_len]; omega, fun p hp => ?_, fun y hy => hz y (List.mem_cons_of_mem _ (List.mem_of_mem_drop hy)), by simp; omega⟩
      unfold prs at hp
      obtain ⟨i, hi, rfl⟩ := List.mem_map.1 hp
      have hi' : i < z.toNat := List.mem_range.1 hi
      refine hz _ (List.mem_cons_of_mem _ ?_)
      show t.getD (2 * i) 0 ∈ t
      rw [List.getD_eq_getElem?_getD, List.getElem?_eq_getElem (by omega)]
      exact List.getElem_mem _
theorem rc2_none1 {zs : List Int} (h : rc1 zs = none) : rc2 zs = none := by unfold rc2; rw [h]
theorem rc2_none2 {zs r : List Int} {ps : List (Int × Int)} (h : rc1 zs = some (ps, r)) (h2 : rc1 r = none) : rc2 zs = none := by unfold rc2; rw [h]; simp only [h2]
theorem rc2_none3 {zs r r' : List Int} {ps ts : List (Int × Int)} (h : rc1 zs = some (ps, r)) (h2 : rc1 r = some (ts, r')) (h3 : r' ≠ []) : rc2 zs = none := by unfold rc2; rw [h]; simp only [h2, if_neg h3]
theorem rc2_some {zs r : List Int} {ps ts : List (Int × Int)} (h : rc1 zs = some (ps, r)) (h2 : rc1 r = some (ts, [])) : rc2 zs = some (ps, ts) := by unfold rc2; rw [h]; simp only [h2]; rfl
theorem c_chk0 {zs : List Int} (h : rc1 zs = none) (w : World) (hz : ∀ z ∈ zs, 0 ≤ z ∧ z < 256) (hn : zs.length ≤ 9223372036854775807) :
    Calls Try.prog 48 #[.string (strOfNums zs)] w fun e w' => (∃ a n c s, e = .returned (.tuple #[.slice a n c, .string s, .bool false])) ∧ Below w.heap.size w w' := by
  have := c_checked zs w hz hn
  rw [h] at this
  exact this
theorem c_chk1 {zs r : List Int} {ps : List (Int × Int)} (h : rc1 zs = some (ps, r)) (w : World) (hz : ∀ z ∈ zs, 0 ≤ z ∧ z < 256) (hn : zs.length ≤ 9223372036854775807) :
    Calls Try.prog 48 #[.string (strOfNums zs)] w fun e w' => (∃ a c, e = .returned (.tuple #[.slice a ps.length c, .string (strOfNums r), .bool true]) ∧ w'.ownsRow w.heap.size 82 2 (.slice a ps.length c) ps.length (cells2 ps)) ∧ Below w.heap.size w w' := by
  have := c_checked zs w hz hn
  rw [h] at this
  exact this
def AnsC (w : World) (zs : List Int) (e : Ending) (w' : World) : Prop :=
  (match rc2 zs with
    | none => ∃ a n c a' n' c', e = .returned (.tuple #[.slice a n c, .slice a' n' c', .bool false])
    | some (ps, ts) => ps.length ≤ 255 ∧ ts.length ≤ 255 ∧ (∀ p ∈ ps, 0 ≤ p.1 ∧ p.1 < 256) ∧ (∀ p ∈ ts, 0 ≤ p.1 ∧ p.1 < 256) ∧ ∃ a c a' c', e = .returned (.tuple #[.slice a ps.length c, .slice a' ts.length c', .bool true]) ∧ w'.ownsRow w.heap.size 82 2 (.slice a ps.length c) ps.length (cells2 ps) ∧ w'.ownsRow w.heap.size 82 2 (.slice a' ts.length c') ts.length (cells2 ts)) ∧ Below w.heap.size w w'
theorem ansC_none {w w' : World} {zs : List Int} {e : Ending} (h : rc2 zs = none) (he : ∃ a n c a' n' c', e = .returned (.tuple #[.slice a n c, .slice a' n' c', .bool false])) (hb : Below w.heap.size w w') : AnsC w zs e w' := by unfold AnsC; rw [h]; exact ⟨he, hb⟩
theorem ansC_some {w w' : World} {zs : List Int} {ps ts : List (Int × Int)} {e : Ending} (h : rc2 zs = some (ps, ts)) (he : ps.length ≤ 255 ∧ ts.length ≤ 255 ∧ (∀ p ∈ ps, 0 ≤ p.1 ∧ p.1 < 256) ∧ (∀ p ∈ ts, 0 ≤ p.1 ∧ p.1 < 256) ∧ ∃ a c a' c', e = .returned (.tuple #[.slice a ps.length c, .slice a' ts.length c', .bool true]) ∧ w'.ownsRow w.heap.size 82 2 (.slice a ps.length c) ps.length (cells2 ps) ∧ w'.ownsRow w.heap.size 82 2 (.slice a' ts.length c') ts.length (cells2 ts)) (hb : Below w.heap.size w w') : AnsC w zs e w' := by unfold AnsC; rw [h]; exact ⟨he, hb⟩
theorem son_empty {r : List Int} : (strOfNums r).toList.isEmpty = decide (r.length = 0) := by
  have h := (szE (strOfNums r))
  rw [strOfNums_size] at h
  cases r with
  | nil => simp only [List.length_nil, true_iff] at h; rw [h]; rfl
  | cons z r =>
    cases hh : (strOfNums (z :: r)).toList with
    | nil => rw [hh] at h; simp at h
    | cons => simp
set_option maxRecDepth 100000 in
set_option maxHeartbeats 4000000 in
theorem c_readCheck (zs : List Int) (w : World) (hz : ∀ z ∈ zs, 0 ≤ z ∧ z < 256) (hn : zs.length ≤ 9223372036854775807) :
    Calls Try.prog 44 #[.string (strOfNums zs)] w (AnsC w zs) := by
  obtain ⟨t, ht⟩ : ∃ t, t = strOfNums zs := ⟨_, rfl⟩
  cases h1 : rc1 zs with
  | none =>
    have E : Hid (rc2 zs = none) := rc2_none1 h1
    have CK : Hid (Calls Try.prog 48 #[.string t] w fun e w' => (∃ a n c s, e = .returned (.tuple #[.slice a n c, .string s, .bool false])) ∧ Below w.heap.size w w') := by unfold Hid; rw [ht]; exact c_chk0 h1 w hz hn
    rw [← ht]
    clear ht hz h1
    go_enter Try.func44, Try.ntmps44
    go_wp2_with fail
    refine CK.out.mono ?_
    rintro e w1 ⟨⟨a, n, c, s, rfl⟩, hb⟩
    clear CK
    go_wp2
    go_ret3
    exact ansC_none E.out ⟨_, _, _, _, _, _, rfl⟩ hb
  | some x =>
    obtain ⟨ps, r⟩ := x
    obtain ⟨f1, f2, f3, f4⟩ := rc1_fit hz h1
    have CK : Hid (Calls Try.prog 48 #[.string t] w fun e w' => (∃ a c, e = .returned (.tuple #[.slice a ps.length c, .string (strOfNums r), .bool true]) ∧ w'.ownsRow w.heap.size 82 2 (.slice a ps.length c) ps.length (cells2 ps)) ∧ Below w.heap.size w w') := by unfold Hid; rw [ht]; exact c_chk1 h1 w hz hn
    rw [← ht]
    have F2 : Hid (∀ p ∈ ps, 0 ≤ p.1 ∧ p.1 < 256) := f2
    clear ht hz f2
    obtain ⟨u, hu⟩ : ∃ u, u = strOfNums r := ⟨_, rfl⟩
    cases h2 : rc1 r with
    | none =>
      have E : Hid (rc2 zs = none) := rc2_none2 h1 h2
      have CL : Hid (∀ W, Calls Try.prog 48 #[.string u] W fun e w' => (∃ a n c s, e = .returned (.tuple #[.slice a n c, .string s, .bool false])) ∧ Below W.heap.size W w') := fun W => by rw [hu]; exact c_chk0 h2 W f3 (by omega)
      rw [← hu] at CK
      clear h1 h2 hu f3 f4
      go_enter Try.func44, Try.ntmps44
      go_wp2_with fail
      refine CK.out.mono ?_
      rintro e w1 ⟨⟨a, c, rfl, o1⟩, hb⟩
      have B1 : Hid (Below w.heap.size w w1) := hb
      clear CK o1 hb
      go_wp2_with fail
      refine (CL.out w1).mono ?_
      rintro e w2 ⟨⟨a2, n2, c2, s2, rfl⟩, hb⟩
      have B2 : Hid (Below w.heap.size w w2) := B1.out.trans (hb.mono B1.out.size)
      clear CL hb B1
      go_wp2
      go_ret3
      exact ansC_none E.out ⟨_, _, _, _, _, _, rfl⟩ B2.out
    | some y =>
      obtain ⟨ts, r'⟩ := y
      obtain ⟨g1, g2, g3, g4⟩ := rc1_fit f3 h2
      have G2 : Hid (∀ p ∈ ts, 0 ≤ p.1 ∧ p.1 < 256) := g2
      obtain ⟨v, hv⟩ : ∃ v, v = strOfNums r' := ⟨_, rfl⟩
      have he : v.toList.isEmpty = decide (r'.length = 0) := by rw [hv]; exact son_empty
      have CL : Hid (∀ W, Calls Try.prog 48 #[.string u] W fun e w' => (∃ a c, e = .returned (.tuple #[.slice a ts.length c, .string v, .bool true]) ∧ w'.ownsRow W.heap.size 82 2 (.slice a ts.length c) ts.length (cells2 ts)) ∧ Below W.heap.size W w') := fun W => by rw [hu, hv]; exact c_chk1 h2 W f3 (by omega)
      rw [← hu] at CK
      have E : Hid ((r'.length = 0 → rc2 zs = some (ps, ts)) ∧ (¬ r'.length = 0 → rc2 zs = none)) := ⟨fun h => by rw [List.length_eq_zero_iff.1 h] at h2; exact rc2_some h1 h2, fun h => rc2_none3 h1 h2 (fun e => h (by rw [e]; rfl))⟩
      clear h1 h2 hu hv f3 f4 g3 g4 g2
      go_enter Try.func44, Try.ntmps44
      go_wp2_with fail
      refine CK.out.mono ?_
      rintro e w1 ⟨⟨a, c, rfl, o1⟩, hb⟩
      have B1 : Hid (Below w.heap.size w w1) := hb
      have O1 : Hid (w1.ownsRow w.heap.size 82 2 (.slice a ps.length c) ps.length (cells2 ps)) := o1
      clear CK o1 hb
      go_wp2_with fail
      refine (CL.out w1).mono ?_
      rintro e w2 ⟨⟨a2, c2, rfl, o2⟩, hb⟩
      have B2 : Hid (Below w.heap.size w w2) := B1.out.trans (hb.mono B1.out.size)
      have O2 : Hid (w2.ownsRow w.heap.size 82 2 (.slice a ps.length c) ps.length (cells2 ps)) := own_below O1.out hb
      have O3 : Hid (w2.ownsRow w.heap.size 82 2 (.slice a2 ts.length c2) ts.length (cells2 ts)) := o2.down B1.out.size
      clear CL hb o2 B1 O1
      by_cases hr : r'.length = 0
      · have ee : v.toList.isEmpty = true := he.trans (decide_eq_true hr)
        have E2 : Hid (rc2 zs = some (ps, ts)) := E.out.1 hr
        clear he hr E
        go_wp2
        go_ret3
        exact ansC_some E2.out ⟨f1, g1, F2.out, G2.out, _, _, _, _, rfl, O2.out, O3.out⟩ B2.out
      · have ee : v.toList.isEmpty = false := he.trans (decide_eq_false hr)
        have E2 : Hid (rc2 zs = none) := E.out.2 hr
        clear he hr E
        go_wp2
        go_ret3
        exact ansC_none E2.out ⟨_, _, _, _, _, _, rfl⟩ B2.out
theorem nums_get (a : ByteArray) : strOfNums (numsT a) = a := by
  apply toList_inj
  rw [ByteArray.toList_eq, strOfNums_data]
  unfold numsT
  rw [List.map_map, ByteArray.toList_eq]
  conv => rhs; rw [← List.map_id a.data.toList]
  apply List.map_congr_left
  intro b _
  simp
theorem nums_bytes (a : ByteArray) : ∀ z ∈ numsT a, 0 ≤ z ∧ z < 256 := by
  intro z hz
  unfold numsT at hz
  obtain ⟨b, _, rfl⟩ := List.mem_map.1 hz
  have := b.toNat_lt
  omega
theorem nums_len (a : ByteArray) : (numsT a).length = a.size := by
  unfold numsT
  rw [List.length_map, ByteArray.toList_eq]
  simp

end Go.Proofs.Ytimdoaehlciecaa
