/-
  Reading a page: what both answer, and the walk of the program's ReadPage.
-/
import Derived.Test.YtkpopingbbaomaaGreatDoorRiq
import Derived.Test.YtkpopingbbaomaaGreatDoorZzam
namespace Go.Proofs.YtkpopingbbaomaaGreatDoor
open Go Go.RowKit
attribute [local go_sem ↓] Go.wp_at_zero Go.wp_at_succ


theorem rc1_fit {zs r : List Int} {ps : List (Int × Int)} (hz : ∀ z ∈ zs, 0 ≤ z ∧ z < 256) (h : rc1 zs = some (ps, r)) : ps.length ≤ 255 ∧ (∀ p ∈ ps, 0 ≤ p.1 ∧ p.1 < 256) ∧ (∀ y ∈ r, 0 ≤ y ∧ y < 256) ∧ r.length ≤ zs.length := by
  cases zs with
  | nil => simp [rc1] at h
  | cons z t =>
    simp only [rc1] at h
    split at h
    · cases h
    · rename_i hl
      simp only [Option.some.injEq, Prod.mk.injEq] at h
      obtain ⟨rfl, rfl⟩ := h
      have hz0 := hz z (by simp)
      refine ⟨by rw [prs_len]; omega, fun p hp => ?_, fun y hy => hz y (List.mem_cons_of_mem _ (List.mem_of_mem_drop hy)), by simp; omega⟩
      unfold prs at hp
      obtain ⟨i, hi, rfl⟩ := List.mem_map.1 hp
      have hi' : i < z.toNat := List.mem_range.1 hi
      refine hz _ (List.mem_cons_of_mem _ ?_)
      show t.getD (2 * i) 0 ∈ t
      rw [List.getD_eq_getElem?_getD, List.getElem?_eq_getElem (by omega)]
      exact List.getElem_mem _
theorem rc2_none1 {zs : List Int} (h : rc1 zs = none) : rc2 zs = none := by unfold rc2; rw [h]
theorem rc2_none2 {zs r : List Int} {ps : List (Int × Int)} (h : rc1 zs = some (ps, r)) (h2 : rc1 r = none) : rc2 zs = none := by unfold rc2; rw [h]; simp only [h2]
theorem rc2_none3 {zs r r' : List Int} {ps ts : List (Int × Int)} (h : rc1 zs = some (ps, r)) (h2 : rc1 r = some (ts, r')) (h3 : r' ≠ []) : rc2 zs = none := by unfold rc2; rw [h]; simp only [h2, if_neg h3]
theorem rc2_some {zs r : List Int} {ps ts : List (Int × Int)} (h : rc1 zs = some (ps, r)) (h2 : rc1 r = some (ts, [])) : rc2 zs = some (ps, ts) := by unfold rc2; rw [h]; simp only [h2]; rfl
theorem c_chk0 {zs : List Int} (h : rc1 zs = none) (w : World) (hz : ∀ z ∈ zs, 0 ≤ z ∧ z < 256) (hn : zs.length ≤ 9223372036854775807) :
    Calls Tryz.prog 306 #[.string (strOfNums zs)] w fun e w' => (∃ a n c s, e = .returned (.tuple #[.slice a n c, .string s, .bool false])) ∧ Below w.heap.size w w' := by
  have := c_checked zs w hz hn
  rw [h] at this
  exact this
theorem c_chk1 {zs r : List Int} {ps : List (Int × Int)} (h : rc1 zs = some (ps, r)) (w : World) (hz : ∀ z ∈ zs, 0 ≤ z ∧ z < 256) (hn : zs.length ≤ 9223372036854775807) :
    Calls Tryz.prog 306 #[.string (strOfNums zs)] w fun e w' => (∃ a c, e = .returned (.tuple #[.slice a ps.length c, .string (strOfNums r), .bool true]) ∧ w'.ownsRow w.heap.size 368 2 (.slice a ps.length c) ps.length (cells2 ps)) ∧ Below w.heap.size w w' := by
  have := c_checked zs w hz hn
  rw [h] at this
  exact this
def AnsC (w : World) (zs : List Int) (e : Ending) (w' : World) : Prop :=
  (match rc2 zs with
    | none => ∃ a n c a' n' c', e = .returned (.tuple #[.slice a n c, .slice a' n' c', .bool false])
    | some (ps, ts) => ps.length ≤ 255 ∧ ts.length ≤ 255 ∧ (∀ p ∈ ps, 0 ≤ p.1 ∧ p.1 < 256) ∧ (∀ p ∈ ts, 0 ≤ p.1 ∧ p.1 < 256) ∧ ∃ a c a' c', e = .returned (.tuple #[.slice a ps.length c, .slice a' ts.length c', .bool true]) ∧ w'.ownsRow w.heap.size 368 2 (.slice a ps.length c) ps.length (cells2 ps) ∧ w'.ownsRow w.heap.size 368 2 (.slice a' ts.length c') ts.length (cells2 ts)) ∧ Below w.heap.size w w'
theorem ansC_none {w w' : World} {zs : List Int} {e : Ending} (h : rc2 zs = none) (he : ∃ a n c a' n' c', e = .returned (.tuple #[.slice a n c, .slice a' n' c', .bool false])) (hb : Below w.heap.size w w') : AnsC w zs e w' := by unfold AnsC; rw [h]; exact ⟨he, hb⟩
theorem ansC_some {w w' : World} {zs : List Int} {ps ts : List (Int × Int)} {e : Ending} (h : rc2 zs = some (ps, ts)) (he : ps.length ≤ 255 ∧ ts.length ≤ 255 ∧ (∀ p ∈ ps, 0 ≤ p.1 ∧ p.1 < 256) ∧ (∀ p ∈ ts, 0 ≤ p.1 ∧ p.1 < 256) ∧ ∃ a c a' c', e = .returned (.tuple #[.slice a ps.length c, .slice a' ts.length c', .bool true]) ∧ w'.ownsRow w.heap.size 368 2 (.slice a ps.length c) ps.length (cells2 ps) ∧ w'.ownsRow w.heap.size 368 2 (.slice a' ts.length c') ts.length (cells2 ts)) (hb : Below w.heap.size w w') : AnsC w zs e w' := by unfold AnsC; rw [h]; exact ⟨he, hb⟩
theorem son_empty {r : List Int} : (strOfNums r).toList.isEmpty = decide (r.length = 0) := by
  have h := (szE (strOfNums r))
  rw [strOfNums_size] at h
  cases r with
  | nil => simp only [List.length_nil, true_iff] at h; rw [h]; rfl
  | cons z r =>
    cases hh : (strOfNums (z :: r)).toList with
    | nil => rw [hh] at h; simp at h
    | cons => simp
set_option maxRecDepth 100000 in
set_option maxHeartbeats 4000000 in
theorem c_readCheck (zs : List Int) (w : World) (hz : ∀ z ∈ zs, 0 ≤ z ∧ z < 256) (hn : zs.length ≤ 9223372036854775807) :
    Calls Tryz.prog 287 #[.string (strOfNums zs)] w (AnsC w zs) := by
  obtain ⟨t, ht⟩ : ∃ t, t = strOfNums zs := ⟨_, rfl⟩
  cases h1 : rc1 zs with
  | none =>
    have E : Hid (rc2 zs = none) := rc2_none1 h1
    have CK : Hid (Calls Tryz.prog 306 #[.string t] w fun e w' => (∃ a n c s, e = .returned (.tuple #[.slice a n c, .string s, .bool false])) ∧ Below w.heap.size w w') := by unfold Hid; rw [ht]; exact c_chk0 h1 w hz hn
    rw [← ht]
    clear ht hz h1
    go_enter Tryz.func287, Tryz.ntmps287
    go_wp2_with fail
    refine CK.out.mono ?_
    rintro e w1 ⟨⟨a, n, c, s, rfl⟩, hb⟩
    clear CK
    go_wp2
    go_ret3
    exact ansC_none E.out ⟨_, _, _, _, _, _, rfl⟩ hb
  | some x =>
    obtain ⟨ps, r⟩ := x
    obtain ⟨f1, f2, f3, f4⟩ := rc1_fit hz h1
    have CK : Hid (Calls Tryz.prog 306 #[.string t] w fun e w' => (∃ a c, e = .returned (.tuple #[.slice a ps.length c, .string (strOfNums r), .bool true]) ∧ w'.ownsRow w.heap.size 368 2 (.slice a ps.length c) ps.length (cells2 ps)) ∧ Below w.heap.size w w') := by unfold Hid; rw [ht]; exact c_chk1 h1 w hz hn
    rw [← ht]
    have F2 : Hid (∀ p ∈ ps, 0 ≤ p.1 ∧ p.1 < 256) := f2
    clear ht hz f2
    obtain ⟨u, hu⟩ : ∃ u, u = strOfNums r := ⟨_, rfl⟩
    cases h2 : rc1 r with
    | none =>
      have E : Hid (rc2 zs = none) := rc2_none2 h1 h2
      have CL : Hid (∀ W, Calls Tryz.prog 306 #[.string u] W fun e w' => (∃ a n c s, e = .returned (.tuple #[.slice a n c, .string s, .bool false])) ∧ Below W.heap.size W w') := fun W => by rw [hu]; exact c_chk0 h2 W f3 (by omega)
      rw [← hu] at CK
      clear h1 h2 hu f3 f4
      go_enter Tryz.func287, Tryz.ntmps287
      go_wp2_with fail
      refine CK.out.mono ?_
      rintro e w1 ⟨⟨a, c, rfl, o1⟩, hb⟩
      have B1 : Hid (Below w.heap.size w w1) := hb
      clear CK o1 hb
      go_wp2_with fail
      refine (CL.out w1).mono ?_
      rintro e w2 ⟨⟨a2, n2, c2, s2, rfl⟩, hb⟩
      have B2 : Hid (Below w.heap.size w w2) := B1.out.trans (hb.mono B1.out.size)
      clear CL hb B1
      go_wp2
      go_ret3
      exact ansC_none E.out ⟨_, _, _, _, _, _, rfl⟩ B2.out
    | some y =>
      obtain ⟨ts, r'⟩ := y
      obtain ⟨g1, g2, g3, g4⟩ := rc1_fit f3 h2
      have G2 : Hid (∀ p ∈ ts, 0 ≤ p.1 ∧ p.1 < 256) := g2
      obtain ⟨v, hv⟩ : ∃ v, v = strOfNums r' := ⟨_, rfl⟩
      have he : v.toList.isEmpty = decide (r'.length = 0) := by rw [hv]; exact son_empty
      have CL : Hid (∀ W, Calls Tryz.prog 306 #[.string u] W fun e w' => (∃ a c, e = .returned (.tuple #[.slice a ts.length c, .string v, .bool true]) ∧ w'.ownsRow W.heap.size 368 2 (.slice a ts.length c) ts.length (cells2 ts)) ∧ Below W.heap.size W w') := fun W => by rw [hu, hv]; exact c_chk1 h2 W f3 (by omega)
      rw [← hu] at CK
      have E : Hid ((r'.length = 0 → rc2 zs = some (ps, ts)) ∧ (¬ r'.length = 0 → rc2 zs = none)) := ⟨fun h => by rw [List.length_eq_zero_iff.1 h] at h2; exact rc2_some h1 h2, fun h => rc2_none3 h1 h2 (fun e => h (by rw [e]; rfl))⟩
      clear h1 h2 hu hv f3 f4 g3 g4 g2
      go_enter Tryz.func287, Tryz.ntmps287
      go_wp2_with fail
      refine CK.out.mono ?_
      rintro e w1 ⟨⟨a, c, rfl, o1⟩, hb⟩
      have B1 : Hid (Below w.heap.size w w1) := hb
      have O1 : Hid (w1.ownsRow w.heap.size 368 2 (.slice a ps.length c) ps.length (cells2 ps)) := o1
      clear CK o1 hb
      go_wp2_with fail
      refine (CL.out w1).mono ?_
      rintro e w2 ⟨⟨a2, c2, rfl, o2⟩, hb⟩
      have B2 : Hid (Below w.heap.size w w2) := B1.out.trans (hb.mono B1.out.size)
      have O2 : Hid (w2.ownsRow w.heap.size 368 2 (.slice a ps.length c) ps.length (cells2 ps)) := own_below O1.out hb
      have O3 : Hid (w2.ownsRow w.heap.size 368 2 (.slice a2 ts.length c2) ts.length (cells2 ts)) := o2.down B1.out.size
      clear CL hb o2 B1 O1
      by_cases hr : r'.length = 0
      · have ee : v.toList.isEmpty = true := he.trans (decide_eq_true hr)
        have E2 : Hid (rc2 zs = some (ps, ts)) := E.out.1 hr
        clear he hr E
        go_wp2
        go_ret3
        exact ansC_some E2.out ⟨f1, g1, F2.out, G2.out, _, _, _, _, rfl, O2.out, O3.out⟩ B2.out
      · have ee : v.toList.isEmpty = false := he.trans (decide_eq_false hr)
        have E2 : Hid (rc2 zs = none) := E.out.2 hr
        clear he hr E
        go_wp2
        go_ret3
        exact ansC_none E2.out ⟨_, _, _, _, _, _, rfl⟩ B2.out
theorem nums_get (a : ByteArray) : strOfNums (numsT a) = a := by
  apply toList_inj
  rw [ByteArray.toList_eq, strOfNums_data]
  unfold numsT
  rw [List.map_map, ByteArray.toList_eq]
  conv => rhs; rw [← List.map_id a.data.toList]
  apply List.map_congr_left
  intro b _
  simp
theorem nums_bytes (a : ByteArray) : ∀ z ∈ numsT a, 0 ≤ z ∧ z < 256 := by
  intro z hz
  unfold numsT at hz
  obtain ⟨b, _, rfl⟩ := List.mem_map.1 hz
  have := b.toNat_lt
  omega
theorem nums_len (a : ByteArray) : (numsT a).length = a.size := by
  unfold numsT
  rw [List.length_map, ByteArray.toList_eq]
  simp

end Go.Proofs.YtkpopingbbaomaaGreatDoor
namespace Go.Proofs.YtkpopingbbaomaaGreatDoor.G
open Go Go.RowKit
attribute [local go_sem ↓] Go.wp_at_zero Go.wp_at_succ


def rdC (no : Int) (zs : List Int) : Int := if 65536 < zs.length then 2 else if unsB zs then (if (rpD no (headZ zs)).isSome then 0 else 3) else 8
def rdR (no : Int) (zs : List Int) : DG := if 65536 < zs.length then ⟨0, []⟩ else if unsB zs then rpP (rpD no (headZ zs)) else ⟨0, []⟩
theorem rd2 {no : Int} {zs : List Int} (h : 65536 < zs.length) : rdC no zs = 2 ∧ rdR no zs = ⟨0, []⟩ := by unfold rdC rdR; rw [if_pos h, if_pos h]; exact ⟨rfl, rfl⟩
theorem rd8 {no : Int} {zs : List Int} (h : ¬ 65536 < zs.length) (h1 : unsB zs = false) : rdC no zs = 8 ∧ rdR no zs = ⟨0, []⟩ := by unfold rdC rdR; rw [if_neg h, if_neg h, h1]; exact ⟨rfl, rfl⟩
theorem rd3 {no : Int} {zs : List Int} (h : ¬ 65536 < zs.length) (h1 : unsB zs = true) (h2 : rpD no (headZ zs) = none) : rdC no zs = 3 ∧ rdR no zs = ⟨0, []⟩ := by unfold rdC rdR; rw [if_neg h, if_neg h, h1, h2]; exact ⟨rfl, rfl⟩
theorem rd0 {no : Int} {zs : List Int} {D : DG} (h : ¬ 65536 < zs.length) (h1 : unsB zs = true) (h2 : rpD no (headZ zs) = some D) : rdC no zs = 0 ∧ rdR no zs = D := by unfold rdC rdR; rw [if_neg h, if_neg h, h1, h2]; exact ⟨rfl, rfl⟩
theorem rpD_ok {no : Int} {x : List Int} {D : DG} (h : rpD no x = some D) : okG D = true := by
  unfold rpD at h
  split at h
  · cases h
  · split at h
    · split at h
      · cases h
      · split at h
        · rename_i hg
          cases h
          exact hg
        · cases h
    · cases h
theorem ok_fitG {D : DG} (h : okG D = true) : FitG D := by
  have hp := okG_parts h
  exact ⟨by rw [hp.2.2.1]; omega, fun s hs => by have := hp.2.2.2 s hs; omega⟩
theorem rd_fit (no : Int) (zs : List Int) : FitG (rdR no zs) := by
  unfold rdR
  split
  · exact ⟨by simp, fun _ h => by cases h⟩
  · split
    · cases h : rpD no (headZ zs) with
      | none => exact ⟨by simp [rpP], fun _ h => by cases h⟩
      | some D => exact ok_fitG (rpD_ok h)
    · exact ⟨by simp, fun _ h => by cases h⟩
set_option maxRecDepth 100000 in
set_option maxHeartbeats 4000000 in
theorem c_implRP (no : Int) (a : Option Addr) (n cap : Nat) (zs : List Int) (w : World) (hr : RdV w a n (zs.map (Value.int .u8))) (hz : ∀ z ∈ zs, 0 ≤ z ∧ z < 256) (hn : n ≤ 1048576) (hcap : n ≤ cap) (ht : TabH w) :
    Calls Tryz.prog 271 #[.int .i64 no, .slice a n cap] w fun e w' => (∃ h' : HG, e = .returned (.tuple #[.agg #[.int .i64 h'.l, .slice h'.a h'.n h'.c], .int .i64 (rdC no zs)]) ∧ OwnG w' w.heap.size w'.heap.size h' (rdR no zs)) ∧ Below w.heap.size w w' := by
  have hl : zs.length = n := by simpa using hr.1
  obtain ⟨V, hV⟩ : ∃ V, w.alloc (.cells #[.int .i64 0, .slice none 0 0] 140) = V := ⟨_, rfl⟩
  have HB : Hid (Below w.heap.size w V) := by unfold Hid; rw [← hV]; exact (Below.refl _ _).alloc (Nat.le_refl _) _
  have BR : Hid (Box V w.heap.size 140 #[.int .i64 0, .slice none 0 0]) := by unfold Hid; rw [← hV]; exact Box.new _ _ _
  have l0 := BR.out.lt
  obtain ⟨u0, u1⟩ := box2 BR.out
  have t0 := BR.out.thaw 0
  have t1 := BR.out.thaw 1
  by_cases h1 : 65536 < n
  · have E : Hid (rdC no zs = 2 ∧ rdR no zs = ⟨0, []⟩) := rd2 (by omega)
    clear hr hz ht
    go_enter Tryz.func271, Tryz.ntmps271
    go_wp2
    refine retG2 Tryz.results271 rfl rfl rfl (put2_box BR.out _ _) ⟨?_, put2_below HB.out (Nat.le_refl _) _ _⟩
    rw [E.out.1, E.out.2]
    exact ⟨⟨0, none, 0, 0⟩, rfl, own_zero _ _ _ (Nat.le_refl _)⟩
  by_cases h4 : n < 4
  · have E : Hid (rdC no zs = 8 ∧ rdR no zs = ⟨0, []⟩) := rd8 (by omega) (uns_lo (by omega))
    clear hr hz ht
    go_enter Tryz.func271, Tryz.ntmps271
    go_wp2_with fail
    refine (c_unseal_lo a n cap V h4).mono ?_
    rintro e w1 ⟨rfl, q, hq⟩
    have B1 : Hid (Below w.heap.size w w1) := by unfold Hid; rw [hq]; exact below_drewN HB.out q
    have BR1 : Hid (Box w1 w.heap.size 140 #[.int .i64 0, .slice none 0 0]) := by unfold Hid; rw [hq]; exact BR.out.drewN q
    clear hq hV HB BR u0 u1 t0 t1
    obtain ⟨u0, u1⟩ := box2 BR1.out
    have t0 := BR1.out.thaw 0
    have t1 := BR1.out.thaw 1
    go_wp2
    refine retG2 Tryz.results271 rfl rfl rfl (put2_box BR1.out _ _) ⟨?_, put2_below B1.out (Nat.le_refl _) _ _⟩
    rw [E.out.1, E.out.2]
    exact ⟨⟨0, none, 0, 0⟩, rfl, own_zero _ _ _ (Nat.le_refl _)⟩
  obtain ⟨b, off, rfl, _, _⟩ := hr.2 (by omega)
  have HR : Hid (RdV w (some ⟨b, off, none⟩) n (zs.map (Value.int .u8))) := hr
  have HZ : Hid (∀ z ∈ zs, 0 ≤ z ∧ z < 256) := hz
  have HL : Hid (zs.length = n) := hl
  have UN := c_unseal b off n cap zs V (hr.below HB.out) hz (by omega) hcap (by omega) (ht.below HB.out)
  have HUN : Hid (Calls Tryz.prog 281 #[.slice (some ⟨b, off, none⟩) n cap] V fun e w' => e = .returned (.tuple #[unsV b off n (unsB zs), .bool (unsB zs)]) ∧ Below V.heap.size V w') := UN
  clear UN hr hz ht hl
  go_enter Tryz.func271, Tryz.ntmps271
  go_wp2_with fail
  refine HUN.out.mono ?_
  rintro e w1 ⟨rfl, hb⟩
  have B1 : Hid (Below w.heap.size w w1) := HB.out.trans (hb.mono HB.out.size)
  have BR1 : Hid (Box w1 w.heap.size 140 #[.int .i64 0, .slice none 0 0]) := BR.out.belowS hb
  clear hb hV HB BR u0 u1 t0 t1 HUN
  obtain ⟨u0, u1⟩ := box2 BR1.out
  have t0 := BR1.out.thaw 0
  have t1 := BR1.out.thaw 1
  cases hu : unsB zs
  · have E : Hid (rdC no zs = 8 ∧ rdR no zs = ⟨0, []⟩) := rd8 (by have := HL.out; omega) hu
    clear hu
    rw [show unsV b off n false = .slice none 0 0 from rfl]
    go_wp2
    refine retG2 Tryz.results271 rfl rfl rfl (put2_box BR1.out _ _) ⟨?_, put2_below B1.out (Nat.le_refl _) _ _⟩
    rw [E.out.1, E.out.2]
    exact ⟨⟨0, none, 0, 0⟩, rfl, own_zero _ _ _ (Nat.le_refl _)⟩
  have HU : Hid (unsB zs = true) := hu
  clear hu
  rw [show unsV b off n true = .slice (some ⟨b, off, none⟩) (n - 4) (n - 4) from rfl]
  have q01 : w.heap.size < w1.heap.size := BR1.out.lt
  have PO : Hid (Calls Tryz.prog 301 #[.int .i64 no, .slice (some ⟨b, off, none⟩) (n - 4) (n - 4)] w1 fun e w' => (∃ h' : HG, e = .returned (.tuple #[.agg #[.int .i64 h'.l, .slice h'.a h'.n h'.c], .bool (rpD no (headZ zs)).isSome]) ∧ OwnG w' w1.heap.size w'.heap.size h' (rpP (rpD no (headZ zs)))) ∧ Below w1.heap.size w1 w') := c_pageOf no b off (n - 4) (headZ zs) w1 ((head_rd HR.out).below B1.out) (head_bytes HZ.out) (by omega)
  go_wp2_with fail
  refine PO.out.mono ?_
  rintro e w2 ⟨⟨h2, rfl, o2⟩, hb⟩
  have B2 : Hid (Below w.heap.size w w2) := B1.out.trans (hb.mono B1.out.size)
  have BR2 : Hid (Box w2 w.heap.size 140 #[.int .i64 0, .slice none 0 0]) := BR1.out.belowS hb
  have O2 : Hid (OwnG w2 w1.heap.size w2.heap.size h2 (rpP (rpD no (headZ zs)))) := o2
  have q12 : w1.heap.size ≤ w2.heap.size := hb.size
  clear hb o2 PO B1 BR1 u0 u1 t0 t1
  obtain ⟨V3, hV3⟩ : ∃ W, w2.alloc (.cells #[.int .i64 h2.l, .slice h2.a h2.n h2.c] 140) = W := ⟨_, rfl⟩
  have hbv : Below w2.heap.size w2 V3 := by rw [← hV3]; exact (Below.refl _ _).alloc (Nat.le_refl _) _
  have B3 : Hid (Below w.heap.size w V3) := B2.out.trans (hbv.mono B2.out.size)
  have BR3 : Hid (Box V3 w.heap.size 140 #[.int .i64 0, .slice none 0 0]) := BR2.out.belowS hbv
  have BP3 : Hid (Box V3 w2.heap.size 140 #[.int .i64 h2.l, .slice h2.a h2.n h2.c]) := by unfold Hid; rw [← hV3]; exact Box.new _ _ _
  have O3 : Hid (OwnG V3 w1.heap.size w2.heap.size h2 (rpP (rpD no (headZ zs)))) := O2.out.below hbv
  clear hbv B2 BR2 O2
  obtain ⟨p0, p1⟩ := box2 BP3.out
  obtain ⟨u0, u1⟩ := box2 BR3.out
  have t0 := BR3.out.thaw 0
  have t1 := BR3.out.thaw 1
  cases hd : rpD no (headZ zs) with
  | none =>
    have E : Hid (rdC no zs = 3 ∧ rdR no zs = ⟨0, []⟩) := rd3 (by have := HL.out; omega) HU.out hd
    clear hd O3
    rw [Option.isSome_none]
    go_wp2
    refine retG2 Tryz.results271 rfl rfl rfl (put2_box BR3.out _ _) ⟨?_, put2_below B3.out (Nat.le_refl _) _ _⟩
    rw [E.out.1, E.out.2]
    exact ⟨⟨0, none, 0, 0⟩, rfl, own_zero _ _ _ (Nat.le_refl _)⟩
  | some D =>
    have E : Hid (rdC no zs = 0 ∧ rdR no zs = D) := rd0 (by have := HL.out; omega) HU.out hd
    have O4 : Hid (OwnG V3 w1.heap.size w2.heap.size h2 D) := by have := O3.out; rw [hd] at this; exact this
    clear hd O3
    rw [Option.isSome_some]
    go_wp2
    refine retG2 Tryz.results271 rfl rfl rfl (put2_box BR3.out _ _) ⟨?_, put2_below B3.out (Nat.le_refl _) _ _⟩
    rw [E.out.1, E.out.2]
    have := O4.out.put2 (r := w.heap.size) (.inl (by omega)) (.int .i64 h2.l) (.slice h2.a h2.n h2.c)
    exact ⟨h2, rfl, this.wide (B' := w.heap.size) (by omega)⟩

end Go.Proofs.YtkpopingbbaomaaGreatDoor.G
