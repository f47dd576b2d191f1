/-
  NewDisk: the program's and the specification's.
-/
import Derived.Test.YtefbaemcdfmhpaaWc
namespace Go.Proofs.Ytefbaemcdfmhpaa
open Go Go.RowKit
attribute [local go_sem ↓] Go.wp_at_zero Go.wp_at_succ

def newD (n : Nat) : DD := ⟨List.replicate n ⟨#[]⟩, [], false, []⟩
def newR (x : Int) : DD := if 1 ≤ x ∧ x ≤ 100 then newD x.toNat else eD
def newC (x : Int) : Int := if 1 ≤ x ∧ x ≤ 100 then 0 else 4
theorem new_fit (x : Int) : Fit (newR x) := by
  unfold newR
  split
  · exact ⟨by show (List.replicate _ _).length ≤ _; simp; omega, Nat.zero_le _, Nat.zero_le _, fun s hs => by rw [List.eq_of_mem_replicate hs]; exact Nat.zero_le _, nofun⟩
  · exact fit_eD
theorem made_texts (n : Nat) : (madeCells (Value.string ⟨#[]⟩).cells (n * 1)).toList = (List.replicate n (⟨#[]⟩ : ByteArray)).map Value.string := by
  rw [partV_zero (Value.string ⟨#[]⟩) rfl [] n]; simp [partV]

set_option maxHeartbeats 4000000 in
theorem c_implNew (x : Int) (w : World) :
    Calls Try.prog 26 #[.int .i64 x] w fun e w' => (∃ h' : HD, e = .returned (.tuple #[.agg #[.slice h'.a0 h'.n0 h'.c0, .slice h'.a1 h'.n1 h'.c1, .bool h'.b, .slice h'.a2 h'.n2 h'.c2], .int .i64 (newC x)]) ∧ OwnD w' w.heap.size w'.heap.size h' (newR x)) ∧ Below w.heap.size w w' := by
  have HB : Hid (Below w.heap.size w (w.alloc (.cells #[.slice none 0 0, .slice none 0 0, .bool false, .slice none 0 0] 27))) := (Below.refl _ _).alloc (Nat.le_refl _) _
  have BR : Hid (Box (w.alloc (.cells #[.slice none 0 0, .slice none 0 0, .bool false, .slice none 0 0] 27)) w.heap.size 27 #[.slice none 0 0, .slice none 0 0, .bool false, .slice none 0 0]) := Box.new _ _ _
  by_cases h1 : x < 1
  · have E1 : Hid (newR x = eD) := by unfold Hid newR; rw [if_neg (by omega)]
    have E2 : Hid (newC x = 4) := by unfold Hid newC; rw [if_neg (by omega)]
    go_enter Try.func26, Try.ntmps26
    go_wp2
    refine ret_box2 (v := .int .i64 4) Try.results26 rfl rfl rfl BR.out ⟨⟨⟨none, 0, 0, none, 0, 0, false, none, 0, 0⟩, by rw [E2.out], by rw [E1.out]; exact own_eD _ _⟩, HB.out⟩
  · by_cases h2 : 100 < x
    · have E1 : Hid (newR x = eD) := by unfold Hid newR; rw [if_neg (by omega)]
      have E2 : Hid (newC x = 4) := by unfold Hid newC; rw [if_neg (by omega)]
      go_enter Try.func26, Try.ntmps26
      go_wp2
      refine ret_box2 (v := .int .i64 4) Try.results26 rfl rfl rfl BR.out ⟨⟨⟨none, 0, 0, none, 0, 0, false, none, 0, 0⟩, by rw [E2.out], by rw [E1.out]; exact own_eD _ _⟩, HB.out⟩
    · obtain ⟨n, rfl⟩ : ∃ n : Nat, x = (n : Int) := ⟨x.toNat, by omega⟩
      have E1 : Hid (newR n = newD n) := by unfold Hid newR; rw [if_pos (by omega)]; simp
      have E2 : Hid (newC n = 0) := by unfold Hid newC; rw [if_pos (by omega)]
      obtain ⟨i0, hi, hz0, hz1, hz2⟩ := info_parts infoS
      obtain ⟨V, hV⟩ : ∃ V, w.alloc (.cells #[.slice none 0 0, .slice none 0 0, .bool false, .slice none 0 0] 27) = V := ⟨_, rfl⟩
      rw [hV] at HB BR
      have lV := BR.out.lt
      go_enter Try.func26, Try.ntmps26
      go_wp2_with (at_make; refine wpList_make_full _ rfl (.tmp 11) (.tmp 11) 23 rfl w.heap.size 9 i0 (Value.string ⟨#[]⟩) 1 Try.underlying23 hi hz0 hz1 .i64 .i64 _ _ n rfl rfl rfl rfl (by rw [hz2]; omega) (by unfold maxLen; omega) HB.out.size ?_; intro w1 hown hgrow; rw [made_texts] at hown; have hb1 : Below w.heap.size w w1 := HB.out.grown hgrow HB.out.size (fun k h => by cases h); have br1 := BR.out.grown hgrow (by simp); have HO : Hid (w1.ownsRow w.heap.size 9 1 (.slice (some ⟨V.heap.size, 0, none⟩) n n) n ((List.replicate n (⟨#[]⟩ : ByteArray)).map Value.string)) := hown; have HB1 : Hid (Below w.heap.size w w1) := hb1; have BR1 : Hid (Box w1 w.heap.size 27 #[.slice none 0 0, .slice none 0 0, .bool false, .slice none 0 0]) := br1; obtain ⟨y0, y1, y2, y3⟩ := box4 br1; have z0 := br1.thaw 0; have z1 := br1.thaw 1; have z2 := br1.thaw 2; have z3 := br1.thaw 3; clear hown hgrow hb1 br1)
      refine ret_box2 (v := .int .i64 0) Try.results26 rfl rfl rfl (put4_box BR1.out _ _ _ _) ⟨⟨⟨some ⟨V.heap.size, 0, none⟩, n, n, none, 0, 0, false, none, 0, 0⟩, by rw [E2.out], ?_⟩, put4_below HB1.out (Nat.le_refl _) _ _ _ _⟩
      rw [E1.out]
      exact oneD (own_same HO.out fun g e => put4_same _ _ _ _ _ _ _ (by have e' : V.heap.size = g := Option.some.inj e; omega))

set_option maxHeartbeats 4000000 in
theorem c_l02New (n : Nat) (w : World) (hn : n ≤ 100) :
    Calls Try.prog 58 #[.int .i64 n] w fun e w' => (∃ h' : HD, e = .returned (.agg #[.slice h'.a0 h'.n0 h'.c0, .slice h'.a1 h'.n1 h'.c1, .bool h'.b, .slice h'.a2 h'.n2 h'.c2]) ∧ OwnD w' w.heap.size w'.heap.size h' (newD n)) ∧ Below w.heap.size w w' := by
  obtain ⟨i0, hi, hz0, hz1, hz2⟩ := info_parts infoS
  have HB : Hid (Below w.heap.size w (w.alloc (.cells #[.slice none 0 0, .slice none 0 0, .bool false, .slice none 0 0] 27))) := (Below.refl _ _).alloc (Nat.le_refl _) _
  have BR : Hid (Box (w.alloc (.cells #[.slice none 0 0, .slice none 0 0, .bool false, .slice none 0 0] 27)) w.heap.size 27 #[.slice none 0 0, .slice none 0 0, .bool false, .slice none 0 0]) := Box.new _ _ _
  obtain ⟨V, hV⟩ : ∃ V, w.alloc (.cells #[.slice none 0 0, .slice none 0 0, .bool false, .slice none 0 0] 27) = V := ⟨_, rfl⟩
  rw [hV] at HB BR
  have lV := BR.out.lt
  go_enter Try.func58, Try.ntmps58
  go_wp2_with (first
    | (at_make; refine wpList_make_full _ rfl (.tmp 3) (.tmp 3) 23 rfl w.heap.size 9 i0 (Value.string ⟨#[]⟩) 1 Try.underlying23 hi hz0 hz1 .i64 .i64 _ _ n rfl rfl rfl rfl (by rw [hz2]; omega) (by unfold maxLen; omega) HB.out.size ?_
       intro w1 hown hgrow
       rw [made_texts] at hown
       have hb1 : Below w.heap.size w w1 := HB.out.grown hgrow HB.out.size (fun k h => by cases h)
       have br1 := BR.out.grown hgrow (by simp)
       obtain ⟨W2, hW2⟩ : ∃ W, w1.alloc (.cells #[] 42) = W := ⟨_, rfl⟩
       obtain ⟨W3, hW3⟩ : ∃ W, W2.alloc (.cells #[] 3) = W := ⟨_, rfl⟩
       have S2 : W2.heap.size = w1.heap.size + 1 := by rw [← hW2]; simp
       have S3 : W3.heap.size = w1.heap.size + 1 + 1 := by rw [← hW3, ← hW2]; simp
       have e1 : Box W3 w1.heap.size 42 #[] := by have := (Box.new w1 #[] 42).alloc (.cells #[] 3); rwa [hW2, hW3] at this
       have e2 : Box W3 W2.heap.size 3 #[] := by have := Box.new W2 #[] 3; rwa [hW3] at this
       have br3 : Box W3 w.heap.size 27 #[.slice none 0 0, .slice none 0 0, .bool false, .slice none 0 0] := by have := (br1.alloc (.cells #[] 42)).alloc (.cells #[] 3); rwa [hW2, hW3] at this
       have hb3 : Below w.heap.size w W3 := by rw [← hW3, ← hW2]; exact (hb1.alloc hb1.size _).alloc (by have := hb1.size; simp; omega) _
       have ho3 : W3.ownsRow w.heap.size 9 1 (.slice (some ⟨V.heap.size, 0, none⟩) n n) n ((List.replicate n (⟨#[]⟩ : ByteArray)).map Value.string) := by have := (hown.alloc (.cells #[] 42)).alloc (.cells #[] 3); rwa [hW2, hW3] at this
       have hl := hown.lt V.heap.size rfl
       have HO : Hid (W3.ownsRow w.heap.size 9 1 (.slice (some ⟨V.heap.size, 0, none⟩) n n) n ((List.replicate n (⟨#[]⟩ : ByteArray)).map Value.string)) := ho3
       have HE1 : Hid (Box W3 w1.heap.size 42 #[]) := e1
       have HE2 : Hid (Box W3 W2.heap.size 3 #[]) := e2
       have HB1 : Hid (Below w.heap.size w W3) := hb3
       have BR1 : Hid (Box W3 w.heap.size 27 #[.slice none 0 0, .slice none 0 0, .bool false, .slice none 0 0]) := br3
       have HS2 : Hid (W2.heap.size = w1.heap.size + 1) := S2
       have HS3 : Hid (W3.heap.size = w1.heap.size + 1 + 1) := S3
       have HL : Hid (V.heap.size < w1.heap.size) := hl.2
       obtain ⟨y0, y1, y2, y3⟩ := box4 br3
       have z0 := br3.thaw 0
       have z1 := br3.thaw 1
       have z2 := br3.thaw 2
       have z3 := br3.thaw 3
       clear hown hgrow hb1 br1 S2 S3 e1 e2 br3 hb3 ho3 hl))
  refine ret_box1 Try.results58 rfl rfl (put4_box BR1.out _ _ _ _) ⟨⟨⟨some ⟨V.heap.size, 0, none⟩, n, n, some ⟨w1.heap.size, 0, none⟩, 0, 0, false, some ⟨W2.heap.size, 0, none⟩, 0, 0⟩, rfl, ?_⟩, put4_below HB1.out (Nat.le_refl _) _ _ _ _⟩
  have a1 := HS2.out
  have a2 := HS3.out
  have a3 := HL.out
  exact two_empty (by simp; omega) (by simp; omega) (by omega) (own_same HO.out fun g e => put4_same _ _ _ _ _ _ _ (by have e' : V.heap.size = g := Option.some.inj e; omega)) ((put4_same _ _ _ _ _ _ _ (by omega)).trans HE1.out) ((put4_same _ _ _ _ _ _ _ (by omega)).trans HE2.out) (fun g e => by have e' : V.heap.size = g := Option.some.inj e; omega)

set_option maxHeartbeats 4000000 in
theorem c_specNew (x : Int) (w : World) :
    Calls Try.prog 27 #[.int .i64 x] w fun e w' => (∃ h' : HD, e = .returned (.tuple #[.agg #[.slice h'.a0 h'.n0 h'.c0, .slice h'.a1 h'.n1 h'.c1, .bool h'.b, .slice h'.a2 h'.n2 h'.c2], .int .i64 (newC x)]) ∧ OwnD w' w.heap.size w'.heap.size h' (newR x)) ∧ Below w.heap.size w w' := by
  have HB : Hid (Below w.heap.size w (w.alloc (.cells #[.slice none 0 0, .slice none 0 0, .bool false, .slice none 0 0] 27))) := (Below.refl _ _).alloc (Nat.le_refl _) _
  have BR : Hid (Box (w.alloc (.cells #[.slice none 0 0, .slice none 0 0, .bool false, .slice none 0 0] 27)) w.heap.size 27 #[.slice none 0 0, .slice none 0 0, .bool false, .slice none 0 0]) := Box.new _ _ _
  cases hin : inB x 1 100
  · have E1 : Hid (newR x = eD) := by unfold inB at hin; unfold Hid newR; rw [if_neg (of_decide_eq_false hin)]
    have E2 : Hid (newC x = 4) := by unfold inB at hin; unfold Hid newC; rw [if_neg (of_decide_eq_false hin)]
    go_enter Try.func27, Try.ntmps27
    go_wp2_with (go_at_call 46; refine (c_in _ _ _ _).mono ?_; rintro e w' ⟨rfl, rfl⟩)
    refine ret_box2 (v := .int .i64 4) Try.results27 rfl rfl rfl BR.out ⟨⟨⟨none, 0, 0, none, 0, 0, false, none, 0, 0⟩, by rw [E2.out], by rw [E1.out]; exact own_eD _ _⟩, HB.out⟩
  · have hx : 1 ≤ x ∧ x ≤ 100 := by unfold inB at hin; exact of_decide_eq_true hin
    obtain ⟨n, rfl⟩ : ∃ n : Nat, x = (n : Int) := ⟨x.toNat, by omega⟩
    have E1 : Hid (newR n = newD n) := by unfold Hid newR; rw [if_pos (by omega)]; simp
    have E2 : Hid (newC n = 0) := by unfold Hid newC; rw [if_pos (by omega)]
    have hn : n ≤ 100 := by omega
    clear hx
    obtain ⟨V, hV⟩ : ∃ V, w.alloc (.cells #[.slice none 0 0, .slice none 0 0, .bool false, .slice none 0 0] 27) = V := ⟨_, rfl⟩
    rw [hV] at HB BR
    go_enter Try.func27, Try.ntmps27
    go_wp2_with fail
    refine (c_in _ _ _ _).mono ?_
    rintro e w' ⟨rfl, rfl⟩
    go_wp2_with fail
    refine (c_l02New n _ hn).mono ?_
    rintro e w2 ⟨⟨h', rfl, o⟩, hb⟩
    have B2 : Hid (Below w.heap.size w w2) := HB.out.trans (hb.mono HB.out.size)
    have y1 := BR.out.belowS hb
    have lV := BR.out.lt
    have O : Hid (∀ W, W.heap.size = w2.heap.size → (∀ g, g ≠ w.heap.size → W.heap[g]? = w2.heap[g]?) → OwnD W w.heap.size W.heap.size h' (newD n)) := fun W hs hg => o.put (by omega) hs (by omega) hg
    clear hb o
    obtain ⟨y0, yy1, y2, y3⟩ := box4 y1
    have z0 := y1.thaw 0
    have z1 := y1.thaw 1
    have z2 := y1.thaw 2
    have z3 := y1.thaw 3
    have BR2 : Hid (Box w2 w.heap.size 27 #[.slice none 0 0, .slice none 0 0, .bool false, .slice none 0 0]) := y1
    clear y1
    go_wp2
    refine ret_box2 (v := .int .i64 0) Try.results27 rfl rfl rfl (put4_box BR2.out _ _ _ _) ⟨⟨h', by rw [E2.out], by rw [E1.out]; exact O.out _ (by simp) (fun g hg => put4_same _ _ _ _ _ _ _ hg)⟩, put4_below B2.out (Nat.le_refl _) _ _ _ _⟩
end Go.Proofs.Ytefbaemcdfmhpaa
