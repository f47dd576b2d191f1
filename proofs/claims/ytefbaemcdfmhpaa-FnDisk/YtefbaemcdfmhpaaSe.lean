/-
  Sectors once writes are done: the program's settled.
-/
import Derived.Test.YtefbaemcdfmhpaaOw
namespace Go.Proofs.Ytefbaemcdfmhpaa
open Go Go.RowKit
attribute [local go_sem ↓] Go.wp_at_zero Go.wp_at_succ

/-- Writes done one by one. -/
def settle (S : List ByteArray) (C : List PP) : List ByteArray := C.foldl (fun s p => s.set p.1.toNat p.2) S
theorem settle_len (S : List ByteArray) (C : List PP) : (settle S C).length = S.length := by
  unfold settle
  induction C generalizing S with
  | nil => rfl
  | cons p C ih => rw [List.foldl_cons, ih]; simp
theorem settle_snoc (S : List ByteArray) (C : List PP) (p : PP) : settle S (C ++ [p]) = (settle S C).set p.1.toNat p.2 := by unfold settle; rw [List.foldl_append]; rfl
theorem take_snoc (C : List PP) (k : Nat) (h : k < C.length) : C.take (k + 1) = C.take k ++ [C.getD k dP] := by
  rw [List.take_succ_eq_append_getElem h, List.getD_eq_getElem?_getD, List.getElem?_eq_getElem h]; rfl
theorem getD_mem (C : List PP) (k : Nat) (h : k < C.length) : C.getD k dP ∈ C := by rw [List.getD_eq_getElem?_getD, List.getElem?_eq_getElem h]; exact List.getElem_mem h
theorem settle_size {S : List ByteArray} {C : List PP} {m : Nat} (h : ∀ s ∈ S, s.size ≤ m) (h' : ∀ p ∈ C, p.2.size ≤ m) : ∀ s ∈ settle S C, s.size ≤ m := by
  unfold settle
  induction C generalizing S with
  | nil => exact h
  | cons p C ih =>
    rw [List.foldl_cons]
    refine ih ?_ (fun q hq => h' q (List.mem_cons_of_mem _ hq))
    intro s hs
    rcases List.mem_or_eq_of_mem_set hs with h1 | h1
    · exact h s h1
    · rw [h1]; exact h' p List.mem_cons_self

set_option maxHeartbeats 4000000 in
theorem c_settled (a0 : Option Addr) (n0 c0 : Nat) (a1 : Option Addr) (n1 c1 : Nat) (b : Bool) (a2 : Option Addr) (n2 c2 : Nat) (S : List ByteArray) (C : List PP) (w : World)
    (r0 : RdV w a0 n0 (S.map Value.string)) (r1 : RdP w a1 n1 C) (hk : a0 = none → c0 = 0) (hn0 : n0 ≤ 1048576) (hn1 : n1 ≤ 1048576) (hg : ∀ p ∈ C, 0 ≤ p.1 ∧ p.1 < S.length) :
    Calls Try.prog 79 #[.agg #[.slice a0 n0 c0, .slice a1 n1 c1, .bool b, .slice a2 n2 c2]] w fun e w' => (∃ a' c', e = .returned (.slice a' n0 c') ∧ w'.ownsRow w.heap.size 9 1 (.slice a' n0 c') n0 ((settle S C).map Value.string) ∧ ∀ g, ob a' = some g → w.heap.size ≤ g ∧ g < w'.heap.size) ∧ Below w.heap.size w w' := by
  have l0 : S.length = n0 := by simpa using r0.1
  have l1 := r1.1
  have R0 : Hid (RdV w a0 n0 (S.map Value.string)) := r0
  have R1 : Hid (RdP w a1 n1 C) := r1
  have HG : Hid (∀ p ∈ C, 0 ≤ p.1 ∧ p.1 < S.length) := hg
  have HB : Hid (Below w.heap.size w (w.alloc (.cells #[.slice a0 n0 c0, .slice a1 n1 c1, .bool b, .slice a2 n2 c2] 27))) := (Below.refl _ _).alloc (Nat.le_refl _) _
  have BX : Hid (Box (w.alloc (.cells #[.slice a0 n0 c0, .slice a1 n1 c1, .bool b, .slice a2 n2 c2] 27)) w.heap.size 27 #[.slice a0 n0 c0, .slice a1 n1 c1, .bool b, .slice a2 n2 c2]) := Box.new _ _ _
  clear r0 r1 hg
  go_enter Try.func79, Try.ntmps79
  go_wp2_with fail
  refine (c_cpS a0 n0 c0 S _ (R0.out.below HB.out) hk hn0).mono ?_
  rintro e w1 ⟨⟨a', c', rfl, o, rng⟩, hb⟩
  have B1 : Hid (Below w.heap.size w w1) := HB.out.trans (hb.mono HB.out.size)
  have O1 : Hid (w1.ownsRow w.heap.size 9 1 (.slice a' n0 c') n0 (S.map Value.string)) := o.down (by simp)
  have x1 := BX.out.belowS hb
  obtain ⟨v0, v1, v2, v3⟩ := box4 x1
  clear hb o x1 HB BX rng
  go_wp2
  go_loopw [12] (fun i wr => ∃ k : Nat, k ≤ n1 ∧ i = .int .i64 k ∧ wr.ownsRow w.heap.size 9 1 (.slice a' n0 c') n0 ((settle S (C.take k)).map Value.string) ∧ Below w.heap.size w wr) (fun i _ => n1 - (intOf i).toNat)
  case atStart => exact ⟨0, by omega, rfl, by simpa [settle] using O1.out, B1.out⟩
  case round =>
    obtain ⟨k, hk, rfl, hown, hb⟩ := hrel
    by_cases hlt : k < n1
    · obtain ⟨bb, off, rfl, hbl, hc⟩ := R1.out.2 (by omega)
      obtain ⟨⟨xa, xt⟩, hx⟩ : ∃ x, x = C.getD k dP := ⟨_, rfl⟩
      obtain ⟨d0, d1⟩ := hc k hlt
      rw [← hx] at d0 d1
      have hgk : 0 ≤ xa ∧ xa < (n0 : Int) := by
        have := HG.out _ (getD_mem C k (by omega))
        rw [← hx, l0] at this
        exact this
      obtain ⟨m, rfl⟩ : ∃ m : Nat, xa = (m : Int) := ⟨xa.toNat, by omega⟩
      have hm : m < n0 := by omega
      have e0 : wr.cell? ⟨bb, off + k * 2, none⟩ = some (.int .i64 m) := (hb.cell (p := ⟨bb, off + k * 2, none⟩) hbl).trans d0
      have e1 : wr.cell? ⟨bb, off + k * 2 + 1, none⟩ = some (.string xt) := (hb.cell (p := ⟨bb, off + k * 2 + 1, none⟩) hbl).trans d1
      rcases own_form hown with ⟨hv, h0⟩ | ⟨g, cap, hv, hg1, hg2⟩
      · omega
      · cases hv
        have hownA : (wr.alloc (.cells #[.int .i64 m, .string xt] 42)).ownsRow w.heap.size 9 1 (.slice (some ⟨g, 0, none⟩) n0 c') n0 ((settle S (C.take k)).map Value.string) := hown.alloc _
        have hsl : ((settle S (C.take k)).map Value.string).length = n0 := by simp [settle_len, l0]
        obtain ⟨old, hold⟩ : ∃ old, (wr.alloc (.cells #[.int .i64 m, .string xt] 42)).cell? ⟨g, m, none⟩ = some old := by
          rw [hownA.cellAt m (by omega)]
          exact ⟨_, List.getElem?_eq_getElem (by omega)⟩
        have hfz := hownA.frozenAt m
        have hown2 := ((hown.stored m (.string xt)).1).alloc (.cells #[.int .i64 m, .string xt] 42)
        have hst : ((settle S (C.take k)).map Value.string).set m (.string xt) = (settle S (C.take (k + 1))).map Value.string := by
          rw [take_snoc C k (by omega), ← hx, settle_snoc, List.map_set]; simp
        rw [hst] at hown2
        have HO : Hid (World.ownsRow _ w.heap.size 9 1 (.slice (some ⟨g, 0, none⟩) n0 c') n0 _) := hown2
        have HBS : Hid (Below w.heap.size w ((wr.setCell ⟨g, m, none⟩ (.string xt)).alloc (.cells #[.int .i64 m, .string xt] 42))) := (hb.setCell hg1 _).alloc (by have := hb.size; simp; omega) _
        have hgs : g < wr.heap.size := hg2
        have hbl2 : bb < wr.heap.size := Nat.lt_of_lt_of_le hbl hb.size
        clear hc hx d0 d1 hown hownA hown2 hst hb
        go_wp2
        go_roundw
        case rel => exact ⟨k + 1, by omega, by go_num, HO.out, HBS.out⟩
        case measure => simp [intOf]; omega
    · have e : n1 = k := by omega
      subst e
      rw [List.take_of_length_le (by omega)] at hown
      go_wp2
      go_ret
      exact ⟨⟨a', c', rfl, hown, fun g e => by rw [← ob_slice _ n0 c'] at e; exact hown.lt g e⟩, hb⟩
end Go.Proofs.Ytefbaemcdfmhpaa
