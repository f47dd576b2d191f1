/-
  Copies of lists by append.
-/
import Derived.Test.YtefbaemcdfmhpaaOd
import Derived.Test.YtefbaemcdfmhpaaOi
import Derived.Laws.AppendOwn
import Derived.Laws.AppendOwnNone
import Derived.Maps.AppendAt
namespace Go.Proofs.Ytefbaemcdfmhpaa
open Go Go.RowKit
attribute [local go_sem ↓] Go.wp_at_zero Go.wp_at_succ

theorem src1 {w : World} {ad : Addr} {n : Nat} {xs : List Value} (hr : RdV w (some ad) n xs) : ∀ j u, xs[j]? = some u → w.cell? (ad.add j) = some u := by
  intro j u hu
  have hj : j < n := by rw [← hr.1]; exact (List.getElem?_eq_some_iff.1 hu).1
  obtain ⟨b, off, e, _, hc⟩ := hr.2 (by omega)
  cases e
  rw [addr_add, hc j hj, hu]
theorem srcP {w : World} {ad : Addr} {n : Nat} {vs : List PP} (hr : RdP w (some ad) n vs) : ∀ j u, (cellsP vs)[j]? = some u → w.cell? (ad.add j) = some u := by
  intro j u hu
  have hj : j < n * 2 := by rw [← hr.1, ← cellsP_len]; exact (List.getElem?_eq_some_iff.1 hu).1
  obtain ⟨b, off, e, _, hc⟩ := hr.2 (by omega)
  cases e
  obtain ⟨g0, g1⟩ := cellsP_get vs (j / 2) (by rw [hr.1]; omega)
  obtain ⟨c0, c1⟩ := hc (j / 2) (by omega)
  rw [addr_add]
  have hm : j % 2 = 0 ∨ j % 2 = 1 := by omega
  rcases hm with h | h
  · have e : j = j / 2 * 2 := by omega
    rw [e, g0] at hu
    rw [e, c0, hu]
  · have e : j = j / 2 * 2 + 1 := by omega
    rw [e, g1] at hu
    rw [e, show off + (j / 2 * 2 + 1) = off + j / 2 * 2 + 1 by omega, c1, hu]
theorem cellsP_one (vs : List PP) : ∀ u ∈ cellsP vs, u.oneCell' = true := by
  intro u hu
  obtain ⟨p, _, hp⟩ := List.mem_flatMap.1 hu
  simp [cP] at hp
  rcases hp with rfl | rfl <;> rfl
def HOK (h : HD) : Prop := (h.a0 = none → h.c0 = 0) ∧ (h.a1 = none → h.c1 = 0) ∧ (h.a2 = none → h.c2 = 0)
theorem own_src {w : World} {base e size n m cap : Nat} {a : Option Addr} {xs : List Value} (h : w.ownsRow base e size (.slice a m cap) n xs) : a = none → cap = 0 := by
  rcases own_form h with ⟨hv, _⟩ | ⟨g, c, hv, _, _⟩
  · cases hv; exact fun _ => rfl
  · cases hv; exact fun h => by cases h
theorem OwnD.src {w : World} {B E : Nat} {h : HD} {D : DD} (o : OwnD w B E h D) : HOK h := ⟨own_src o.2.1, own_src o.2.2.1, own_src o.2.2.2.1⟩
theorem own_slc {w : World} {base e size n : Nat} {v : Value} {xs : List Value} (h : w.ownsRow base e size v n xs) : ∃ a c, v = .slice a n c ∧ ∀ g, ob a = some g → base ≤ g ∧ g < w.heap.size := by
  rcases own_form h with ⟨rfl, rfl⟩ | ⟨g, cap, rfl, h1, h2⟩
  · exact ⟨none, 0, rfl, fun g e => by cases e⟩
  · exact ⟨some ⟨g, 0, none⟩, cap, rfl, fun g' e => by cases e; exact ⟨h1, h2⟩⟩

set_option maxHeartbeats 1000000 in
theorem c_cpS (a : Option Addr) (n cap : Nat) (ss : List ByteArray) (w : World) (hr : RdV w a n (ss.map Value.string)) (hs : a = none → cap = 0) (hn : n ≤ 1048576) :
    Calls Try.prog 76 #[.slice a n cap] w fun e w' => (∃ a' c', e = .returned (.slice a' n c') ∧ w'.ownsRow w.heap.size 9 1 (.slice a' n c') n (ss.map Value.string) ∧ ∀ g, ob a' = some g → w.heap.size ≤ g ∧ g < w'.heap.size) ∧ Below w.heap.size w w' := by
  obtain ⟨i0, hi, hz0, hz1, hz2⟩ := info_parts infoS
  have hl : (ss.map Value.string).length = n * 1 := by simpa using hr.1
  cases a with
  | none =>
    have h0 : n = 0 := by
      rcases Nat.eq_zero_or_pos n with h | h
      · exact h
      · obtain ⟨b, off, e, _⟩ := hr.2 h; cases e
    have hc0 := hs rfl
    subst h0 hc0
    have he : ss.map Value.string = [] := List.eq_nil_of_length_eq_zero (by simpa using hl)
    rw [he]
    clear hr hs
    go_enter Try.func76, Try.ntmps76
    go_wp2_with (at_builtin; refine wpList_append_own_none rfl (.const (.slice none 0 0)) (.tmp 3) 23 rfl w.heap.size 9 i0 1 Try.underlying23 hi (.slice none 0 0) 0 [] rfl (World.ownsRow_nil w _ _ _) rfl ?_)
    go_ret
    exact ⟨⟨none, 0, rfl, World.ownsRow_nil w _ _ _, fun g e => by cases e⟩, Below.refl _ _⟩
  | some ad =>
    have hsrc : Hid (∀ j u, (ss.map Value.string)[j]? = some u → w.cell? (ad.add j) = some u) := src1 hr
    have hone : Hid (∀ u ∈ ss.map Value.string, u.oneCell' = true) := by intro u hu; obtain ⟨x, _, rfl⟩ := List.mem_map.1 hu; rfl
    clear hr hs
    go_enter Try.func76, Try.ntmps76
    go_wp2_with (at_builtin; refine wpList_append_own_at _ rfl (.const (.slice none 0 0)) (.tmp 3) 23 rfl w.heap.size 9 i0 (.string ⟨#[]⟩) 1 16 Try.underlying23 hi hz0 hz1 hz2 rfl (by omega) (.slice none 0 0) 0 [] rfl (World.ownsRow_nil w _ _ _) ad n cap (ss.map Value.string) rfl hl hsrc.out hone.out (by unfold maxLen; omega) (by omega) (Nat.le_refl _) ?_; intro v' w' hown hgr hnil hblk)
    rw [Nat.zero_add, List.nil_append] at hown
    obtain ⟨a', c', rfl, hrng⟩ := own_slc hown
    go_ret
    exact ⟨⟨a', c', rfl, hown, hrng⟩, (Below.refl _ _).grown hgr (Nat.le_refl _) (fun k h => by cases h)⟩

set_option maxHeartbeats 1000000 in
theorem c_cpI (a : Option Addr) (n cap : Nat) (ss : List Int) (w : World) (hr : RdV w a n (ss.map (Value.int .i64))) (hs : a = none → cap = 0) (hn : n ≤ 1048576) :
    Calls Try.prog 57 #[.slice a n cap] w fun e w' => (∃ a' c', e = .returned (.slice a' n c') ∧ w'.ownsRow w.heap.size 3 1 (.slice a' n c') n (ss.map (Value.int .i64)) ∧ ∀ g, ob a' = some g → w.heap.size ≤ g ∧ g < w'.heap.size) ∧ Below w.heap.size w w' := by
  obtain ⟨i0, hi, hz0, hz1, hz2⟩ := info_parts infoI
  have hl : (ss.map (Value.int .i64)).length = n * 1 := by simpa using hr.1
  cases a with
  | none =>
    have h0 : n = 0 := by
      rcases Nat.eq_zero_or_pos n with h | h
      · exact h
      · obtain ⟨b, off, e, _⟩ := hr.2 h; cases e
    have hc0 := hs rfl
    subst h0 hc0
    have he : ss.map (Value.int .i64) = [] := List.eq_nil_of_length_eq_zero (by simpa using hl)
    rw [he]
    clear hr hs
    go_enter Try.func57, Try.ntmps57
    go_wp2_with (at_builtin; refine wpList_append_own_none rfl (.const (.slice none 0 0)) (.tmp 3) 25 rfl w.heap.size 3 i0 1 Try.underlying25 hi (.slice none 0 0) 0 [] rfl (World.ownsRow_nil w _ _ _) rfl ?_)
    go_ret
    exact ⟨⟨none, 0, rfl, World.ownsRow_nil w _ _ _, fun g e => by cases e⟩, Below.refl _ _⟩
  | some ad =>
    have hsrc : Hid (∀ j u, (ss.map (Value.int .i64))[j]? = some u → w.cell? (ad.add j) = some u) := src1 hr
    have hone : Hid (∀ u ∈ ss.map (Value.int .i64), u.oneCell' = true) := by intro u hu; obtain ⟨x, _, rfl⟩ := List.mem_map.1 hu; rfl
    clear hr hs
    go_enter Try.func57, Try.ntmps57
    go_wp2_with (at_builtin; refine wpList_append_own_at _ rfl (.const (.slice none 0 0)) (.tmp 3) 25 rfl w.heap.size 3 i0 (.int .i64 0) 1 8 Try.underlying25 hi hz0 hz1 hz2 rfl (by omega) (.slice none 0 0) 0 [] rfl (World.ownsRow_nil w _ _ _) ad n cap (ss.map (Value.int .i64)) rfl hl hsrc.out hone.out (by unfold maxLen; omega) (by omega) (Nat.le_refl _) ?_; intro v' w' hown hgr hnil hblk)
    rw [Nat.zero_add, List.nil_append] at hown
    obtain ⟨a', c', rfl, hrng⟩ := own_slc hown
    go_ret
    exact ⟨⟨a', c', rfl, hown, hrng⟩, (Below.refl _ _).grown hgr (Nat.le_refl _) (fun k h => by cases h)⟩

set_option maxHeartbeats 1000000 in
theorem c_cpP (a : Option Addr) (n cap : Nat) (ss : List PP) (w : World) (hr : RdP w a n ss) (hs : a = none → cap = 0) (hn : n ≤ 1048576) :
    Calls Try.prog 77 #[.slice a n cap] w fun e w' => (∃ a' c', e = .returned (.slice a' n c') ∧ w'.ownsRow w.heap.size 42 2 (.slice a' n c') n (cellsP ss) ∧ ∀ g, ob a' = some g → w.heap.size ≤ g ∧ g < w'.heap.size) ∧ Below w.heap.size w w' := by
  obtain ⟨i0, hi, hz0, hz1, hz2⟩ := info_parts info42
  have hl : (cellsP ss).length = n * 2 := by rw [cellsP_len, hr.1]
  cases a with
  | none =>
    have h0 : n = 0 := by
      rcases Nat.eq_zero_or_pos n with h | h
      · exact h
      · obtain ⟨b, off, e, _⟩ := hr.2 h; cases e
    have hc0 := hs rfl
    subst h0 hc0
    have he : cellsP ss = [] := List.eq_nil_of_length_eq_zero (by simpa using hl)
    rw [he]
    clear hr hs
    go_enter Try.func77, Try.ntmps77
    go_wp2_with (at_builtin; refine wpList_append_own_none rfl (.const (.slice none 0 0)) (.tmp 3) 24 rfl w.heap.size 42 i0 2 Try.underlying24 hi (.slice none 0 0) 0 [] rfl (World.ownsRow_nil w _ _ _) rfl ?_)
    go_ret
    exact ⟨⟨none, 0, rfl, World.ownsRow_nil w _ _ _, fun g e => by cases e⟩, Below.refl _ _⟩
  | some ad =>
    have hsrc : Hid (∀ j u, (cellsP ss)[j]? = some u → w.cell? (ad.add j) = some u) := srcP hr
    have hone : Hid (∀ u ∈ cellsP ss, u.oneCell' = true) := cellsP_one ss
    clear hr hs
    go_enter Try.func77, Try.ntmps77
    go_wp2_with (at_builtin; refine wpList_append_own_at _ rfl (.const (.slice none 0 0)) (.tmp 3) 24 rfl w.heap.size 42 i0 (.agg #[.int .i64 0, .string ⟨#[]⟩]) 2 24 Try.underlying24 hi hz0 hz1 hz2 rfl (by omega) (.slice none 0 0) 0 [] rfl (World.ownsRow_nil w _ _ _) ad n cap (cellsP ss) rfl hl hsrc.out hone.out (by unfold maxLen; omega) (by omega) (Nat.le_refl _) ?_; intro v' w' hown hgr hnil hblk)
    rw [Nat.zero_add, List.nil_append] at hown
    obtain ⟨a', c', rfl, hrng⟩ := own_slc hown
    go_ret
    exact ⟨⟨a', c', rfl, hown, hrng⟩, (Below.refl _ _).grown hgr (Nat.le_refl _) (fun k h => by cases h)⟩
end Go.Proofs.Ytefbaemcdfmhpaa
