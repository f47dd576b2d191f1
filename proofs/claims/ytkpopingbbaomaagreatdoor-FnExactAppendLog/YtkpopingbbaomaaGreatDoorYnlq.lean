/-
  The program's copies of lists and disks.
-/
import Derived.Test.YtkpopingbbaomaaGreatDoorYnfq
import Derived.Laws.AppendOwn
import Derived.Laws.AppendOwnNone
import Derived.Maps.AppendAt
namespace Go.Proofs.YtkpopingbbaomaaGreatDoor
open Go Go.RowKit
attribute [local go_sem ↓] Go.wp_at_zero Go.wp_at_succ

theorem srcP {w : World} {ad : Addr} {n : Nat} {vs : List PP} (hr : RdP w (some ad) n vs) : ∀ j u, (cellsP vs)[j]? = some u → w.cell? (ad.add j) = some u := by
  intro j u hu
  have hj : j < n * 2 := by rw [← hr.1, ← cellsP_len]; exact (List.getElem?_eq_some_iff.1 hu).1
  obtain ⟨b, off, e, _, hc⟩ := hr.2 (by omega)
  cases e
  obtain ⟨g0, g1⟩ := cellsP_get vs (j / 2) (by rw [hr.1]; omega)
  obtain ⟨c0, c1⟩ := hc (j / 2) (by omega)
  rw [addr_add]
  have hm : j % 2 = 0 ∨ j % 2 = 1 := by omega
  rcases hm with h | h
  · have e : j = j / 2 * 2 := by omega
    rw [e, g0] at hu
    rw [e, c0, hu]
  · have e : j = j / 2 * 2 + 1 := by omega
    rw [e, g1] at hu
    rw [e, show off + (j / 2 * 2 + 1) = off + j / 2 * 2 + 1 by omega, c1, hu]
theorem cellsP_one (vs : List PP) : ∀ u ∈ cellsP vs, u.oneCell' = true := by
  intro u hu
  obtain ⟨p, _, hp⟩ := List.mem_flatMap.1 hu
  simp [cP] at hp
  rcases hp with rfl | rfl <;> rfl
theorem srcQ {w : World} {ad : Addr} {n : Nat} {vs : List DR} (hr : RdQ w (some ad) n vs) : ∀ j u, (cellsQ vs)[j]? = some u → w.cell? (ad.add j) = some u := by
  intro j u hu
  have hj : j < n * 10 := by rw [← hr.1, ← cellsQ_len]; exact (List.getElem?_eq_some_iff.1 hu).1
  obtain ⟨b, off, e, _, hc⟩ := hr.2 (by omega)
  cases e
  have hg := cellsQ_get vs (j / 10) (by rw [hr.1]; omega) (j % 10) (by omega)
  have hcc := hc (j / 10) (by omega) (j % 10) (by omega)
  rw [show j / 10 * 10 + j % 10 = j by omega] at hg
  rw [addr_add, show off + j = off + j / 10 * 10 + j % 10 by omega, hcc, ← hg, hu]
theorem cellsQ_one (vs : List DR) : ∀ u ∈ cellsQ vs, u.oneCell' = true := by
  intro u hu
  obtain ⟨p, _, hp⟩ := List.mem_flatMap.1 hu
  simp [cQ] at hp
  rcases hp with rfl | rfl | rfl | rfl | rfl | rfl | rfl | rfl | rfl | rfl <;> rfl
theorem srcF {w : World} {ad : Addr} {n : Nat} {vs : List FF} (hr : RdF w (some ad) n vs) : ∀ j u, (cellsF vs)[j]? = some u → w.cell? (ad.add j) = some u := by
  intro j u hu
  have hj : j < n * 5 := by rw [← hr.1, ← cellsF_len]; exact (List.getElem?_eq_some_iff.1 hu).1
  obtain ⟨b, off, e, _, hc⟩ := hr.2.1 (by omega)
  cases e
  have hg := cellsF_get vs (j / 5) (by rw [hr.1]; omega) (j % 5) (by omega)
  obtain ⟨c0, c1, c2, c3, c4⟩ := hc (j / 5) (by omega)
  rw [show j / 5 * 5 + j % 5 = j by omega, hu] at hg
  rw [addr_add, hg]
  have hm : j % 5 = 0 ∨ j % 5 = 1 ∨ j % 5 = 2 ∨ j % 5 = 3 ∨ j % 5 = 4 := by omega
  rcases hm with h | h | h | h | h
  · rw [h, show off + j = off + j / 5 * 5 by omega]; exact c0
  · rw [h, show off + j = off + j / 5 * 5 + 1 by omega]; exact c1
  · rw [h, show off + j = off + j / 5 * 5 + 2 by omega]; exact c2
  · rw [h, show off + j = off + j / 5 * 5 + 3 by omega]; exact c3
  · rw [h, show off + j = off + j / 5 * 5 + 4 by omega]; exact c4
theorem cellsF_one (vs : List FF) : ∀ u ∈ cellsF vs, u.oneCell' = true := by
  intro u hu
  obtain ⟨p, _, hp⟩ := List.mem_flatMap.1 hu
  simp [cF] at hp
  rcases hp with rfl | rfl | rfl | rfl | rfl <;> rfl
def HOK (h : HD) : Prop := (h.a0 = none → h.c0 = 0) ∧ (h.a1 = none → h.c1 = 0) ∧ (h.a2 = none → h.c2 = 0)
theorem OwnD.src {w : World} {B E : Nat} {h : HD} {D : DD} (o : OwnD w B E h D) : HOK h := ⟨own_src o.2.1, own_src o.2.2.1, own_src o.2.2.2.1⟩
set_option maxRecDepth 100000 in
set_option maxHeartbeats 8000000 in
theorem c_cpS (a : Option Addr) (n cap : Nat) (ss : List ByteArray) (w : World) (hr : RdV w a n (ss.map Value.string)) (hs : a = none → cap = 0) (hn : n ≤ 1048576) :
    Calls Tryz.prog 234 #[.slice a n cap] w fun e w' => (∃ a' c', e = .returned (.slice a' n c') ∧ w'.ownsRow w.heap.size 9 1 (.slice a' n c') n (ss.map Value.string) ∧ ∀ g, ob a' = some g → w.heap.size ≤ g ∧ g < w'.heap.size) ∧ Below w.heap.size w w' := by
  obtain ⟨i0, hi, hz0, hz1, hz2⟩ := info_parts infoS
  have hl : (ss.map Value.string).length = n * 1 := by simpa using hr.1
  cases a with
  | none =>
    have h0 : n = 0 := by
      rcases Nat.eq_zero_or_pos n with h | h
      · exact h
      · obtain ⟨b, off, e, _⟩ := hr.2 h; cases e
    have hc0 := hs rfl
    subst h0 hc0
    have he : ss.map Value.string = [] := List.eq_nil_of_length_eq_zero (by simpa using hl)
    rw [he]
    clear hr hs
    go_enter Tryz.func234, Tryz.ntmps234
    go_wp2_with (at_builtin; refine wpList_append_own_none rfl (.const (.slice none 0 0)) (.tmp 3) 22 rfl w.heap.size 9 i0 1 Tryz.underlying22 hi (.slice none 0 0) 0 [] rfl (World.ownsRow_nil w _ _ _) rfl ?_)
    go_ret
    exact ⟨⟨none, 0, rfl, World.ownsRow_nil w _ _ _, fun g e => by cases e⟩, Below.refl _ _⟩
  | some ad =>
    have hsrc : Hid (∀ j u, (ss.map Value.string)[j]? = some u → w.cell? (ad.add j) = some u) := src1 hr
    have hone : Hid (∀ u ∈ ss.map Value.string, u.oneCell' = true) := by intro u hu; obtain ⟨x, _, rfl⟩ := List.mem_map.1 hu; rfl
    clear hr hs
    go_enter Tryz.func234, Tryz.ntmps234
    go_wp2_with (at_builtin; refine wpList_append_own_at _ rfl (.const (.slice none 0 0)) (.tmp 3) 22 rfl w.heap.size 9 i0 (.string ⟨#[]⟩) 1 16 Tryz.underlying22 hi hz0 hz1 hz2 rfl (by omega) (.slice none 0 0) 0 [] rfl (World.ownsRow_nil w _ _ _) ad n cap (ss.map Value.string) rfl hl hsrc.out hone.out (by unfold maxLen; omega) (by omega) (Nat.le_refl _) ?_; intro v' w' hown hgr hnil hblk)
    rw [Nat.zero_add, List.nil_append] at hown
    obtain ⟨a', c', rfl, hrng⟩ := own_slc hown
    go_ret
    exact ⟨⟨a', c', rfl, hown, hrng⟩, (Below.refl _ _).grown hgr (Nat.le_refl _) (fun k h => by cases h)⟩
set_option maxRecDepth 100000 in
set_option maxHeartbeats 8000000 in
theorem c_cpI (a : Option Addr) (n cap : Nat) (ss : List Int) (w : World) (hr : RdV w a n (ss.map (Value.int .i64))) (hs : a = none → cap = 0) (hn : n ≤ 1048576) :
    Calls Tryz.prog 167 #[.slice a n cap] w fun e w' => (∃ a' c', e = .returned (.slice a' n c') ∧ w'.ownsRow w.heap.size 3 1 (.slice a' n c') n (ss.map (Value.int .i64)) ∧ ∀ g, ob a' = some g → w.heap.size ≤ g ∧ g < w'.heap.size) ∧ Below w.heap.size w w' := by
  obtain ⟨i0, hi, hz0, hz1, hz2⟩ := info_parts infoI
  have hl : (ss.map (Value.int .i64)).length = n * 1 := by simpa using hr.1
  cases a with
  | none =>
    have h0 : n = 0 := by
      rcases Nat.eq_zero_or_pos n with h | h
      · exact h
      · obtain ⟨b, off, e, _⟩ := hr.2 h; cases e
    have hc0 := hs rfl
    subst h0 hc0
    have he : ss.map (Value.int .i64) = [] := List.eq_nil_of_length_eq_zero (by simpa using hl)
    rw [he]
    clear hr hs
    go_enter Tryz.func167, Tryz.ntmps167
    go_wp2_with (at_builtin; refine wpList_append_own_none rfl (.const (.slice none 0 0)) (.tmp 3) 24 rfl w.heap.size 3 i0 1 Tryz.underlying24 hi (.slice none 0 0) 0 [] rfl (World.ownsRow_nil w _ _ _) rfl ?_)
    go_ret
    exact ⟨⟨none, 0, rfl, World.ownsRow_nil w _ _ _, fun g e => by cases e⟩, Below.refl _ _⟩
  | some ad =>
    have hsrc : Hid (∀ j u, (ss.map (Value.int .i64))[j]? = some u → w.cell? (ad.add j) = some u) := src1 hr
    have hone : Hid (∀ u ∈ ss.map (Value.int .i64), u.oneCell' = true) := by intro u hu; obtain ⟨x, _, rfl⟩ := List.mem_map.1 hu; rfl
    clear hr hs
    go_enter Tryz.func167, Tryz.ntmps167
    go_wp2_with (at_builtin; refine wpList_append_own_at _ rfl (.const (.slice none 0 0)) (.tmp 3) 24 rfl w.heap.size 3 i0 (.int .i64 0) 1 8 Tryz.underlying24 hi hz0 hz1 hz2 rfl (by omega) (.slice none 0 0) 0 [] rfl (World.ownsRow_nil w _ _ _) ad n cap (ss.map (Value.int .i64)) rfl hl hsrc.out hone.out (by unfold maxLen; omega) (by omega) (Nat.le_refl _) ?_; intro v' w' hown hgr hnil hblk)
    rw [Nat.zero_add, List.nil_append] at hown
    obtain ⟨a', c', rfl, hrng⟩ := own_slc hown
    go_ret
    exact ⟨⟨a', c', rfl, hown, hrng⟩, (Below.refl _ _).grown hgr (Nat.le_refl _) (fun k h => by cases h)⟩
set_option maxRecDepth 100000 in
set_option maxHeartbeats 8000000 in
theorem c_cpP (a : Option Addr) (n cap : Nat) (ss : List PP) (w : World) (hr : RdP w a n ss) (hs : a = none → cap = 0) (hn : n ≤ 1048576) :
    Calls Tryz.prog 238 #[.slice a n cap] w fun e w' => (∃ a' c', e = .returned (.slice a' n c') ∧ w'.ownsRow w.heap.size 197 2 (.slice a' n c') n (cellsP ss) ∧ ∀ g, ob a' = some g → w.heap.size ≤ g ∧ g < w'.heap.size) ∧ Below w.heap.size w w' := by
  obtain ⟨i0, hi, hz0, hz1, hz2⟩ := info_parts info42
  have hl : (cellsP ss).length = n * 2 := by rw [cellsP_len, hr.1]
  cases a with
  | none =>
    have h0 : n = 0 := by
      rcases Nat.eq_zero_or_pos n with h | h
      · exact h
      · obtain ⟨b, off, e, _⟩ := hr.2 h; cases e
    have hc0 := hs rfl
    subst h0 hc0
    have he : cellsP ss = [] := List.eq_nil_of_length_eq_zero (by simpa using hl)
    rw [he]
    clear hr hs
    go_enter Tryz.func238, Tryz.ntmps238
    go_wp2_with (at_builtin; refine wpList_append_own_none rfl (.const (.slice none 0 0)) (.tmp 3) 40 rfl w.heap.size 197 i0 2 Tryz.underlying40 hi (.slice none 0 0) 0 [] rfl (World.ownsRow_nil w _ _ _) rfl ?_)
    go_ret
    exact ⟨⟨none, 0, rfl, World.ownsRow_nil w _ _ _, fun g e => by cases e⟩, Below.refl _ _⟩
  | some ad =>
    have hsrc : Hid (∀ j u, (cellsP ss)[j]? = some u → w.cell? (ad.add j) = some u) := srcP hr
    have hone : Hid (∀ u ∈ cellsP ss, u.oneCell' = true) := cellsP_one ss
    clear hr hs
    go_enter Tryz.func238, Tryz.ntmps238
    go_wp2_with (at_builtin; refine wpList_append_own_at _ rfl (.const (.slice none 0 0)) (.tmp 3) 40 rfl w.heap.size 197 i0 (.agg #[.int .i64 0, .string ⟨#[]⟩]) 2 24 Tryz.underlying40 hi hz0 hz1 hz2 rfl (by omega) (.slice none 0 0) 0 [] rfl (World.ownsRow_nil w _ _ _) ad n cap (cellsP ss) rfl hl hsrc.out hone.out (by unfold maxLen; omega) (by omega) (Nat.le_refl _) ?_; intro v' w' hown hgr hnil hblk)
    rw [Nat.zero_add, List.nil_append] at hown
    obtain ⟨a', c', rfl, hrng⟩ := own_slc hown
    go_ret
    exact ⟨⟨a', c', rfl, hown, hrng⟩, (Below.refl _ _).grown hgr (Nat.le_refl _) (fun k h => by cases h)⟩
set_option maxRecDepth 100000 in
set_option maxHeartbeats 8000000 in
theorem c_cpQ (a : Option Addr) (n cap : Nat) (ss : List DR) (w : World) (hr : RdQ w a n ss) (hs : a = none → cap = 0) (hn : n ≤ 1048576) :
    Calls Tryz.prog 183 #[.slice a n cap] w fun e w' => (∃ a' c', e = .returned (.slice a' n c') ∧ w'.ownsRow w.heap.size 78 10 (.slice a' n c') n (cellsQ ss) ∧ ∀ g, ob a' = some g → w.heap.size ≤ g ∧ g < w'.heap.size) ∧ Below w.heap.size w w' := by
  obtain ⟨i0, hi, hz0, hz1, hz2⟩ := info_parts infoQ
  have hl : (cellsQ ss).length = n * 10 := by rw [cellsQ_len, hr.1]
  cases a with
  | none =>
    have h0 : n = 0 := by
      rcases Nat.eq_zero_or_pos n with h | h
      · exact h
      · obtain ⟨b, off, e, _⟩ := hr.2 h; cases e
    have hc0 := hs rfl
    subst h0 hc0
    have he : cellsQ ss = [] := List.eq_nil_of_length_eq_zero (by simpa using hl)
    rw [he]
    clear hr hs
    go_enter Tryz.func183, Tryz.ntmps183
    go_wp2_with (at_builtin; refine wpList_append_own_none rfl (.const (.slice none 0 0)) (.tmp 3) 43 rfl w.heap.size 78 i0 10 Tryz.underlying43 hi (.slice none 0 0) 0 [] rfl (World.ownsRow_nil w _ _ _) rfl ?_)
    go_ret
    exact ⟨⟨none, 0, rfl, World.ownsRow_nil w _ _ _, fun g e => by cases e⟩, Below.refl _ _⟩
  | some ad =>
    have hsrc : Hid (∀ j u, (cellsQ ss)[j]? = some u → w.cell? (ad.add j) = some u) := srcQ hr
    have hone : Hid (∀ u ∈ cellsQ ss, u.oneCell' = true) := cellsQ_one ss
    clear hr hs
    go_enter Tryz.func183, Tryz.ntmps183
    go_wp2_with (at_builtin; refine wpList_append_own_at _ rfl (.const (.slice none 0 0)) (.tmp 3) 43 rfl w.heap.size 78 i0 (.agg #[.int .i64 0, .int .i64 0, .int .i64 0, .int .i64 0, .int .i64 0, .int .i64 0, .int .i64 0, .int .i64 0, .string ⟨#[]⟩, .string ⟨#[]⟩]) 10 96 Tryz.underlying43 hi hz0 hz1 hz2 rfl (by omega) (.slice none 0 0) 0 [] rfl (World.ownsRow_nil w _ _ _) ad n cap (cellsQ ss) rfl hl hsrc.out hone.out (by unfold maxLen; omega) (by omega) (Nat.le_refl _) ?_; intro v' w' hown hgr hnil hblk)
    rw [Nat.zero_add, List.nil_append] at hown
    obtain ⟨a', c', rfl, hrng⟩ := own_slc hown
    go_ret
    exact ⟨⟨a', c', rfl, hown, hrng⟩, (Below.refl _ _).grown hgr (Nat.le_refl _) (fun k h => by cases h)⟩
set_option maxRecDepth 100000 in
set_option maxHeartbeats 8000000 in
theorem c_cpF (a : Option Addr) (n cap : Nat) (ss : List FF) (w : World) (hr : RdF w a n ss) (hs : a = none → cap = 0) (hn : n ≤ 1048576) :
    Calls Tryz.prog 184 #[.slice a n cap] w fun e w' => (∃ a' c', e = .returned (.slice a' n c') ∧ w'.ownsRow w.heap.size 142 5 (.slice a' n c') n (cellsF ss) ∧ ∀ g, ob a' = some g → w.heap.size ≤ g ∧ g < w'.heap.size) ∧ Below w.heap.size w w' := by
  obtain ⟨i0, hi, hz0, hz1, hz2⟩ := info_parts infoF
  have hl : (cellsF ss).length = n * 5 := by rw [cellsF_len, hr.1]
  cases a with
  | none =>
    have h0 : n = 0 := by
      rcases Nat.eq_zero_or_pos n with h | h
      · exact h
      · obtain ⟨b, off, e, _⟩ := hr.2.1 h; cases e
    have hc0 := hs rfl
    subst h0 hc0
    have he : cellsF ss = [] := List.eq_nil_of_length_eq_zero (by simpa using hl)
    rw [he]
    clear hr hs
    go_enter Tryz.func184, Tryz.ntmps184
    go_wp2_with (at_builtin; refine wpList_append_own_none rfl (.const (.slice none 0 0)) (.tmp 3) 44 rfl w.heap.size 142 i0 5 Tryz.underlying44 hi (.slice none 0 0) 0 [] rfl (World.ownsRow_nil w _ _ _) rfl ?_)
    go_ret
    exact ⟨⟨none, 0, rfl, World.ownsRow_nil w _ _ _, fun g e => by cases e⟩, Below.refl _ _⟩
  | some ad =>
    have hsrc : Hid (∀ j u, (cellsF ss)[j]? = some u → w.cell? (ad.add j) = some u) := srcF hr
    have hone : Hid (∀ u ∈ cellsF ss, u.oneCell' = true) := cellsF_one ss
    clear hr hs
    go_enter Tryz.func184, Tryz.ntmps184
    go_wp2_with (at_builtin; refine wpList_append_own_at _ rfl (.const (.slice none 0 0)) (.tmp 3) 44 rfl w.heap.size 142 i0 (.agg #[.int .i64 0, .int .i64 0, .slice none 0 0, .bool false, .int .i64 0]) 5 56 Tryz.underlying44 hi hz0 hz1 hz2 rfl (by omega) (.slice none 0 0) 0 [] rfl (World.ownsRow_nil w _ _ _) ad n cap (cellsF ss) rfl hl hsrc.out hone.out (by unfold maxLen; omega) (by omega) (Nat.le_refl _) ?_; intro v' w' hown hgr hnil hblk)
    rw [Nat.zero_add, List.nil_append] at hown
    obtain ⟨a', c', rfl, hrng⟩ := own_slc hown
    go_ret
    exact ⟨⟨a', c', rfl, hown, hrng⟩, (Below.refl _ _).grown hgr (Nat.le_refl _) (fun k h => by cases h)⟩
theorem own_dn {w : World} {base e size n : Nat} {v : Value} {xs : List Value} (h : w.ownsRow base e size v n xs) : w.drew.ownsRow base e size v n xs := h
set_option maxRecDepth 100000 in
set_option maxHeartbeats 8000000 in
theorem c_copyDisk (h : HD) (D : DD) (w : World) (r : RdD w h D) (hk : HOK h) (hf : Fit D) :
    Calls Tryz.prog 166 #[.agg #[.slice h.a0 h.n0 h.c0, .slice h.a1 h.n1 h.c1, .bool h.b, .slice h.a2 h.n2 h.c2]] w fun e w' => (∃ h' : HD, e = .returned (.agg #[.slice h'.a0 h'.n0 h'.c0, .slice h'.a1 h'.n1 h'.c1, .bool h'.b, .slice h'.a2 h'.n2 h'.c2]) ∧ OwnD w' w.heap.size w'.heap.size h' D) ∧ Below w.heap.size w w' := by
  have k0 := r.l0
  have k1 := r.l1
  have k2 := r.l2
  obtain ⟨f0, f1, f2, _, _⟩ := hf
  obtain ⟨rb, r0, r1, r2⟩ := r
  obtain ⟨a0, n0, c0, a1, n1, c1, b, a2, n2, c2⟩ := h
  obtain ⟨q0, q1, q2⟩ := hk
  simp only at *
  subst k0 k1 k2 rb
  have HB : Hid (Below w.heap.size w ((w.alloc (.cells #[.slice a0 D.S.length c0, .slice a1 D.C.length c1, .bool D.A, .slice a2 D.K.length c2] 42)).alloc (.cells #[.slice none 0 0, .slice none 0 0, .bool false, .slice none 0 0] 42))) := ((Below.refl _ _).alloc (Nat.le_refl _) _).alloc (by simp) _
  have BX : Hid (Box ((w.alloc (.cells #[.slice a0 D.S.length c0, .slice a1 D.C.length c1, .bool D.A, .slice a2 D.K.length c2] 42)).alloc (.cells #[.slice none 0 0, .slice none 0 0, .bool false, .slice none 0 0] 42)) w.heap.size 42 #[.slice a0 D.S.length c0, .slice a1 D.C.length c1, .bool D.A, .slice a2 D.K.length c2]) := (Box.new _ _ _).alloc _
  have BR : Hid (Box ((w.alloc (.cells #[.slice a0 D.S.length c0, .slice a1 D.C.length c1, .bool D.A, .slice a2 D.K.length c2] 42)).alloc (.cells #[.slice none 0 0, .slice none 0 0, .bool false, .slice none 0 0] 42)) (w.heap.size + 1) 42 #[.slice none 0 0, .slice none 0 0, .bool false, .slice none 0 0]) := Box.new2 _ _ _ _
  have C0 : Hid (∀ W, Below w.heap.size w W → Calls Tryz.prog 234 #[.slice a0 D.S.length c0] W fun e w' => (∃ a' c', e = .returned (.slice a' D.S.length c') ∧ w'.ownsRow W.heap.size 9 1 (.slice a' D.S.length c') D.S.length (D.S.map Value.string) ∧ ∀ g, ob a' = some g → W.heap.size ≤ g ∧ g < w'.heap.size) ∧ Below W.heap.size W w') := fun W hW => c_cpS a0 _ c0 D.S W (r0.below hW) q0 f0
  have C1 : Hid (∀ W, Below w.heap.size w W → Calls Tryz.prog 238 #[.slice a1 D.C.length c1] W fun e w' => (∃ a' c', e = .returned (.slice a' D.C.length c') ∧ w'.ownsRow W.heap.size 197 2 (.slice a' D.C.length c') D.C.length (cellsP D.C) ∧ ∀ g, ob a' = some g → W.heap.size ≤ g ∧ g < w'.heap.size) ∧ Below W.heap.size W w') := fun W hW => c_cpP a1 _ c1 D.C W (r1.below hW) q1 f1
  have C2 : Hid (∀ W, Below w.heap.size w W → Calls Tryz.prog 167 #[.slice a2 D.K.length c2] W fun e w' => (∃ a' c', e = .returned (.slice a' D.K.length c') ∧ w'.ownsRow W.heap.size 3 1 (.slice a' D.K.length c') D.K.length (D.K.map (Value.int .i64)) ∧ ∀ g, ob a' = some g → W.heap.size ≤ g ∧ g < w'.heap.size) ∧ Below W.heap.size W w') := fun W hW => c_cpI a2 _ c2 D.K W (r2.below hW) q2 f2
  clear r0 r1 r2 q0 q1 q2
  obtain ⟨V, hV⟩ : ∃ V, ((w.alloc (.cells #[.slice a0 D.S.length c0, .slice a1 D.C.length c1, .bool D.A, .slice a2 D.K.length c2] 42)).alloc (.cells #[.slice none 0 0, .slice none 0 0, .bool false, .slice none 0 0] 42)) = V := ⟨_, rfl⟩
  rw [hV] at HB BX BR
  obtain ⟨v0, v1, v2, v3⟩ := box4 BX.out
  go_enter Tryz.func166, Tryz.ntmps166
  go_wp2_with fail
  go_region_with (first
    | (go_at_call 234
       refine (C0.out _ ?_).mono ?_
       · first | exact below_drewN HB.out _ | exact HB.out.drew | exact HB.out
       rintro e w1 ⟨⟨b0, e0, rfl, o0, g0⟩, hb1⟩
       have u0 := far6 hb1 v0
       have u1 := far6 hb1 v1
       have u3 := far6 hb1 v3)
    | (go_at_call 238
       refine (C1.out _ ?_).mono ?_
       · exact HB.out.drew.trans (hb1.mono HB.out.size)
       rintro e w2 ⟨⟨b1, e1, rfl, o1, g1⟩, hb2⟩
       have t0 := far6 hb2 u0
       have t1 := far6 hb2 u1
       have t3 := far6 hb2 u3)
    | (go_at_call 167
       refine (C2.out _ ?_).mono ?_
       · exact (HB.out.drew.trans (hb1.mono HB.out.size)).trans (hb2.mono (Nat.le_trans HB.out.size hb1.size))
       rintro e w3 ⟨⟨b2, e2, rfl, o2, g2⟩, hb3⟩
       have x3 := ((BX.out.drewN 1).belowS hb1 |>.belowS hb2).belowS hb3
       obtain ⟨s0, s1, s2, s3⟩ := box4 x3
       have z0 := x3.thaw 0
       have z1 := x3.thaw 1
       have z3 := x3.thaw 3))
  all_goals
    have y3 := ((BR.out.drewN 1).belowS hb1 |>.belowS hb2).belowS hb3
    have L1 : V.heap.size ≤ w1.heap.size := hb1.size
    have L2 : w1.heap.size ≤ w2.heap.size := hb2.size
    have L3 : w2.heap.size ≤ w3.heap.size := hb3.size
    have L0 : w.heap.size + 1 < V.heap.size := BR.out.lt
    have HB3 : Below w.heap.size w w3 := ((HB.out.drew.trans (hb1.mono HB.out.size)).trans (hb2.mono (Nat.le_trans HB.out.size hb1.size))).trans (hb3.mono (by omega))
    have g0' : ∀ g, ob b0 = some g → V.heap.size ≤ g ∧ g < w1.heap.size := g0
    have p0 : w3.ownsRow w.heap.size 9 1 (.slice b0 D.S.length e0) D.S.length (D.S.map Value.string) := (own_below (own_below o0 hb2) hb3).down (by show w.heap.size ≤ V.heap.size; omega)
    have p1 : w3.ownsRow w.heap.size 197 2 (.slice b1 D.C.length e1) D.C.length (cellsP D.C) := (own_below o1 hb3).down (by omega)
    have p2 : w3.ownsRow w.heap.size 3 1 (.slice b2 D.K.length e2) D.K.length (D.K.map (Value.int .i64)) := o2.down (by omega)
    obtain ⟨V3, hV3⟩ : ∃ V3, ((w3.setCell ⟨w.heap.size, 0, none⟩ (.slice b0 D.S.length e0)).setCell ⟨w.heap.size, 1, none⟩ (.slice b1 D.C.length e1)).setCell ⟨w.heap.size, 3, none⟩ (.slice b2 D.K.length e2) = V3 := ⟨_, rfl⟩
    have x4 := ((x3.set 0 (.slice b0 D.S.length e0)).set 1 (.slice b1 D.C.length e1)).set 3 (.slice b2 D.K.length e2)
    have y4 := ((y3.setOther ⟨w.heap.size, 0, none⟩ (.slice b0 D.S.length e0) (show w.heap.size + 1 ≠ w.heap.size by omega)).setOther ⟨w.heap.size, 1, none⟩ (.slice b1 D.C.length e1) (show w.heap.size + 1 ≠ w.heap.size by omega)).setOther ⟨w.heap.size, 3, none⟩ (.slice b2 D.K.length e2) (show w.heap.size + 1 ≠ w.heap.size by omega)
    have S4 : V3.heap.size = w3.heap.size := by rw [← hV3]; simp
    have K4 : ∀ g, g ≠ w.heap.size → V3.heap[g]? = w3.heap[g]? := fun g hg => by rw [← hV3, Below.heap_setCell _ _ _ _ hg, Below.heap_setCell _ _ _ _ hg, Below.heap_setCell _ _ _ _ hg]
    have B4 : Below w.heap.size w V3 := by rw [← hV3]; exact ((HB3.setCell (Nat.le_refl _) _).setCell (Nat.le_refl _) _).setCell (Nat.le_refl _) _
    rw [hV3] at x4 y4
    simp at x4
    have P0 : Hid (V3.ownsRow w.heap.size 9 1 (.slice b0 D.S.length e0) D.S.length (D.S.map Value.string)) := own_same p0 fun g e => K4 g (by rw [ob_slice] at e; have := g0' g e; omega)
    have P1 : Hid (V3.ownsRow w.heap.size 197 2 (.slice b1 D.C.length e1) D.C.length (cellsP D.C)) := own_same p1 fun g e => K4 g (by rw [ob_slice] at e; have := g1 g e; omega)
    have P2 : Hid (V3.ownsRow w.heap.size 3 1 (.slice b2 D.K.length e2) D.K.length (D.K.map (Value.int .i64))) := own_same p2 fun g e => K4 g (by rw [ob_slice] at e; have := g2 g e; omega)
    have G0 : Hid (∀ g, ob b0 = some g → w.heap.size + 1 < g ∧ g < w1.heap.size) := fun g e => by have := g0' g e; omega
    have G1 : Hid (∀ g, ob b1 = some g → w1.heap.size ≤ g ∧ g < w2.heap.size) := g1
    have G2 : Hid (∀ g, ob b2 = some g → w2.heap.size ≤ g ∧ g < w3.heap.size) := g2
    have HB4 : Hid (Below w.heap.size w V3) := B4
    have HS4 : Hid (V3.heap.size = w3.heap.size) := S4
    clear u0 u1 u3 t0 t1 t3 s0 s1 s2 s3 z0 z1 z3 v0 v1 v2 v3 hb1 hb2 hb3 o0 o1 o2 g0 g1 g2 g0' p0 p1 p2 x3 y3 HB3 K4 B4 S4
    obtain ⟨v0, v1, v2, v3⟩ := box4 x4
    obtain ⟨y0, yy1, y2, y3⟩ := box4 y4
    have z0 := y4.thaw 0
    have z1 := y4.thaw 1
    have z2 := y4.thaw 2
    have z3 := y4.thaw 3
    have Y4 : Hid (Box V3 (w.heap.size + 1) 42 #[.slice none 0 0, .slice none 0 0, .bool false, .slice none 0 0]) := y4
    clear x4 y4
    go_wp2
    refine ret_box1 Tryz.results166 rfl rfl (put4_box Y4.out _ _ _ _) ⟨⟨⟨b0, D.S.length, e0, b1, D.C.length, e1, D.A, b2, D.K.length, e2⟩, rfl, rfl, own_same P0.out fun g e => put4_same _ _ _ _ _ _ _ (by rw [ob_slice] at e; have := G0.out g e; omega), own_same P1.out fun g e => put4_same _ _ _ _ _ _ _ (by rw [ob_slice] at e; have := G1.out g e; omega), own_same P2.out fun g e => put4_same _ _ _ _ _ _ _ (by rw [ob_slice] at e; have := G2.out g e; omega), Nat.le_refl _, fun g e => ?_, fun g e => ?_, fun g e => ?_⟩, put4_below HB4.out (by omega) _ _ _ _⟩
    · have h0 := G0.out g e
      have := HS4.out
      refine ⟨by omega, by simp; omega, fun e' => ?_, fun e' => ?_⟩
      · have := G1.out g e'; omega
      · have := G2.out g e'; omega
    · have h0 := G1.out g e
      have := HS4.out
      refine ⟨by omega, by simp; omega, fun e' => ?_⟩
      have := G2.out g e'; omega
    · have h0 := G2.out g e
      have := HS4.out
      exact ⟨by omega, by simp; omega⟩

end Go.Proofs.YtkpopingbbaomaaGreatDoor
