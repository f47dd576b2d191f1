/-
  Pages that are changed: the walks of PageSet.
-/
import Derived.Test.YtggnfkdeakkpaaaDoorPu
namespace Go.Proofs.YtggnfkdeakkpaaaDoor
open Go Go.RowKit
attribute [local go_sem ↓] Go.wp_at_zero Go.wp_at_succ


theorem own_zero (w : World) (B E : Nat) (h : E ≤ w.heap.size) : OwnG w B E ⟨0, none, 0, 0⟩ ⟨0, []⟩ := ⟨rfl, World.ownsRow_nil _ _ _ _, h, fun g e => by cases e⟩
set_option maxHeartbeats 1000000 in
theorem c_cpS (a : Option Addr) (n cap : Nat) (ss : List ByteArray) (w : World) (hr : RdV w a n (ss.map Value.string)) (hs : a = none → cap = 0) (hn : n ≤ 1048576) :
    Calls Tryd.prog 32 #[.slice a n cap] w fun e w' => (∃ a' c', e = .returned (.slice a' n c') ∧ w'.ownsRow w.heap.size 9 1 (.slice a' n c') n (ss.map Value.string) ∧ ∀ g, ob a' = some g → w.heap.size ≤ g ∧ g < w'.heap.size) ∧ Below w.heap.size w w' := by
  obtain ⟨i0, hi, hz0, hz1, hz2⟩ := info_parts infoS
  have hl : (ss.map Value.string).length = n * 1 := by simpa using hr.1
  cases a with
  | none =>
    have h0 : n = 0 := by
      rcases Nat.eq_zero_or_pos n with h | h
      · exact h
      · obtain ⟨b, off, e, _⟩ := hr.2 h; cases e
    have hc0 := hs rfl
    subst h0 hc0
    have he : ss.map Value.string = [] := List.eq_nil_of_length_eq_zero (by simpa using hl)
    rw [he]
    clear hr hs
    go_enter Tryd.func32, Tryd.ntmps32
    go_wp2_with (at_builtin; refine wpList_append_own_none rfl (.const (.slice none 0 0)) (.tmp 3) 23 rfl w.heap.size 9 i0 1 Tryd.underlying23 hi (.slice none 0 0) 0 [] rfl (World.ownsRow_nil w _ _ _) rfl ?_)
    go_ret
    exact ⟨⟨none, 0, rfl, World.ownsRow_nil w _ _ _, fun g e => by cases e⟩, Below.refl _ _⟩
  | some ad =>
    have hsrc : Hid (∀ j u, (ss.map Value.string)[j]? = some u → w.cell? (ad.add j) = some u) := src1 hr
    have hone : Hid (∀ u ∈ ss.map Value.string, u.oneCell' = true) := by intro u hu; obtain ⟨x, _, rfl⟩ := List.mem_map.1 hu; rfl
    clear hr hs
    go_enter Tryd.func32, Tryd.ntmps32
    go_wp2_with (at_builtin; refine wpList_append_own_at _ rfl (.const (.slice none 0 0)) (.tmp 3) 23 rfl w.heap.size 9 i0 (.string ⟨#[]⟩) 1 16 Tryd.underlying23 hi hz0 hz1 hz2 rfl (by omega) (.slice none 0 0) 0 [] rfl (World.ownsRow_nil w _ _ _) ad n cap (ss.map Value.string) rfl hl hsrc.out hone.out (by unfold maxLen; omega) (by omega) (Nat.le_refl _) ?_; intro v' w' hown hgr hnil hblk)
    rw [Nat.zero_add, List.nil_append] at hown
    obtain ⟨a', c', rfl, hrng⟩ := own_slc hown
    go_ret
    exact ⟨⟨a', c', rfl, hown, hrng⟩, (Below.refl _ _).grown hgr (Nat.le_refl _) (fun k h => by cases h)⟩


set_option maxRecDepth 100000 in
set_option maxHeartbeats 4000000 in
theorem c_own (h : HG) (D : DG) (w : World) (r : RdG w h D) (hk : SrcG h) (hf : FitG D) :
    Calls Tryd.prog 37 #[.agg #[.int .i64 h.l, .slice h.a h.n h.c]] w fun e w' => (∃ h' : HG, e = .returned (.agg #[.int .i64 h'.l, .slice h'.a h'.n h'.c]) ∧ OwnG w' w.heap.size w'.heap.size h' D) ∧ Below w.heap.size w w' := by
  have k0 := r.len
  obtain ⟨f0, _⟩ := hf
  obtain ⟨rl, r0⟩ := r
  obtain ⟨l, a, n, c⟩ := h
  unfold SrcG at hk
  simp only at *
  subst k0 rl
  obtain ⟨i9, g9, g90, g91, g92⟩ := info_parts infoS
  have hi9 : Hid (Tryd.prog.info? 9 = some i9) := g9
  have hz90 : Hid (i9.zero = some (.string ⟨#[]⟩)) := g90
  have hz91 : Hid (i9.size = 1) := g91
  have hz92 : Hid (i9.bytes = 16) := g92
  clear g9 g90 g91 g92
  have R0 : Hid (RdV w a D.S.length (D.S.map Value.string)) := r0
  have N0 : Hid (a = none → D.S.length = 0 ∧ c = 0) := rdV_none r0 hk
  clear r0 hk
  obtain ⟨V, hV⟩ : ∃ V, (w.alloc (.cells #[.int .i64 D.L, .slice a D.S.length c] 25)).alloc (.cells #[.int .i64 0, .slice none 0 0] 25) = V := ⟨_, rfl⟩
  have HB : Hid (Below w.heap.size w V) := by unfold Hid; rw [← hV]; exact ((Below.refl _ _).alloc (Nat.le_refl _) _).alloc (by simp) _
  have BX : Hid (Box V w.heap.size 25 #[.int .i64 D.L, .slice a D.S.length c]) := by unfold Hid; rw [← hV]; exact (Box.new _ _ _).alloc _
  have BR : Hid (Box V (w.heap.size + 1) 25 #[.int .i64 0, .slice none 0 0]) := by unfold Hid; rw [← hV]; exact Box.new2 _ _ _ _
  have SZ : Hid (V.heap.size = w.heap.size + 1 + 1) := by unfold Hid; rw [← hV]; simp
  obtain ⟨v0, v1⟩ := box2 BX.out
  obtain ⟨u0, u1⟩ := box2 BR.out
  have t0 := BR.out.thaw 0
  have t1 := BR.out.thaw 1
  have l0 := BX.out.lt
  have l1 := BR.out.lt
  go_enter Tryd.func37, Tryd.ntmps37
  go_wp2_with (
    at_builtin; refine app_any _ rfl (.tmp 3) (.tmp 5) 23 rfl w.heap.size 9 i9 (.string ⟨#[]⟩) 1 16 Tryd.underlying23 hi9.out hz90.out hz91.out hz92.out rfl (by omega) (.slice (some ⟨V.heap.size, 0, none⟩) 0 0) 0 [] rfl (World.ownsRow_lit V #[] 0 HB.out.size (Nat.zero_le _) rfl) a D.S.length c (D.S.map Value.string) rfl N0.out (by simp) (fun ad e => src1 (e ▸ (R0.out.below (HB.out.alloc HB.out.size _)))) (map_one _ (fun _ => rfl) _) (by unfold maxLen; omega) (by omega) (by have := HB.out.size; simp; omega) ?_
    intro a' c' w3 ho hg0 hk0
    have hsz := SZ.out
    have hg : (V.alloc (.cells #[] 9)).grownBy w3 (some V.heap.size) := hg0
    have hk : ∀ g, ob a' = some g → some V.heap.size = some g ∨ g = (V.alloc (.cells #[] 9)).heap.size := hk0
    clear hg0 hk0
    rw [Nat.zero_add] at ho
    rw [List.nil_append] at ho
    have hsz3 : V.heap.size < w3.heap.size := by have := hg.size; simp at this; omega
    have hge : ∀ g, ob a' = some g → V.heap.size ≤ g := fun g e => by rcases hk g e with h | h; exact Nat.le_of_eq (Option.some.inj h); rw [h]; simp
    have hlt : ∀ g, ob a' = some g → g < w3.heap.size := fun g e => (ho.lt g (by rw [ob_slice]; exact e)).2
    have bx3 : Box w3 w.heap.size 25 _ := (BX.out.alloc _).grown hg (by simp; omega)
    have br3 : Box w3 (w.heap.size + 1) 25 _ := (BR.out.alloc _).grown hg (by simp; omega)
    have hb3 : Below w.heap.size w w3 := (HB.out.alloc HB.out.size (.cells #[] 9)).grown hg (by simp; omega) (fun k h => by cases h; omega)
    obtain ⟨V1, hV1⟩ : ∃ V1, w3.setCell ⟨w.heap.size, 1, none⟩ (.slice a' D.S.length c') = V1 := ⟨_, rfl⟩
    have HB1 : Hid (Below w.heap.size w V1) := by unfold Hid; rw [← hV1]; exact hb3.setCell (Nat.le_refl _) _
    have BX1 : Hid (Box V1 w.heap.size 25 #[.int .i64 D.L, .slice a' D.S.length c']) := by unfold Hid; rw [← hV1]; have := bx3.set 1 (.slice a' D.S.length c'); simpa using this
    have BR1 : Hid (Box V1 (w.heap.size + 1) 25 #[.int .i64 0, .slice none 0 0]) := by unfold Hid; rw [← hV1]; exact br3.setOther _ _ (by simp)
    have O1 : Hid (OwnG V1 V.heap.size V1.heap.size ⟨D.L, a', D.S.length, c'⟩ D) := by
      refine ⟨rfl, ?_, Nat.le_refl _, fun g e => ⟨hge g e, by have := hlt g e; rw [← hV1]; simpa using this⟩⟩
      have o' : V1.ownsRow w.heap.size 9 1 (.slice a' D.S.length c') D.S.length (D.S.map Value.string) := own_same ho fun g e => by
        rw [ob_slice] at e; have := hge g e; rw [← hV1]; exact Below.heap_setCell _ _ _ _ (by simp; omega)
      rcases o' with ⟨h1, h2⟩
      refine ⟨h1, ?_⟩
      rcases h2 with h0 | ⟨g, cap, cur, hv, hb, hr⟩
      · exact .inl h0
      · exact .inr ⟨g, cap, cur, hv, hge g (by cases hv; rfl), hr⟩
    clear v0 v1 u0 u1 t0 t1
    obtain ⟨v0, v1⟩ := box2 bx3
    have t2 := bx3.thaw 1
    obtain ⟨x0, x1⟩ := box2 BX1.out
    obtain ⟨u0, u1⟩ := box2 BR1.out
    have t0 := BR1.out.thaw 0
    have t1 := BR1.out.thaw 1
    have hle : w.heap.size + 1 < V.heap.size := by omega
    have HLE : Hid (w.heap.size + 1 < V.heap.size) := hle
    clear ho hg hk hge hlt bx3 br3 hb3 HB BX BR hV hsz SZ)
  refine retG1 Tryd.results37 rfl rfl (put2_box BR1.out _ _) ⟨⟨⟨D.L, a', D.S.length, c'⟩, rfl, ?_⟩, put2_below HB1.out (by omega) _ _⟩
  have := O1.out.put2 (r := w.heap.size + 1) (.inl (by omega)) (.int .i64 D.L) (.slice a' D.S.length c')
  exact this.wide (B' := w.heap.size) (by omega)

end Go.Proofs.YtggnfkdeakkpaaaDoor
