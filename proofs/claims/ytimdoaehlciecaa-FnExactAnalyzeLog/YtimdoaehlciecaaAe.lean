/-
  What the analysis of the program tells: the walk.
-/
import Derived.Test.YtimdoaehlciecaaAd
namespace Go.Proofs.Ytimdoaehlciecaa
open Go Go.RowKit
attribute [local go_sem ↓] Go.wp_at_zero Go.wp_at_succ

theorem own_keep {w w' : World} {b e size n m c : Nat} {a : Option Addr} {xs : List Value} {row : Option Nat} (h : w.ownsRow b e size (.slice a m c) n xs) (hg : w.grownBy w' row) (hne : ∀ g, ob a = some g → row ≠ some g) : w'.ownsRow b e size (.slice a m c) n xs := by
  refine ⟨h.1, ?_⟩
  rcases h.2 with h0 | ⟨g, cap, cur, hv, hb, hh, r⟩
  · exact .inl h0
  · refine .inr ⟨g, cap, cur, hv, hb, ?_, r⟩
    have hlt : g < w.heap.size := by
      rcases Nat.lt_or_ge g w.heap.size with h1 | h1
      · exact h1
      · rw [Array.getElem?_eq_none h1] at hh; cases hh
    rw [hg.block g hlt (fun e => by
      simp only [Value.slice.injEq] at hv
      obtain ⟨rfl, _, _⟩ := hv
      exact hne g rfl e.symm)]
    exact hh
theorem own_ne2 {w : World} {b e size n m c b' e' size' n' m' c' : Nat} {a a' : Option Addr} {xs xs' : List Value} (h : w.ownsRow b e size (.slice a m c) n xs) (h' : w.ownsRow b' e' size' (.slice a' m' c') n' xs') (hne : e ≠ e') : ∀ g, ob a = some g → ob a' ≠ some g := by
  intro g h1 h2
  rcases h.2 with ⟨hv, _⟩ | ⟨g1, cap, cur, hv, _, hh, _⟩
  · simp only [Value.slice.injEq] at hv
    rw [hv.1] at h1; cases h1
  rcases h'.2 with ⟨hv', _⟩ | ⟨g2, cap', cur', hv', _, hh', _⟩
  · simp only [Value.slice.injEq] at hv'
    rw [hv'.1] at h2; cases h2
  simp only [Value.slice.injEq] at hv hv'
  rw [hv.1] at h1
  rw [hv'.1] at h2
  obtain rfl : g1 = g := Option.some.inj h1
  obtain rfl : g2 = g1 := Option.some.inj h2
  rw [hh] at hh'
  simp only [Option.some.injEq, Obj.cells.injEq] at hh'
  exact hne hh'.2.1
theorem infoDk : (Try.prog.info? 54).map (fun i => (i.zero, i.size, i.bytes)) = some (some (.agg #[.int .i64 0, .int .i64 0]), 2, 16) := by kernel_rfl
theorem infoTk : (Try.prog.info? 57).map (fun i => (i.zero, i.size, i.bytes)) = some (some (.agg #[.int .i64 0, .int .i64 0]), 2, 16) := by kernel_rfl
/-- What is told: two lists of the call's own. -/
def AnsTo (w : World) (g : Nat → Int) (e : Ending) (w' : World) : Prop :=
  ∃ ad cd at' ct, e = .returned (.tuple #[.slice ad (drS g).length cd, .slice at' (txS g).length ct]) ∧ w'.ownsRow w.heap.size 54 2 (.slice ad (drS g).length cd) (drS g).length (cellsD (toD (drS g))) ∧ w'.ownsRow w.heap.size 57 2 (.slice at' (txS g).length ct) (txS g).length (cellsT (toT (txS g)))
set_option maxRecDepth 100000 in
set_option maxHeartbeats 8000000 in
theorem c_told (B : Nat) (g : Nat → Int) (w : World) (hA : AnB w B g) :
    Calls Try.prog 41 #[.pointer (some ⟨B, 0, none⟩)] w fun e w' => AnsTo w g e w' ∧ Below w.heap.size w w' := by
  have HA : Hid (AnB w B g) := hA
  clear hA
  obtain ⟨i0, hi0, hz0, hz1, hz2⟩ := info_parts infoDk
  have r8 := arr_cells HA.out (o := 0) (n := 8) (by omega)
  go_enter Try.func41, Try.ntmps41
  go_wp2_with (refine wpList_load_some rfl 67 (.tmp 10) rfl ⟨B, 0, none⟩ rfl (arrG 0 8 g) _ r8 Try.underlying67 rfl (by kernel_rfl) ?_)
  clear r8
  go_loopw [2, 12] (fun s i wr => ∃ (k : Nat) (av : Option Addr) (cv : Nat), k ≤ 8 ∧ i = .int .i64 (k : Int) ∧ s = .slice av (seg g 0 k).length cv ∧ Hid (wr.ownsRow w.heap.size 54 2 (.slice av (seg g 0 k).length cv) (seg g 0 k).length (cellsD (toD (seg g 0 k)))) ∧ Hid (Below w.heap.size w wr)) (fun _ i _ => 8 - (intOf i).toNat)
  case atStart => exact ⟨0, none, 0, by omega, rfl, rfl, World.ownsRow_nil _ _ _ _, Below.refl _ _⟩
  case round =>
    obtain ⟨k, ad, cd, hk, rfl, rfl, HO, BR⟩ := hrel
    by_cases hlt : k < 8
    · have hidx := idx8 g k hlt
      have hsn : seg g 0 (k + 1) = seg g 0 k ++ (if 0 < g k then [((k : Int), g k)] else []) := by have := seg_snoc g 0 k; rwa [Nat.zero_add] at this
      have hle : (seg g 0 k).length ≤ k := seg_len k 0
      by_cases hp : 0 < g k
      case neg =>
        rw [if_neg hp, List.append_nil] at hsn
        have HS : Hid (seg g 0 (k + 1) = seg g 0 k) := hsn
        clear hsn
        go_wp2
        go_roundw
        case rel => exact ⟨k + 1, ad, cd, by omega, by go_num, by rw [HS.out], by unfold Hid; rw [HS.out]; exact HO.out, BR⟩
        case measure => simp [intOf]; omega
      rw [if_pos hp] at hsn
      have HS : Hid (seg g 0 (k + 1) = seg g 0 k ++ [((k : Int), g k)]) := hsn
      have c1 : decide (0 < g k) = true := decide_eq_true hp
      clear hsn
      obtain ⟨w4, hw4⟩ : ∃ W, wr.alloc (.cells #[.int .i64 (k : Int), .int .i64 (g k)] 54) = W := ⟨_, rfl⟩
      have hb4 : Below wr.heap.size wr w4 := by rw [← hw4]; exact (Below.refl _ _).alloc (Nat.le_refl _) _
      have K4 : Hid (Box w4 wr.heap.size 54 #[.int .i64 (k : Int), .int .i64 (g k)]) := by unfold Hid; rw [← hw4]; exact Box.new _ _ _
      have HO4 : Hid (w4.ownsRow w.heap.size 54 2 (.slice ad (seg g 0 k).length cd) (seg g 0 k).length (cellsD (toD (seg g 0 k)))) := own_below HO.out hb4
      have B4 : Hid (Below w.heap.size w w4) := BR.out.trans (hb4.mono BR.out.size)
      clear hb4 HO BR
      go_wp2_with (at_builtin; refine app_any _ rfl (.tmp 18) (.tmp 22) 30 rfl w.heap.size 54 i0 (.agg #[.int .i64 0, .int .i64 0]) 2 16 Try.underlying30 hi0 hz0 hz1 hz2 rfl (by omega) (.slice ad (seg g 0 k).length cd) (seg g 0 k).length (cellsD (toD (seg g 0 k))) rfl HO4.out (some ⟨wr.heap.size, 0, none⟩) 1 1 (cD ⟨(k : Int), g k⟩) rfl (fun h => by cases h) rfl (box_newsD K4.out) (cD_one _) (by unfold maxLen; omega) (by omega) B4.out.size ?_; intro a5 c5 w5 hown5 hgr5 hat5)
      have hown5' : w5.ownsRow w.heap.size 54 2 (.slice a5 ((seg g 0 k).length + 1) c5) ((seg g 0 k).length + 1) (cellsD (toD (seg g 0 k ++ [((k : Int), g k)]))) := by
        have e : cellsD (toD (seg g 0 k ++ [((k : Int), g k)])) = cellsD (toD (seg g 0 k)) ++ cD ⟨(k : Int), g k⟩ := by unfold toD; rw [List.map_append, cellsD_append]; rfl
        rw [e]; exact hown5
      have H5 : Hid (w5.ownsRow w.heap.size 54 2 (.slice a5 (seg g 0 (k + 1)).length c5) (seg g 0 (k + 1)).length (cellsD (toD (seg g 0 (k + 1))))) := by unfold Hid; rw [HS.out, List.length_append, List.length_singleton]; exact hown5'
      rw [ob_slice] at hgr5 hat5
      have B5 : Hid (Below w.heap.size w w5) := B4.out.grown hgr5 B4.out.size (fun j hj => (HO4.out.lt j (by rw [ob_slice]; exact hj)).1)
      clear hown5 hown5' hgr5 hat5 HO4 B4 K4 hw4
      go_wp2
      go_roundw
      case rel => exact ⟨k + 1, a5, c5, by omega, by go_num, by rw [HS.out, List.length_append]; rfl, H5, B5⟩
      case measure => simp [intOf]; omega
    · have e : k = 8 := by omega
      subst e
      have HD : Hid (wr.ownsRow w.heap.size 54 2 (.slice ad (drS g).length cd) (drS g).length (cellsD (toD (drS g)))) := HO
      clear HO hlt hk hi0 hz0 hz1 hz2
      obtain ⟨j0, hj0, jz0, jz1, jz2⟩ := info_parts infoTk
      have AW : Hid (AnB wr B g) := Box.belowS HA.out BR.out
      have r61 := arr_cells AW.out (o := 8) (n := 61) (by omega)
      go_wp2_with (refine wpList_load_some rfl 47 (.tmp 27) rfl ⟨B, 8, none⟩ rfl (arrG 8 61 g) _ r61 Try.underlying47 rfl (by kernel_rfl) ?_)
      clear r61 AW
      have BD : Hid (Below w.heap.size w wr) := BR
      clear BR
      rename World => wo
      go_loopw [3, 29] (fun s i wr => ∃ (k : Nat) (av : Option Addr) (cv : Nat), k ≤ 61 ∧ i = .int .i64 (k : Int) ∧ s = .slice av (seg (shT g) 0 k).length cv ∧ Hid (wr.ownsRow w.heap.size 57 2 (.slice av (seg (shT g) 0 k).length cv) (seg (shT g) 0 k).length (cellsT (toT (seg (shT g) 0 k)))) ∧ Hid (Below w.heap.size w wr) ∧ Hid (wr.ownsRow w.heap.size 54 2 (.slice ad (drS g).length cd) (drS g).length (cellsD (toD (drS g))))) (fun _ i _ => 61 - (intOf i).toNat)
      case atStart => exact ⟨0, none, 0, by omega, rfl, rfl, World.ownsRow_nil _ _ _ _, BD, HD⟩
      case round =>
        obtain ⟨k, av, cv, hk, rfl, rfl, HO, BR, HD⟩ := hrel
        by_cases hlt : k < 61
        · have hidx := idx61 g k hlt
          have hsn : seg (shT g) 0 (k + 1) = seg (shT g) 0 k ++ (if 0 < g (8 + k) then [((k : Int), g (8 + k))] else []) := by have := seg_snoc (shT g) 0 k; rwa [Nat.zero_add] at this
          have hle : (seg (shT g) 0 k).length ≤ k := seg_len k 0
          by_cases hp : 0 < g (8 + k)
          case neg =>
            rw [if_neg hp, List.append_nil] at hsn
            have HS : Hid (seg (shT g) 0 (k + 1) = seg (shT g) 0 k) := hsn
            clear hsn
            go_wp2
            go_roundw
            case rel => exact ⟨k + 1, av, cv, by omega, by go_num, by rw [HS.out], by unfold Hid; rw [HS.out]; exact HO.out, BR, HD⟩
            case measure => simp [intOf]; omega
          rw [if_pos hp] at hsn
          have HS : Hid (seg (shT g) 0 (k + 1) = seg (shT g) 0 k ++ [((k : Int), g (8 + k))]) := hsn
          have c1 : decide (0 < g (8 + k)) = true := decide_eq_true hp
          clear hsn
          obtain ⟨w4, hw4⟩ : ∃ W, wr.alloc (.cells #[.int .i64 (k : Int), .int .i64 (g (8 + k))] 57) = W := ⟨_, rfl⟩
          have hb4 : Below wr.heap.size wr w4 := by rw [← hw4]; exact (Below.refl _ _).alloc (Nat.le_refl _) _
          have K4 : Hid (Box w4 wr.heap.size 57 #[.int .i64 (k : Int), .int .i64 (g (8 + k))]) := by unfold Hid; rw [← hw4]; exact Box.new _ _ _
          have HO4 : Hid (w4.ownsRow w.heap.size 57 2 (.slice av (seg (shT g) 0 k).length cv) (seg (shT g) 0 k).length (cellsT (toT (seg (shT g) 0 k)))) := own_below HO.out hb4
          have B4 : Hid (Below w.heap.size w w4) := BR.out.trans (hb4.mono BR.out.size)
          have HD4 : Hid (w4.ownsRow w.heap.size 54 2 (.slice ad (drS g).length cd) (drS g).length (cellsD (toD (drS g)))) := own_below HD.out hb4
          clear hb4 HO BR HD
          go_wp2_with (at_builtin; refine app_any _ rfl (.tmp 35) (.tmp 39) 31 rfl w.heap.size 57 j0 (.agg #[.int .i64 0, .int .i64 0]) 2 16 Try.underlying31 hj0 jz0 jz1 jz2 rfl (by omega) (.slice av (seg (shT g) 0 k).length cv) (seg (shT g) 0 k).length (cellsT (toT (seg (shT g) 0 k))) rfl HO4.out (some ⟨wr.heap.size, 0, none⟩) 1 1 (cT ⟨(k : Int), g (8 + k)⟩) rfl (fun h => by cases h) rfl (box_newsT K4.out) (cT_one _) (by unfold maxLen; omega) (by omega) B4.out.size ?_; intro a5 c5 w5 hown5 hgr5 hat5)
          have hown5' : w5.ownsRow w.heap.size 57 2 (.slice a5 ((seg (shT g) 0 k).length + 1) c5) ((seg (shT g) 0 k).length + 1) (cellsT (toT (seg (shT g) 0 k ++ [((k : Int), g (8 + k))]))) := by
            have e : cellsT (toT (seg (shT g) 0 k ++ [((k : Int), g (8 + k))])) = cellsT (toT (seg (shT g) 0 k)) ++ cT ⟨(k : Int), g (8 + k)⟩ := by unfold toT; rw [List.map_append, cellsT_append]; rfl
            rw [e]; exact hown5
          have H5 : Hid (w5.ownsRow w.heap.size 57 2 (.slice a5 (seg (shT g) 0 (k + 1)).length c5) (seg (shT g) 0 (k + 1)).length (cellsT (toT (seg (shT g) 0 (k + 1))))) := by unfold Hid; rw [HS.out, List.length_append, List.length_singleton]; exact hown5'
          rw [ob_slice] at hgr5 hat5
          have B5 : Hid (Below w.heap.size w w5) := B4.out.grown hgr5 B4.out.size (fun j hj => (HO4.out.lt j (by rw [ob_slice]; exact hj)).1)
          have HD5 : Hid (w5.ownsRow w.heap.size 54 2 (.slice ad (drS g).length cd) (drS g).length (cellsD (toD (drS g)))) := own_keep HD4.out hgr5 (own_ne2 HD4.out HO4.out (by decide))
          clear hown5 hown5' hgr5 hat5 HO4 B4 K4 hw4 HD4
          go_wp2
          go_roundw
          case rel => exact ⟨k + 1, a5, c5, by omega, by go_num, by rw [HS.out, List.length_append]; rfl, H5, B5, HD5⟩
          case measure => simp [intOf]; omega
        · have e : k = 61 := by omega
          subst e
          go_wp2
          go_ret2
          exact ⟨⟨_, _, _, _, rfl, HD.out, HO.out⟩, BR.out⟩

end Go.Proofs.Ytimdoaehlciecaa
