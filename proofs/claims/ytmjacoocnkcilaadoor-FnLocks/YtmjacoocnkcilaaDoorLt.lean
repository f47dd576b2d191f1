/-
  Those of a list that are meant.
-/
import Derived.Test.YtmjacoocnkcilaaDoorLo
import Derived.Deep.RegionWith
namespace Go.Proofs.YtmjacoocnkcilaaDoor
open Go Go.RowKit
attribute [local go_sem ↓] Go.wp_at_zero Go.wp_at_succ

theorem cK_one (v : LK) : ∀ u ∈ cK v, u.oneCell' = true := by
  intro u hu
  simp only [cK, List.mem_cons, List.not_mem_nil, or_false] at hu
  rcases hu with rfl | rfl | rfl | rfl <;> rfl
theorem cellsK_one (vs : List LK) : ∀ u ∈ cellsK vs, u.oneCell' = true := by
  intro u hu
  obtain ⟨v, _, hv⟩ := List.mem_flatMap.1 hu
  exact cK_one v u hv
theorem box_newsK {w : World} {g : Nat} {t : TypeId} {vx vb vr vm : Int} (hb : Box w g t #[.int .i64 vx, .int .i64 vb, .int .i64 vr, .int .i64 vm]) : ∀ ad, (some ⟨g, 0, none⟩ : Option Addr) = some ad → ∀ j u, (cK (⟨vx, vb, vr, vm⟩ : LK))[j]? = some u → w.cell? (ad.add j) = some u := by
  intro ad e j u hu
  obtain rfl := Option.some.inj e
  rw [addr_add, Nat.zero_add, hb.cell]
  simpa [cK] using hu
theorem filt_stepK (p : LK → Bool) (vs : List LK) (k : Nat) (hk : k < vs.length) : (vs.take (k + 1)).filter p = (vs.take k).filter p ++ (if p (vs.getD k dK) then [vs.getD k dK] else []) := by
  rw [List.take_add_one, List.filter_append, List.getElem?_eq_getElem hk, List.getD_eq_getElem?_getD, List.getElem?_eq_getElem hk]
  simp [List.filter_cons]
theorem cW_one (v : WK) : ∀ u ∈ cW v, u.oneCell' = true := by
  intro u hu
  simp only [cW, List.mem_cons, List.not_mem_nil, or_false] at hu
  rcases hu with rfl | rfl <;> rfl
theorem cellsW_one (vs : List WK) : ∀ u ∈ cellsW vs, u.oneCell' = true := by
  intro u hu
  obtain ⟨v, _, hv⟩ := List.mem_flatMap.1 hu
  exact cW_one v u hv
theorem box_newsW {w : World} {g : Nat} {t : TypeId} {vx vf : Int} (hb : Box w g t #[.int .i64 vx, .int .i64 vf]) : ∀ ad, (some ⟨g, 0, none⟩ : Option Addr) = some ad → ∀ j u, (cW (⟨vx, vf⟩ : WK))[j]? = some u → w.cell? (ad.add j) = some u := by
  intro ad e j u hu
  obtain rfl := Option.some.inj e
  rw [addr_add, Nat.zero_add, hb.cell]
  simpa [cW] using hu
theorem filt_stepW (p : WK → Bool) (vs : List WK) (k : Nat) (hk : k < vs.length) : (vs.take (k + 1)).filter p = (vs.take k).filter p ++ (if p (vs.getD k dW) then [vs.getD k dW] else []) := by
  rw [List.take_add_one, List.filter_append, List.getElem?_eq_getElem hk, List.getD_eq_getElem?_getD, List.getElem?_eq_getElem hk]
  simp [List.filter_cons]
def pOwn (x : Int) (v : LK) : Bool := decide (v.x = x)
set_option maxRecDepth 100000 in
set_option maxHeartbeats 8000000 in
theorem c_pOwn (vx : Int) (vb : Int) (vr : Int) (vm : Int) (g : Nat) (x : Int) (w : World) (hg : Box w g 3 #[.int .i64 x]) :
    Calls Tryd.prog 58 #[.agg #[.int .i64 vx, .int .i64 vb, .int .i64 vr, .int .i64 vm], .pointer (some ⟨g, 0, none⟩)] w fun e w' => e = .returned (.bool ((pOwn x) ⟨vx, vb, vr, vm⟩)) ∧ Below w.heap.size w w' := by
  obtain ⟨V, hV⟩ : ∃ V, w.alloc (.cells #[.int .i64 vx, .int .i64 vb, .int .i64 vr, .int .i64 vm] 55) = V := ⟨_, rfl⟩
  have B : Hid (Below w.heap.size w V) := by unfold Hid; rw [← hV]; exact (Below.refl _ _).alloc (Nat.le_refl _) _
  have Xb : Box V w.heap.size 55 #[.int .i64 vx, .int .i64 vb, .int .i64 vr, .int .i64 vm] := by rw [← hV]; exact Box.new _ _ _
  have G := hg.belowS B.out
  have g0 := G.cell 0
  have q0 := Xb.cell 0
  have q1 := Xb.cell 1
  have q2 := Xb.cell 2
  have q3 := Xb.cell 3
  simp only [List.getElem?_toArray, List.getElem?_cons_zero, List.getElem?_cons_succ] at g0 q0 q1 q2 q3
  clear Xb G hg
  by_cases h1 : vx = x
  · have c1 : (vx == x) = true := by simpa using h1
    have E : Hid (pOwn x ⟨vx, vb, vr, vm⟩ = true) := decide_eq_true h1
    clear h1
    go_enter Tryd.func58, Tryd.ntmps58
    go_wp2
    go_ret
    exact ⟨ret_bool E.out.symm, B.out⟩
  · have c1 : (vx == x) = false := by simpa using h1
    have E : Hid (pOwn x ⟨vx, vb, vr, vm⟩ = false) := decide_eq_false h1
    clear h1
    go_enter Tryd.func58, Tryd.ntmps58
    go_wp2
    go_ret
    exact ⟨ret_bool E.out.symm, B.out⟩

set_option maxRecDepth 100000 in
set_option maxHeartbeats 8000000 in
theorem c_thoseOwn (a : Option Addr) (n cap : Nat) (vs : List LK) (g : Nat) (x : Int) (w : World) (hr : RdK w a n vs) (hn : n ≤ 1048576) (hg : Box w g 3 #[.int .i64 x]) :
    Calls Tryd.prog 57 #[.slice a n cap, .func (Fn.func 58) #[] #[.pointer (some ⟨g, 0, none⟩)]] w fun e w' => (∃ ha hc, e = .returned (.slice ha (vs.filter (pOwn x)).length hc) ∧ w'.ownsRow w.heap.size 55 4 (.slice ha (vs.filter (pOwn x)).length hc) (vs.filter (pOwn x)).length (cellsK (vs.filter (pOwn x))) ∧ ∀ b, ob ha = some b → w.heap.size ≤ b) ∧ Below w.heap.size w w' := by
  have HG : Hid (Box w g 3 #[.int .i64 x]) := hg
  obtain ⟨hl, hcs⟩ := hr
  obtain ⟨i0, hi, hz0, hz1, hz2⟩ := info_parts infoK
  clear hg
  go_enter Tryd.func57, Tryd.ntmps57
  go_wp2
  go_loopw [5, 10] (fun s i wr => ∃ (k : Nat) (av : Option Addr) (cv : Nat), k ≤ n ∧ i = .int .i64 (k : Int) ∧ s = .slice av ((vs.take k).filter (pOwn x)).length cv ∧ Hid (wr.ownsRow w.heap.size 55 4 (.slice av ((vs.take k).filter (pOwn x)).length cv) ((vs.take k).filter (pOwn x)).length (cellsK ((vs.take k).filter (pOwn x)))) ∧ Hid (Below w.heap.size w wr)) (fun _ i _ => n - (intOf i).toNat)
  case atStart => exact ⟨0, none, 0, by omega, rfl, rfl, World.ownsRow_nil w w.heap.size 55 4, Below.refl _ _⟩
  case round =>
    obtain ⟨k, av, cv, hk, rfl, rfl, HO, HB⟩ := hrel
    by_cases hlt : k < n
    · obtain ⟨ba, off, ha, hbl, hc⟩ := hcs (by omega)
      subst ha
      have hst := filt_stepK (pOwn x) vs k (by omega)
      have hfl : ((vs.take k).filter (pOwn x)).length ≤ k := Nat.le_trans (List.length_filter_le _ _) (by simp; omega)
      obtain ⟨⟨vx, vb, vr, vm⟩, hv⟩ : ∃ v, v = vs.getD k dK := ⟨_, rfl⟩
      obtain ⟨d0, d1, d2, d3⟩ := hc k hlt
      rw [← hv] at d0 d1 d2 d3 hst
      have e0 : wr.cell? ⟨ba, off + k * 4, none⟩ = some (.int .i64 vx) := by rw [HB.out.cell (p := ⟨ba, off + k * 4, none⟩) hbl, d0]
      have e1 : wr.cell? ⟨ba, off + k * 4 + 1, none⟩ = some (.int .i64 vb) := by rw [HB.out.cell (p := ⟨ba, off + k * 4 + 1, none⟩) hbl, d1]
      have e2 : wr.cell? ⟨ba, off + k * 4 + 2, none⟩ = some (.int .i64 vr) := by rw [HB.out.cell (p := ⟨ba, off + k * 4 + 2, none⟩) hbl, d2]
      have e3 : wr.cell? ⟨ba, off + k * 4 + 3, none⟩ = some (.int .i64 vm) := by rw [HB.out.cell (p := ⟨ba, off + k * 4 + 3, none⟩) hbl, d3]
      obtain ⟨p, hp⟩ : ∃ p, (pOwn x) ⟨vx, vb, vr, vm⟩ = p := ⟨_, rfl⟩
      rw [hp] at hst
      have HST : Hid ((vs.take (k + 1)).filter (pOwn x) = (vs.take k).filter (pOwn x) ++ (if p then [⟨vx, vb, vr, vm⟩] else [])) := hst
      have C : Hid (∀ W : World, Box W g 3 #[.int .i64 x] → Calls Tryd.prog 58 #[.agg #[.int .i64 vx, .int .i64 vb, .int .i64 vr, .int .i64 vm], .pointer (some ⟨g, 0, none⟩)] W fun e w' => e = .returned (.bool p) ∧ Below W.heap.size W w') := fun W hW => by rw [← hp]; exact c_pOwn vx vb vr vm g x W hW
      clear hc hcs d0 d1 d2 d3 hv hst hp
      obtain ⟨w2, hw2⟩ : ∃ W, wr.alloc (.cells #[.int .i64 vx, .int .i64 vb, .int .i64 vr, .int .i64 vm] 55) = W := ⟨_, rfl⟩
      have hb2 : Below wr.heap.size wr w2 := by rw [← hw2]; exact (Below.refl _ _).alloc (Nat.le_refl _) _
      have K2 : Hid (Box w2 wr.heap.size 55 #[.int .i64 vx, .int .i64 vb, .int .i64 vr, .int .i64 vm]) := by unfold Hid; rw [← hw2]; exact Box.new _ _ _
      have HO2 : Hid (w2.ownsRow w.heap.size 55 4 (.slice av ((vs.take k).filter (pOwn x)).length cv) ((vs.take k).filter (pOwn x)).length (cellsK ((vs.take k).filter (pOwn x)))) := own_below HO.out hb2
      have B2 : Hid (Below w.heap.size w w2) := HB.out.trans (hb2.mono HB.out.size)
      have q0 := K2.out.cell 0
      have q1 := K2.out.cell 1
      have q2 := K2.out.cell 2
      have q3 := K2.out.cell 3
      simp only [List.getElem?_toArray, List.getElem?_cons_zero, List.getElem?_cons_succ] at q0 q1 q2 q3
      clear hb2 HO HB
      go_wp2_with fail
      refine (C.out w2 (HG.out.belowS B2.out)).mono ?_
      rintro e w3 ⟨rfl, hb3⟩
      have K3 := K2.out.belowS hb3
      have HO3 : Hid (w3.ownsRow w.heap.size 55 4 (.slice av ((vs.take k).filter (pOwn x)).length cv) ((vs.take k).filter (pOwn x)).length (cellsK ((vs.take k).filter (pOwn x)))) := own_below HO2.out hb3
      have B3 : Hid (Below w.heap.size w w3) := B2.out.trans (hb3.mono B2.out.size)
      clear hb3 K2 HO2 B2 q0 q1 q2 q3 C hw2
      cases p
      · have HF : Hid ((vs.take (k + 1)).filter (pOwn x) = (vs.take k).filter (pOwn x)) := by unfold Hid; rw [HST.out]; simp
        clear K3 HST
        go_wp2
        go_roundw
        case rel => exact ⟨k + 1, av, cv, by omega, by go_num, by rw [HF.out], by unfold Hid; rw [HF.out]; exact HO3.out, B3⟩
        case measure => simp [intOf]; omega
      · have HF : Hid ((vs.take (k + 1)).filter (pOwn x) = (vs.take k).filter (pOwn x) ++ [⟨vx, vb, vr, vm⟩]) := by unfold Hid; rw [HST.out]; simp
        obtain ⟨w4, hw4⟩ : ∃ W, w3.alloc (.cells #[.int .i64 vx, .int .i64 vb, .int .i64 vr, .int .i64 vm] 55) = W := ⟨_, rfl⟩
        have hb4 : Below w3.heap.size w3 w4 := by rw [← hw4]; exact (Below.refl _ _).alloc (Nat.le_refl _) _
        have K4 : Hid (Box w4 w3.heap.size 55 #[.int .i64 vx, .int .i64 vb, .int .i64 vr, .int .i64 vm]) := by unfold Hid; rw [← hw4]; exact Box.new _ _ _
        have HO4 : Hid (w4.ownsRow w.heap.size 55 4 (.slice av ((vs.take k).filter (pOwn x)).length cv) ((vs.take k).filter (pOwn x)).length (cellsK ((vs.take k).filter (pOwn x)))) := own_below HO3.out hb4
        have B4 : Hid (Below w.heap.size w w4) := B3.out.trans (hb4.mono B3.out.size)
        have q0 := K3.cell 0
        have q1 := K3.cell 1
        have q2 := K3.cell 2
        have q3 := K3.cell 3
        simp only [List.getElem?_toArray, List.getElem?_cons_zero, List.getElem?_cons_succ] at q0 q1 q2 q3
        clear hb4 K3 HO3 B3 HST
        go_wp2_with (at_builtin; refine app_any _ rfl (.tmp 17) (.tmp 19) 31 rfl w.heap.size 55 i0 (.agg #[.int .i64 0, .int .i64 0, .int .i64 0, .int .i64 0]) 4 32 Tryd.underlying31 hi hz0 hz1 hz2 rfl (by omega) (.slice av ((vs.take k).filter (pOwn x)).length cv) ((vs.take k).filter (pOwn x)).length (cellsK ((vs.take k).filter (pOwn x))) rfl HO4.out (some ⟨w3.heap.size, 0, none⟩) 1 1 (cK ⟨vx, vb, vr, vm⟩) rfl (fun h => by cases h) rfl (box_newsK K4.out) (cK_one _) (by unfold maxLen; omega) (by omega) B4.out.size ?_; intro a5 c5 w5 hown5 hgr5 hat5)
        have hown5' : w5.ownsRow w.heap.size 55 4 (.slice a5 (((vs.take k).filter (pOwn x)).length + 1) c5) (((vs.take k).filter (pOwn x)).length + 1) (cellsK ((vs.take k).filter (pOwn x) ++ [⟨vx, vb, vr, vm⟩])) := by rw [cellsK_append]; exact hown5
        have H5 : Hid (w5.ownsRow w.heap.size 55 4 (.slice a5 ((vs.take (k + 1)).filter (pOwn x)).length c5) ((vs.take (k + 1)).filter (pOwn x)).length (cellsK ((vs.take (k + 1)).filter (pOwn x)))) := by unfold Hid; rw [HF.out, List.length_append, List.length_singleton]; exact hown5'
        have B5 : Hid (Below w.heap.size w w5) := B4.out.grown hgr5 B4.out.size (fun j hj => by obtain ⟨a', c', e', hh⟩ := own_slc HO4.out; rw [e', ob_slice] at hj; exact (hh j hj).1)
        clear hown5 hown5' hgr5 hat5 HO4 B4 q0 q1 q2 q3
        go_wp2
        go_roundw
        case rel => exact ⟨k + 1, a5, c5, by omega, by go_num, by rw [HF.out, List.length_append, List.length_singleton], H5, B5⟩
        case measure => simp [intOf]; omega
    · have e : k = n := by omega
      rw [e, List.take_of_length_le (by omega)] at HO ⊢
      have cge : ¬ (k : Int) < (n : Int) := by omega
      clear e
      go_wp2
      go_ret
      exact ⟨⟨av, cv, rfl, HO.out, fun b hb => by obtain ⟨a', c', e', hh⟩ := own_slc HO.out; cases e'; exact (hh b hb).1⟩, HB.out⟩


end Go.Proofs.YtmjacoocnkcilaaDoor
