/-
  Numbers as bytes, the higher ones first: the specification's own.
-/
import Derived.Test.YtlocgbjdnfnilaaDoorSg
import Derived.Deep.AppendLies
namespace Go.Proofs.YtlocgbjdnfnilaaDoor
open Go Go.RowKit
attribute [local go_sem ↓] Go.wp_at_zero Go.wp_at_succ

def numZ (c : Int) : List Int := [c / 256, c % 256]
set_option maxRecDepth 100000 in
set_option maxHeartbeats 2000000 in
theorem c_num4 (u : Int) (w : World) (h0 : 0 ≤ u) (h1 : u < 4294967296) :
    Calls Tryd.prog 68 #[.int .i64 u, .int .i64 4] w fun e w' => ∃ g cap, e = .returned (.slice (some ⟨g, 0, none⟩) 4 cap) ∧ w'.ownsRow w.heap.size 5 1 (.slice (some ⟨g, 0, none⟩) 4 cap) 4 ((sumZ u).map (Value.int .u8)) ∧ Below w.heap.size w w' := by
  obtain ⟨i0, hi, hz0, hz1, hz2⟩ := info_parts infoB
  have hown0 : (w.alloc (.cells #[] 5)).ownsRow w.heap.size 5 1 (.slice (some ⟨w.heap.size, 0, none⟩) 0 0) 0 [] := World.ownsRow_lit w #[] 0 (Nat.le_refl _) (Nat.zero_le _) rfl
  go_enter Tryd.func68, Tryd.ntmps68
  go_wp2
  go_loopw [5, 6] (fun v i wr => ∃ j : Nat, j ≤ 4 ∧ i = .int .i64 (3 - (j : Int)) ∧ wr.ownsRow w.heap.size 5 1 v j (((sumZ u).take j).map (Value.int .u8)) ∧ (0 < j → ∃ g cap, v = .slice (some ⟨g, 0, none⟩) j cap) ∧ Below w.heap.size w wr) (fun _ i _ => (intOf i + 1).toNat)
  case atStart => exact ⟨0, by omega, rfl, hown0, fun h => absurd h (by omega), (Below.refl _ _).alloc (Nat.le_refl _) _⟩
  case round =>
    obtain ⟨j, hj, rfl, hown, hform, hb⟩ := hrel
    have hbs : w.heap.size ≤ wr.heap.size := hb.size
    clear hown0
    by_cases hlt : j < 4
    · obtain ⟨z, hz⟩ : ∃ z, (sumZ u).take (j + 1) = (sumZ u).take j ++ [z] ∧ z = (sumZ u).getD j 0 := by
        refine ⟨_, ?_, rfl⟩
        rw [List.take_succ_eq_append_getElem (by simp [sumZ]; omega), List.getD_eq_getElem?_getD, List.getElem?_eq_getElem (by simp [sumZ]; omega)]
        rfl
      have HZ : Hid ((sumZ u).take (j + 1) = (sumZ u).take j ++ [z]) := hz.1
      have hzv := hz.2
      clear hz
      obtain ⟨av, cv, hv⟩ : ∃ a cap, (_ : Value) = .slice a j cap := by
        rcases own_form hown with ⟨h, rfl⟩ | ⟨g, cap, h, _, _⟩
        · exact ⟨none, 0, h⟩
        · exact ⟨_, cap, h⟩
      subst hv
      clear hform
      rcases j with _ | _ | _ | _ | j
      all_goals try omega
      all_goals
        simp only [sumZ, List.getD_cons_zero, List.getD_cons_succ] at hzv
        subst hzv
        go_wp2_with (at_builtin; refine wpList_append_lies _ rfl (.tmp 14) (.tmp 21) 68 rfl w.heap.size 5 i0 (.int .u8 0) 1 1 Tryd.underlying68 hi hz0 hz1 hz2 rfl (by omega) _ _ _ rfl (hown.alloc _) ⟨wr.heap.size, 0, none⟩ 1 1 [_] rfl rfl (cell_one_new wr _ _) (by intro u hu; simp at hu; subst hu; rfl) (by omega) (by unfold maxLen; omega) (by omega) (by simp; omega) (wr.heap.size + 1) (by simp) ?_; intro g cp w1 hown1 hgr1 hat1 hlt1)
      all_goals
        have hb1 : Below w.heap.size w w1 := (hb.alloc hbs _).grown hgr1 (by simp; omega) (fun j hj => (hown.lt j hj).1)
        have hown2 := hown1
        rw [← List.map_singleton (f := Value.int IntKind.u8), ← List.map_append, ← HZ.out] at hown2
        clear hown1 hgr1 hat1 hlt1 hown
        go_roundw
        case rel => first | exact ⟨1, by omega, rfl, hown2, fun _ => ⟨g, cp, rfl⟩, hb1⟩ | exact ⟨2, by omega, rfl, hown2, fun _ => ⟨g, cp, rfl⟩, hb1⟩ | exact ⟨3, by omega, rfl, hown2, fun _ => ⟨g, cp, rfl⟩, hb1⟩ | exact ⟨4, by omega, rfl, hown2, fun _ => ⟨g, cp, rfl⟩, hb1⟩
        case measure => simp [intOf]
    · have e : j = 4 := by omega
      subst e
      obtain ⟨g, cap, rfl⟩ := hform (by omega)
      go_wp2
      go_ret
      exact ⟨g, cap, rfl, hown, hb⟩
set_option maxRecDepth 100000 in
set_option maxHeartbeats 2000000 in
theorem c_num2 (u : Int) (w : World) (h0 : 0 ≤ u) (h1 : u ≤ 1000) :
    Calls Tryd.prog 68 #[.int .i64 u, .int .i64 2] w fun e w' => ∃ g cap, e = .returned (.slice (some ⟨g, 0, none⟩) 2 cap) ∧ w'.ownsRow w.heap.size 5 1 (.slice (some ⟨g, 0, none⟩) 2 cap) 2 ((numZ u).map (Value.int .u8)) ∧ Below w.heap.size w w' := by
  obtain ⟨i0, hi, hz0, hz1, hz2⟩ := info_parts infoB
  have hown0 : (w.alloc (.cells #[] 5)).ownsRow w.heap.size 5 1 (.slice (some ⟨w.heap.size, 0, none⟩) 0 0) 0 [] := World.ownsRow_lit w #[] 0 (Nat.le_refl _) (Nat.zero_le _) rfl
  go_enter Tryd.func68, Tryd.ntmps68
  go_wp2
  go_loopw [5, 6] (fun v i wr => ∃ j : Nat, j ≤ 2 ∧ i = .int .i64 (1 - (j : Int)) ∧ wr.ownsRow w.heap.size 5 1 v j (((numZ u).take j).map (Value.int .u8)) ∧ (0 < j → ∃ g cap, v = .slice (some ⟨g, 0, none⟩) j cap) ∧ Below w.heap.size w wr) (fun _ i _ => (intOf i + 1).toNat)
  case atStart => exact ⟨0, by omega, rfl, hown0, fun h => absurd h (by omega), (Below.refl _ _).alloc (Nat.le_refl _) _⟩
  case round =>
    obtain ⟨j, hj, rfl, hown, hform, hb⟩ := hrel
    have hbs : w.heap.size ≤ wr.heap.size := hb.size
    clear hown0
    by_cases hlt : j < 2
    · obtain ⟨z, hz⟩ : ∃ z, (numZ u).take (j + 1) = (numZ u).take j ++ [z] ∧ z = (numZ u).getD j 0 := by
        refine ⟨_, ?_, rfl⟩
        rw [List.take_succ_eq_append_getElem (by simp [numZ]; omega), List.getD_eq_getElem?_getD, List.getElem?_eq_getElem (by simp [numZ]; omega)]
        rfl
      have HZ : Hid ((numZ u).take (j + 1) = (numZ u).take j ++ [z]) := hz.1
      have hzv := hz.2
      clear hz
      obtain ⟨av, cv, hv⟩ : ∃ a cap, (_ : Value) = .slice a j cap := by
        rcases own_form hown with ⟨h, rfl⟩ | ⟨g, cap, h, _, _⟩
        · exact ⟨none, 0, h⟩
        · exact ⟨_, cap, h⟩
      subst hv
      clear hform
      rcases j with _ | _ | j
      all_goals try omega
      all_goals
        simp only [numZ, List.getD_cons_zero, List.getD_cons_succ] at hzv
        subst hzv
        go_wp2_with (at_builtin; refine wpList_append_lies _ rfl (.tmp 14) (.tmp 21) 68 rfl w.heap.size 5 i0 (.int .u8 0) 1 1 Tryd.underlying68 hi hz0 hz1 hz2 rfl (by omega) _ _ _ rfl (hown.alloc _) ⟨wr.heap.size, 0, none⟩ 1 1 [_] rfl rfl (cell_one_new wr _ _) (by intro u hu; simp at hu; subst hu; rfl) (by omega) (by unfold maxLen; omega) (by omega) (by simp; omega) (wr.heap.size + 1) (by simp) ?_; intro g cp w1 hown1 hgr1 hat1 hlt1)
      all_goals
        have hb1 : Below w.heap.size w w1 := (hb.alloc hbs _).grown hgr1 (by simp; omega) (fun j hj => (hown.lt j hj).1)
        have hown2 := hown1
        rw [← List.map_singleton (f := Value.int IntKind.u8), ← List.map_append, ← HZ.out] at hown2
        clear hown1 hgr1 hat1 hlt1 hown
        go_roundw
        case rel => first | exact ⟨1, by omega, rfl, hown2, fun _ => ⟨g, cp, rfl⟩, hb1⟩ | exact ⟨2, by omega, rfl, hown2, fun _ => ⟨g, cp, rfl⟩, hb1⟩
        case measure => simp [intOf]
    · have e : j = 2 := by omega
      subst e
      obtain ⟨g, cap, rfl⟩ := hform (by omega)
      go_wp2
      go_ret
      exact ⟨g, cap, rfl, hown, hb⟩

end Go.Proofs.YtlocgbjdnfnilaaDoor
