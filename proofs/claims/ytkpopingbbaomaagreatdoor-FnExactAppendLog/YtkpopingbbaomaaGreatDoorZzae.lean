/-
  Numbers as bytes, the higher ones first: the specification's own.
-/
import Derived.Test.YtkpopingbbaomaaGreatDoorZzab
import Derived.WalkKit
import Derived.WalkSpells
import Derived.WalkLawsBesides
import Derived.Deep.QuietTactic
import Derived.BigQuiet
import Derived.Test.YtkpopingbbaomaaGreatDoorZzad
import Derived.Deep.AppendLies
namespace Go.Proofs.YtkpopingbbaomaaGreatDoor
open Go Go.RowKit
attribute [local go_sem ↓] Go.wp_at_zero Go.wp_at_succ

theorem infoI : (Tryz.prog.info? 3).map (fun i => (i.zero, i.size, i.bytes)) = some (some (Value.int .i64 0), 1, 8) := by kernel_rfl
set_option maxRecDepth 100000 in
set_option maxHeartbeats 1000000 in
theorem c_toI (a : Option Addr) (n cap : Nat) (ss : List (Int)) (w : World) (hr : RdV w a n (ss.map (Value.int .i64))) (hn : n ≤ 1048576) :
    Calls Tryz.prog 25 #[.slice a n cap] w fun e w' => e = .returned (.slice (some ⟨w.heap.size, 0, none⟩) n n) ∧ w'.ownsRow w.heap.size 3 1 (.slice (some ⟨w.heap.size, 0, none⟩) n n) n (ss.map (Value.int .i64)) ∧ Below w.heap.size w w' := by
  obtain ⟨hl, hcs⟩ := hr
  obtain ⟨i0, hi, hz0, hz1, hz2⟩ := info_parts infoI
  go_enter Tryz.func25, Tryz.ntmps25
  go_wp2_with (at_make; refine wpList_make_full _ rfl (.tmp 6) (.tmp 6) 24 rfl w.heap.size 3 i0 (Value.int .i64 0) 1 Tryz.underlying24 hi hz0 hz1 .i64 .i64 _ _ n rfl rfl rfl rfl (by rw [hz2]; omega) (by unfold maxLen; omega) (Nat.le_refl _) ?_; intro w1 hown hgrow)
  go_loopw [4] (fun i wr => ∃ k : Nat, k ≤ n ∧ i = .int .i64 k ∧ wr.ownsRow w.heap.size 3 1 (.slice (some ⟨w.heap.size, 0, none⟩) n n) n (partV (Value.int .i64 0) (ss.map (Value.int .i64)) n k) ∧ Below w.heap.size w wr) (fun i _ => n - (intOf i).toNat)
  case atStart => exact ⟨0, by omega, rfl, by rw [← partV_zero (Value.int .i64 0) rfl (ss.map (Value.int .i64)) n]; exact hown, (Below.refl _ _).grown hgrow (Nat.le_refl _) (fun k h => by cases h)⟩
  case round =>
    obtain ⟨k, hk, rfl, hown, hb⟩ := hrel
    by_cases hlt : k < n
    · obtain ⟨b, off, rfl, hbl, hc⟩ := hcs (by omega)
      obtain ⟨x, hx⟩ : ∃ x, x = ss.getD k (0) := ⟨_, rfl⟩
      have hg : (ss.map (Value.int .i64))[k]? = some ((Value.int .i64) x) := by rw [hx]; exact map_get _ _ _ _ (by simpa using (show k < (ss.map (Value.int .i64)).length by omega))
      have hck : wr.cell? ⟨b, off + k, none⟩ = some ((Value.int .i64) x) := by rw [hb.cell (p := ⟨b, off + k, none⟩) hbl, hc k hlt, hg]
      obtain ⟨old, hold⟩ : ∃ old, wr.cell? ⟨w.heap.size, k, none⟩ = some old := by
        rw [hown.cellAt k (by omega)]
        exact ⟨_, List.getElem?_eq_getElem (by rw [hown.1]; omega)⟩
      have hfz := hown.frozenAt k
      have hown2 := (hown.stored k ((Value.int .i64) x)).1
      rw [partV_step _ _ n k _ hl hlt hg] at hown2
      have HO : Hid (_) := hown2
      clear hown2 hc hcs hgrow hx hg
      go_wp2
      go_roundw
      case rel => exact ⟨k + 1, by omega, by go_num, HO.out, hb.setCell (Nat.le_refl _) _⟩
      case measure => simp [intOf]; omega
    · have e : k = n := by omega
      subst e
      rw [partV_full _ _ k hl] at hown
      go_wp2
      go_ret
      exact ⟨rfl, hown, hb⟩
def sameToI (zs zs' : List (Int)) (k : Nat) : Prop := ∀ j, j < k → zs.getD j (0) = zs'.getD j (0)
theorem same_allI {zs zs' : List (Int)} (hl : zs.length = zs'.length) (h : sameToI zs zs' zs.length) : zs = zs' := by
  apply List.ext_getElem hl
  intro i h1 h2
  have := h i h1
  rwa [List.getD_eq_getElem?_getD, List.getElem?_eq_getElem h1, List.getD_eq_getElem?_getD, List.getElem?_eq_getElem h2] at this
set_option maxRecDepth 100000 in
set_option maxHeartbeats 1000000 in
theorem c_eqI (a a' : Option Addr) (n cap n' cap' : Nat) (zs zs' : List (Int)) (w : World) (hr : RdV w a n (zs.map (Value.int .i64))) (hr' : RdV w a' n' (zs'.map (Value.int .i64))) (hn : n ≤ 1048576) (hn' : n' ≤ 1048576) :
    Calls Tryz.prog 27 #[.slice a n cap, .slice a' n' cap'] w fun e w' => e = .returned (.bool (decide (zs = zs'))) ∧ ∃ q, w' = w.drewN q := by
  obtain ⟨hl, hcs⟩ := hr
  obtain ⟨hl', hcs'⟩ := hr'
  simp only [List.length_map] at hl hl'
  by_cases hnn : n = n'
  · subst hnn
    have hll : zs.length = zs'.length := by omega
    go_enter Tryz.func27, Tryz.ntmps27
    go_wp2
    go_loopw [5] (fun i wr => ∃ k : Nat, k ≤ n ∧ i = .int .i64 k ∧ Hid (sameToI zs zs' k) ∧ ∃ q, wr = w.drewN q) (fun i _ => n - (intOf i).toNat)
    case atStart => exact ⟨0, by omega, rfl, fun j h => absurd h (by omega), 0, rfl⟩
    case round =>
      obtain ⟨k, hk, rfl, HS, q, rfl⟩ := hrel
      by_cases hlt : k < n
      · obtain ⟨b, off, rfl, _, hc⟩ := hcs (by omega)
        obtain ⟨b', off', rfl, _, hc'⟩ := hcs' (by omega)
        obtain ⟨z, hz⟩ : ∃ z, z = zs.getD k (0) := ⟨_, rfl⟩
        obtain ⟨z', hz'⟩ : ∃ z, z = zs'.getD k (0) := ⟨_, rfl⟩
        have hck : w.cell? ⟨b, off + k, none⟩ = some ((Value.int .i64) z) := by rw [hz, hc k hlt]; exact map_get _ _ _ _ (by omega)
        have hck' : w.cell? ⟨b', off' + k, none⟩ = some ((Value.int .i64) z') := by rw [hz', hc' k hlt]; exact map_get _ _ _ _ (by omega)
        have g1 : (0 : Int) ≤ (k : Int) := by omega
        have g2 : (k : Int) < (n : Int) := by omega
        have HZ : Hid (z = zs.getD k (0)) := hz
        have HZ' : Hid (z' = zs'.getD k (0)) := hz'
        clear hc hc' hcs hcs' hz hz'
        by_cases he : z = z'
        · have HE : Hid (z = z') := he
          have he1 : (z != z') = false := by simp [he]
          clear he
          go_wp2_with fail
          go_quiet (fail)
          go_wp2
          go_roundw
          case rel => exact ⟨k + 1, by omega, by go_num, fun j hj => if e : j = k then by rw [e, ← HZ.out, ← HZ'.out]; exact HE.out else HS.out j (by omega), _, rfl⟩
          case measure => simp [intOf]; omega
        · have HE : Hid (¬ z = z') := he
          have he1 : (z != z') = true := by simpa using he
          clear he
          go_wp2_with fail
          go_quiet (fail)
          go_wp2
          go_ret
          exact ⟨ret_bool (decide_eq_false fun e => HE.out (by rw [HZ.out, HZ'.out, e])).symm, _, World.drewN_drewN _ _ _⟩
      · have e : k = n := by omega
        subst e
        go_wp2
        go_ret
        exact ⟨ret_bool (decide_eq_true (same_allI hll (by rw [hl]; exact HS.out))).symm, q, rfl⟩
  · have hne : ((n : Int) != (n' : Int)) = true := by simp; omega
    go_enter Tryz.func27, Tryz.ntmps27
    go_wp2
    go_ret
    exact ⟨ret_bool (decide_eq_false fun e => hnn (by rw [← hl, ← hl', e])).symm, 0, rfl⟩

end Go.Proofs.YtkpopingbbaomaaGreatDoor
namespace Go.Proofs.YtkpopingbbaomaaGreatDoor
open Go Go.RowKit
attribute [local go_sem ↓] Go.wp_at_zero Go.wp_at_succ

def numZ (c : Int) : List Int := [c / 256, c % 256]
set_option maxRecDepth 100000 in
set_option maxHeartbeats 2000000 in
theorem c_num4 (u : Int) (w : World) (h0 : 0 ≤ u) (h1 : u < 4294967296) :
    Calls Tryz.prog 295 #[.int .i64 u, .int .i64 4] w fun e w' => ∃ g cap, e = .returned (.slice (some ⟨g, 0, none⟩) 4 cap) ∧ w'.ownsRow w.heap.size 5 1 (.slice (some ⟨g, 0, none⟩) 4 cap) 4 ((sumZ u).map (Value.int .u8)) ∧ Below w.heap.size w w' := by
  obtain ⟨i0, hi, hz0, hz1, hz2⟩ := info_parts infoB
  have hown0 : (w.alloc (.cells #[] 5)).ownsRow w.heap.size 5 1 (.slice (some ⟨w.heap.size, 0, none⟩) 0 0) 0 [] := World.ownsRow_lit w #[] 0 (Nat.le_refl _) (Nat.zero_le _) rfl
  go_enter Tryz.func295, Tryz.ntmps295
  go_wp2
  go_loopw [5, 6] (fun v i wr => ∃ j : Nat, j ≤ 4 ∧ i = .int .i64 (3 - (j : Int)) ∧ wr.ownsRow w.heap.size 5 1 v j (((sumZ u).take j).map (Value.int .u8)) ∧ (0 < j → ∃ g cap, v = .slice (some ⟨g, 0, none⟩) j cap) ∧ Below w.heap.size w wr) (fun _ i _ => (intOf i + 1).toNat)
  case atStart => exact ⟨0, by omega, rfl, hown0, fun h => absurd h (by omega), (Below.refl _ _).alloc (Nat.le_refl _) _⟩
  case round =>
    obtain ⟨j, hj, rfl, hown, hform, hb⟩ := hrel
    have hbs : w.heap.size ≤ wr.heap.size := hb.size
    clear hown0
    by_cases hlt : j < 4
    · obtain ⟨z, hz⟩ : ∃ z, (sumZ u).take (j + 1) = (sumZ u).take j ++ [z] ∧ z = (sumZ u).getD j 0 := by
        refine ⟨_, ?_, rfl⟩
        rw [List.take_succ_eq_append_getElem (by simp [sumZ]; omega), List.getD_eq_getElem?_getD, List.getElem?_eq_getElem (by simp [sumZ]; omega)]
        rfl
      have HZ : Hid ((sumZ u).take (j + 1) = (sumZ u).take j ++ [z]) := hz.1
      have hzv := hz.2
      clear hz
      obtain ⟨av, cv, hv⟩ : ∃ a cap, (_ : Value) = .slice a j cap := by
        rcases own_form hown with ⟨h, rfl⟩ | ⟨g, cap, h, _, _⟩
        · exact ⟨none, 0, h⟩
        · exact ⟨_, cap, h⟩
      subst hv
      clear hform
      rcases j with _ | _ | _ | _ | j
      all_goals try omega
      all_goals
        simp only [sumZ, List.getD_cons_zero, List.getD_cons_succ] at hzv
        subst hzv
        go_wp2_with (at_builtin; refine wpList_append_lies _ rfl (.tmp 14) (.tmp 21) 237 rfl w.heap.size 5 i0 (.int .u8 0) 1 1 Tryz.underlying237 hi hz0 hz1 hz2 rfl (by omega) _ _ _ rfl (hown.alloc _) ⟨wr.heap.size, 0, none⟩ 1 1 [_] rfl rfl (cell_one_new wr _ _) (by intro u hu; simp at hu; subst hu; rfl) (by omega) (by unfold maxLen; omega) (by omega) (by simp; omega) (wr.heap.size + 1) (by simp) ?_; intro g cp w1 hown1 hgr1 hat1 hlt1)
      all_goals
        have hb1 : Below w.heap.size w w1 := (hb.alloc hbs _).grown hgr1 (by simp; omega) (fun j hj => (hown.lt j hj).1)
        have hown2 := hown1
        rw [← List.map_singleton (f := Value.int IntKind.u8), ← List.map_append, ← HZ.out] at hown2
        clear hown1 hgr1 hat1 hlt1 hown
        go_roundw
        case rel => first | exact ⟨1, by omega, rfl, hown2, fun _ => ⟨g, cp, rfl⟩, hb1⟩ | exact ⟨2, by omega, rfl, hown2, fun _ => ⟨g, cp, rfl⟩, hb1⟩ | exact ⟨3, by omega, rfl, hown2, fun _ => ⟨g, cp, rfl⟩, hb1⟩ | exact ⟨4, by omega, rfl, hown2, fun _ => ⟨g, cp, rfl⟩, hb1⟩
        case measure => simp [intOf]
    · have e : j = 4 := by omega
      subst e
      obtain ⟨g, cap, rfl⟩ := hform (by omega)
      go_wp2
      go_ret
      exact ⟨g, cap, rfl, hown, hb⟩
set_option maxRecDepth 100000 in
set_option maxHeartbeats 2000000 in
theorem c_num2 (u : Int) (w : World) (h0 : 0 ≤ u) (h1 : u ≤ 1000) :
    Calls Tryz.prog 295 #[.int .i64 u, .int .i64 2] w fun e w' => ∃ g cap, e = .returned (.slice (some ⟨g, 0, none⟩) 2 cap) ∧ w'.ownsRow w.heap.size 5 1 (.slice (some ⟨g, 0, none⟩) 2 cap) 2 ((numZ u).map (Value.int .u8)) ∧ Below w.heap.size w w' := by
  obtain ⟨i0, hi, hz0, hz1, hz2⟩ := info_parts infoB
  have hown0 : (w.alloc (.cells #[] 5)).ownsRow w.heap.size 5 1 (.slice (some ⟨w.heap.size, 0, none⟩) 0 0) 0 [] := World.ownsRow_lit w #[] 0 (Nat.le_refl _) (Nat.zero_le _) rfl
  go_enter Tryz.func295, Tryz.ntmps295
  go_wp2
  go_loopw [5, 6] (fun v i wr => ∃ j : Nat, j ≤ 2 ∧ i = .int .i64 (1 - (j : Int)) ∧ wr.ownsRow w.heap.size 5 1 v j (((numZ u).take j).map (Value.int .u8)) ∧ (0 < j → ∃ g cap, v = .slice (some ⟨g, 0, none⟩) j cap) ∧ Below w.heap.size w wr) (fun _ i _ => (intOf i + 1).toNat)
  case atStart => exact ⟨0, by omega, rfl, hown0, fun h => absurd h (by omega), (Below.refl _ _).alloc (Nat.le_refl _) _⟩
  case round =>
    obtain ⟨j, hj, rfl, hown, hform, hb⟩ := hrel
    have hbs : w.heap.size ≤ wr.heap.size := hb.size
    clear hown0
    by_cases hlt : j < 2
    · obtain ⟨z, hz⟩ : ∃ z, (numZ u).take (j + 1) = (numZ u).take j ++ [z] ∧ z = (numZ u).getD j 0 := by
        refine ⟨_, ?_, rfl⟩
        rw [List.take_succ_eq_append_getElem (by simp [numZ]; omega), List.getD_eq_getElem?_getD, List.getElem?_eq_getElem (by simp [numZ]; omega)]
        rfl
      have HZ : Hid ((numZ u).take (j + 1) = (numZ u).take j ++ [z]) := hz.1
      have hzv := hz.2
      clear hz
      obtain ⟨av, cv, hv⟩ : ∃ a cap, (_ : Value) = .slice a j cap := by
        rcases own_form hown with ⟨h, rfl⟩ | ⟨g, cap, h, _, _⟩
        · exact ⟨none, 0, h⟩
        · exact ⟨_, cap, h⟩
      subst hv
      clear hform
      rcases j with _ | _ | j
      all_goals try omega
      all_goals
        simp only [numZ, List.getD_cons_zero, List.getD_cons_succ] at hzv
        subst hzv
        go_wp2_with (at_builtin; refine wpList_append_lies _ rfl (.tmp 14) (.tmp 21) 237 rfl w.heap.size 5 i0 (.int .u8 0) 1 1 Tryz.underlying237 hi hz0 hz1 hz2 rfl (by omega) _ _ _ rfl (hown.alloc _) ⟨wr.heap.size, 0, none⟩ 1 1 [_] rfl rfl (cell_one_new wr _ _) (by intro u hu; simp at hu; subst hu; rfl) (by omega) (by unfold maxLen; omega) (by omega) (by simp; omega) (wr.heap.size + 1) (by simp) ?_; intro g cp w1 hown1 hgr1 hat1 hlt1)
      all_goals
        have hb1 : Below w.heap.size w w1 := (hb.alloc hbs _).grown hgr1 (by simp; omega) (fun j hj => (hown.lt j hj).1)
        have hown2 := hown1
        rw [← List.map_singleton (f := Value.int IntKind.u8), ← List.map_append, ← HZ.out] at hown2
        clear hown1 hgr1 hat1 hlt1 hown
        go_roundw
        case rel => first | exact ⟨1, by omega, rfl, hown2, fun _ => ⟨g, cp, rfl⟩, hb1⟩ | exact ⟨2, by omega, rfl, hown2, fun _ => ⟨g, cp, rfl⟩, hb1⟩
        case measure => simp [intOf]
    · have e : j = 2 := by omega
      subst e
      obtain ⟨g, cap, rfl⟩ := hform (by omega)
      go_wp2
      go_ret
      exact ⟨g, cap, rfl, hown, hb⟩

end Go.Proofs.YtkpopingbbaomaaGreatDoor
