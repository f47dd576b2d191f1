/-
  Numbers as bytes, the higher ones first: the specification's own.
-/
import Derived.Test.YtcokbogicbdoaaaDoorOiq
import Derived.ProofKit
import Derived.OpenShut
import Derived.SliceStrings
import Derived.ChangeSlices
import Derived.Lib.SmallJoins
import Derived.Deep.Slices
import Derived.Deep.Strs
import Derived.RangeFuncNested
import Derived.RangeFuncBound
import Derived.RangeFuncCalls
import Derived.RangeFuncLeaves
import Derived.Shelf.Abstract
import Derived.Shelf.RegionOpen
import Derived.WalkKit
import Derived.OwnWalkIn
import Derived.TacticsInMore
import Derived.LoopNIn
import Derived.LoopIn
import Derived.Test.YtcokbogicbdoaaaDoorZzad
import Derived.Deep.AppendLies
namespace Go.Proofs.YtcokbogicbdoaaaDoor
open Go Go.RowKit Go.Shelf
attribute [local go_sem ↓] Go.wp_at_zero Go.wp_at_succ


abbrev BX := Nat × Int × ByteArray
def bkF (vs : List PP) (len j : Nat) : BX := (len - 1 - j, (vs.getD (len - 1 - j) dP).1, (vs.getD (len - 1 - j) dP).2)
def bkL (vs : List PP) (len k : Nat) : List BX := (List.range k).map (bkF vs len)
theorem bkL_succ (vs : List PP) (len k : Nat) : bkL vs len (k + 1) = bkL vs len k ++ [bkF vs len k] := by simp [bkL, List.range_succ]
theorem bkL_length (vs : List PP) (len k : Nat) : (bkL vs len k).length = k := by simp [bkL]
def encB (x : BX) : Array Value := #[.int .i64 (x.1 : Int), .agg #[.int .i64 x.2.1, .string x.2.2]]
set_option maxRecDepth 100000 in
set_option maxHeartbeats 4000000 in
theorem bk1_in (F : Fence) (n : Nat) (h84 : F.fn 82) (hro : F.round = none) (hn : 1 ≤ n) (l Bs n₀ : Nat) (a : Option Addr) (len cap : Nat) (vs : List PP) (hlen : len ≤ 1048576) (hb : ∀ b off, 0 < len → a = some ⟨b, off, none⟩ → b < n₀) (hBn : Bs < n₀) (J Jx : List BX → World → Prop)
    (hY : ∀ pre x W, J pre W → pre.length < len → YieldAt F (n - 1) Tryd.prog l (encB x) W fun e W' =>
      (e = .returned (.bool true) ∧ J (pre ++ [x]) W' ∧ Below n₀ W W') ∨ (e = .returned (.bool false) ∧ Jx (pre ++ [x]) W'))
    (W : World) (hBs : W.cell? ⟨Bs, 0, none⟩ = some (.slice a len cap)) (hr : RdP W a len vs) (h0 : J [] W) :
    CallsIn F n Tryd.prog 82 #[.func (.yield l) #[] #[], .pointer (some ⟨Bs, 0, none⟩)] W fun e W' => (∃ v, e = .returned v) ∧
      ((∃ ys, ys = bkL vs len len ∧ J ys W') ∨ (∃ pre, (∃ k, k ≤ len ∧ pre = bkL vs len k) ∧ Jx pre W')) := by
  have hl := hr.1
  refine callsIn_of_wp Tryd.func82 rfl h84 ?_ hro
  simp only [Tryd.ntmps82, List.size_toArray, List.length_cons, List.length_nil, Nat.reduceAdd, Nat.reduceSub, Array.replicate_succ, Array.replicate_zero, List.push_toArray, List.append_toArray, List.nil_append, List.cons_append]
  gi_wp2
  gi_loopw [3] (fun i wr => ((∃ p : Nat, i = .int .i64 p ∧ p < len ∧ J (bkL vs len (len - 1 - p)) wr) ∨ (i = .int .i64 (-1) ∧ J (bkL vs len len) wr)) ∧ Below n₀ W wr)
    (fun i _ => (intOf i + 1).toNat)
  case atStart =>
    refine ⟨?_, Below.refl _ _⟩
    rcases Nat.eq_zero_or_pos len with h | h
    · subst h
      exact .inr ⟨rfl, h0⟩
    · refine .inl ⟨len - 1, by go_num, by omega, ?_⟩
      rw [show len - 1 - (len - 1) = 0 by omega]
      exact h0
  case round =>
    obtain ⟨hrel, hnx⟩ := hrel
    have hBw : wr.cell? ⟨Bs, 0, none⟩ = some (.slice a len cap) := (hnx.cell (p := ⟨Bs, 0, none⟩) hBn).trans hBs
    rcases hrel with ⟨p, rfl, hp, hJs⟩ | ⟨rfl, hJs⟩
    · obtain ⟨b, off, rfl, hbl, hc⟩ := hr.2 (by omega)
      have hbn : b < n₀ := hb b off (by omega) rfl
      obtain ⟨⟨xa, xt⟩, hx⟩ : ∃ x, x = vs.getD p dP := ⟨_, rfl⟩
      obtain ⟨d0, d1⟩ := hc p hp
      rw [← hx] at d0 d1
      have e0 : wr.cell? ⟨b, off + p * 2, none⟩ = some (.int .i64 xa) := (hnx.cell (p := ⟨b, off + p * 2, none⟩) hbn).trans d0
      have e1 : wr.cell? ⟨b, off + p * 2 + 1, none⟩ = some (.string xt) := (hnx.cell (p := ⟨b, off + p * 2 + 1, none⟩) hbn).trans d1
      have hF : bkF vs len (len - 1 - p) = (p, xa, xt) := by unfold bkF; rw [show len - 1 - (len - 1 - p) = p by omega, ← hx]
      obtain ⟨fn, tmps, assign, body, hy, hR⟩ := hY _ (p, xa, xt) wr hJs (by rw [bkL_length]; omega)
      dsimp only [encB] at hy
      have HF : Hid (bkL vs len (len - 1 - p) ++ [(p, xa, xt)] = bkL vs len (len - 1 - p + 1)) := by unfold Hid; rw [bkL_succ, hF]
      clear hc hx d0 d1 hF
      gi_wp2
      refine hR.mono ?_
      rintro e W3 (⟨rfl, hJ3, hk3⟩ | ⟨rfl, hJx3⟩)
      · gi_wp2
        go_roundw
        case rel =>
          refine ⟨?_, hnx.trans hk3⟩
          rw [HF.out] at hJ3
          rcases Nat.eq_zero_or_pos p with h | h
          · subst h
            refine .inr ⟨by go_num, ?_⟩
            rw [show len - 1 - 0 + 1 = len by omega] at hJ3
            exact hJ3
          · refine .inl ⟨p - 1, by go_num, by omega, ?_⟩
            rw [show len - 1 - (p - 1) = len - 1 - p + 1 by omega]
            exact hJ3
        case measure => simp [intOf]
      · gi_wp2
        refine bodyPost_ret (results_none rfl _ _ _) rfl ?_
        rw [HF.out] at hJx3
        exact ⟨⟨_, rfl⟩, .inr ⟨_, ⟨len - 1 - p + 1, by omega, rfl⟩, hJx3⟩⟩
    · gi_wp2
      go_end0
      exact ⟨⟨_, rfl⟩, .inl ⟨_, rfl, hJs⟩⟩
set_option maxRecDepth 100000 in
set_option maxHeartbeats 1000000 in
theorem bk_in (F : Fence) (n : Nat) (h78 : F.fn 72) (hro : F.round = none) (a : Option Addr) (len cap : Nat) (w : World) :
    CallsIn F n Tryd.prog 72 #[.slice a len cap] w fun e w' => e = .returned (.func (.func 82) #[] #[.pointer (some ⟨w.heap.size, 0, none⟩)]) ∧ w' = w.alloc (.cells #[.slice a len cap] 34) := by
  refine callsIn_of_wp Tryd.func72 rfl h78 ?_ hro
  simp only [Tryd.ntmps72, List.size_toArray, List.length_cons, List.length_nil, Nat.reduceAdd, Nat.reduceSub, Array.replicate_succ, Array.replicate_zero, List.push_toArray, List.append_toArray, List.nil_append, List.cons_append]
  gi_wp2
  go_ret
  exact ⟨rfl, rfl⟩
theorem bk_stops (F : Fence) (n : Nat) (h84 : F.fn 82) (hro : F.round = none) (hn : 1 ≤ n) (Bs n₀ : Nat) (a : Option Addr) (len cap : Nat) (vs : List PP) (hlen : len ≤ 1048576) (w : World) (hBs : Bs < n₀) (hn₀ : n₀ ≤ w.heap.size)
    (hc : w.cell? ⟨Bs, 0, none⟩ = some (.slice a len cap)) (hr : RdP w a len vs) (hb : ∀ b off, 0 < len → a = some ⟨b, off, none⟩ → b < n₀) :
    SeqStopsK F n Tryd.prog 82 #[.pointer (some ⟨Bs, 0, none⟩)] encB (Below n₀) (fun ys => ys = bkL vs len len) (fun pre => ∃ k, k ≤ len ∧ pre = bkL vs len k) len w := fun l J Jx W hW _ _ hY h0 =>
  bk1_in F n h84 hro hn l Bs n₀ a len cap vs hlen hb hBs J Jx hY W ((hW.cell (p := ⟨Bs, 0, none⟩) (show Bs < w.heap.size by omega)).trans hc) (hr.below hW) h0

end Go.Proofs.YtcokbogicbdoaaaDoor
namespace Go.Proofs.YtcokbogicbdoaaaDoor
open Go Go.RowKit
attribute [local go_sem ↓] Go.wp_at_zero Go.wp_at_succ

def numZ (c : Int) : List Int := [c / 256, c % 256]
set_option maxRecDepth 100000 in
set_option maxHeartbeats 2000000 in
theorem c_num4 (u : Int) (w : World) (h0 : 0 ≤ u) (h1 : u < 4294967296) :
    Calls Tryd.prog 44 #[.int .i64 u, .int .i64 4] w fun e w' => ∃ g cap, e = .returned (.slice (some ⟨g, 0, none⟩) 4 cap) ∧ w'.ownsRow w.heap.size 5 1 (.slice (some ⟨g, 0, none⟩) 4 cap) 4 ((sumZ u).map (Value.int .u8)) ∧ Below w.heap.size w w' := by
  obtain ⟨i0, hi, hz0, hz1, hz2⟩ := info_parts infoB
  have hown0 : (w.alloc (.cells #[] 5)).ownsRow w.heap.size 5 1 (.slice (some ⟨w.heap.size, 0, none⟩) 0 0) 0 [] := World.ownsRow_lit w #[] 0 (Nat.le_refl _) (Nat.zero_le _) rfl
  go_enter Tryd.func44, Tryd.ntmps44
  go_wp2
  go_loopw [5, 6] (fun v i wr => ∃ j : Nat, j ≤ 4 ∧ i = .int .i64 (3 - (j : Int)) ∧ wr.ownsRow w.heap.size 5 1 v j (((sumZ u).take j).map (Value.int .u8)) ∧ (0 < j → ∃ g cap, v = .slice (some ⟨g, 0, none⟩) j cap) ∧ Below w.heap.size w wr) (fun _ i _ => (intOf i + 1).toNat)
  case atStart => exact ⟨0, by omega, rfl, hown0, fun h => absurd h (by omega), (Below.refl _ _).alloc (Nat.le_refl _) _⟩
  case round =>
    obtain ⟨j, hj, rfl, hown, hform, hb⟩ := hrel
    have hbs : w.heap.size ≤ wr.heap.size := hb.size
    clear hown0
    by_cases hlt : j < 4
    · obtain ⟨z, hz⟩ : ∃ z, (sumZ u).take (j + 1) = (sumZ u).take j ++ [z] ∧ z = (sumZ u).getD j 0 := by
        refine ⟨_, ?_, rfl⟩
        rw [List.take_succ_eq_append_getElem (by simp [sumZ]; omega), List.getD_eq_getElem?_getD, List.getElem?_eq_getElem (by simp [sumZ]; omega)]
        rfl
      have HZ : Hid ((sumZ u).take (j + 1) = (sumZ u).take j ++ [z]) := hz.1
      have hzv := hz.2
      clear hz
      obtain ⟨av, cv, hv⟩ : ∃ a cap, (_ : Value) = .slice a j cap := by
        rcases own_form hown with ⟨h, rfl⟩ | ⟨g, cap, h, _, _⟩
        · exact ⟨none, 0, h⟩
        · exact ⟨_, cap, h⟩
      subst hv
      clear hform
      rcases j with _ | _ | _ | _ | j
      all_goals try omega
      all_goals
        simp only [sumZ, List.getD_cons_zero, List.getD_cons_succ] at hzv
        subst hzv
        go_wp2_with (at_builtin; refine wpList_append_lies _ rfl (.tmp 14) (.tmp 21) 54 rfl w.heap.size 5 i0 (.int .u8 0) 1 1 Tryd.underlying54 hi hz0 hz1 hz2 rfl (by omega) _ _ _ rfl (hown.alloc _) ⟨wr.heap.size, 0, none⟩ 1 1 [_] rfl rfl (cell_one_new wr _ _) (by intro u hu; simp at hu; subst hu; rfl) (by omega) (by unfold maxLen; omega) (by omega) (by simp; omega) (wr.heap.size + 1) (by simp) ?_; intro g cp w1 hown1 hgr1 hat1 hlt1)
      all_goals
        have hb1 : Below w.heap.size w w1 := (hb.alloc hbs _).grown hgr1 (by simp; omega) (fun j hj => (hown.lt j hj).1)
        have hown2 := hown1
        rw [← List.map_singleton (f := Value.int IntKind.u8), ← List.map_append, ← HZ.out] at hown2
        clear hown1 hgr1 hat1 hlt1 hown
        go_roundw
        case rel => first | exact ⟨1, by omega, rfl, hown2, fun _ => ⟨g, cp, rfl⟩, hb1⟩ | exact ⟨2, by omega, rfl, hown2, fun _ => ⟨g, cp, rfl⟩, hb1⟩ | exact ⟨3, by omega, rfl, hown2, fun _ => ⟨g, cp, rfl⟩, hb1⟩ | exact ⟨4, by omega, rfl, hown2, fun _ => ⟨g, cp, rfl⟩, hb1⟩
        case measure => simp [intOf]
    · have e : j = 4 := by omega
      subst e
      obtain ⟨g, cap, rfl⟩ := hform (by omega)
      go_wp2
      go_ret
      exact ⟨g, cap, rfl, hown, hb⟩
set_option maxRecDepth 100000 in
set_option maxHeartbeats 2000000 in
theorem c_num2 (u : Int) (w : World) (h0 : 0 ≤ u) (h1 : u ≤ 1000) :
    Calls Tryd.prog 44 #[.int .i64 u, .int .i64 2] w fun e w' => ∃ g cap, e = .returned (.slice (some ⟨g, 0, none⟩) 2 cap) ∧ w'.ownsRow w.heap.size 5 1 (.slice (some ⟨g, 0, none⟩) 2 cap) 2 ((numZ u).map (Value.int .u8)) ∧ Below w.heap.size w w' := by
  obtain ⟨i0, hi, hz0, hz1, hz2⟩ := info_parts infoB
  have hown0 : (w.alloc (.cells #[] 5)).ownsRow w.heap.size 5 1 (.slice (some ⟨w.heap.size, 0, none⟩) 0 0) 0 [] := World.ownsRow_lit w #[] 0 (Nat.le_refl _) (Nat.zero_le _) rfl
  go_enter Tryd.func44, Tryd.ntmps44
  go_wp2
  go_loopw [5, 6] (fun v i wr => ∃ j : Nat, j ≤ 2 ∧ i = .int .i64 (1 - (j : Int)) ∧ wr.ownsRow w.heap.size 5 1 v j (((numZ u).take j).map (Value.int .u8)) ∧ (0 < j → ∃ g cap, v = .slice (some ⟨g, 0, none⟩) j cap) ∧ Below w.heap.size w wr) (fun _ i _ => (intOf i + 1).toNat)
  case atStart => exact ⟨0, by omega, rfl, hown0, fun h => absurd h (by omega), (Below.refl _ _).alloc (Nat.le_refl _) _⟩
  case round =>
    obtain ⟨j, hj, rfl, hown, hform, hb⟩ := hrel
    have hbs : w.heap.size ≤ wr.heap.size := hb.size
    clear hown0
    by_cases hlt : j < 2
    · obtain ⟨z, hz⟩ : ∃ z, (numZ u).take (j + 1) = (numZ u).take j ++ [z] ∧ z = (numZ u).getD j 0 := by
        refine ⟨_, ?_, rfl⟩
        rw [List.take_succ_eq_append_getElem (by simp [numZ]; omega), List.getD_eq_getElem?_getD, List.getElem?_eq_getElem (by simp [numZ]; omega)]
        rfl
      have HZ : Hid ((numZ u).take (j + 1) = (numZ u).take j ++ [z]) := hz.1
      have hzv := hz.2
      clear hz
      obtain ⟨av, cv, hv⟩ : ∃ a cap, (_ : Value) = .slice a j cap := by
        rcases own_form hown with ⟨h, rfl⟩ | ⟨g, cap, h, _, _⟩
        · exact ⟨none, 0, h⟩
        · exact ⟨_, cap, h⟩
      subst hv
      clear hform
      rcases j with _ | _ | j
      all_goals try omega
      all_goals
        simp only [numZ, List.getD_cons_zero, List.getD_cons_succ] at hzv
        subst hzv
        go_wp2_with (at_builtin; refine wpList_append_lies _ rfl (.tmp 14) (.tmp 21) 54 rfl w.heap.size 5 i0 (.int .u8 0) 1 1 Tryd.underlying54 hi hz0 hz1 hz2 rfl (by omega) _ _ _ rfl (hown.alloc _) ⟨wr.heap.size, 0, none⟩ 1 1 [_] rfl rfl (cell_one_new wr _ _) (by intro u hu; simp at hu; subst hu; rfl) (by omega) (by unfold maxLen; omega) (by omega) (by simp; omega) (wr.heap.size + 1) (by simp) ?_; intro g cp w1 hown1 hgr1 hat1 hlt1)
      all_goals
        have hb1 : Below w.heap.size w w1 := (hb.alloc hbs _).grown hgr1 (by simp; omega) (fun j hj => (hown.lt j hj).1)
        have hown2 := hown1
        rw [← List.map_singleton (f := Value.int IntKind.u8), ← List.map_append, ← HZ.out] at hown2
        clear hown1 hgr1 hat1 hlt1 hown
        go_roundw
        case rel => first | exact ⟨1, by omega, rfl, hown2, fun _ => ⟨g, cp, rfl⟩, hb1⟩ | exact ⟨2, by omega, rfl, hown2, fun _ => ⟨g, cp, rfl⟩, hb1⟩
        case measure => simp [intOf]
    · have e : j = 2 := by omega
      subst e
      obtain ⟨g, cap, rfl⟩ := hform (by omega)
      go_wp2
      go_ret
      exact ⟨g, cap, rfl, hown, hb⟩

end Go.Proofs.YtcokbogicbdoaaaDoor
