/-
  Worlds ahead of an alloc and behind it.
-/
import Derived.Test.YtcokbogicbdoaaaDoorZzab
import Derived.WalkKit
import Derived.WalkSpells
import Derived.WalkLawsBesides
import Derived.Deep.QuietTactic
import Derived.BigQuiet
import Derived.Deep.RegionHeld3
import Derived.Deep.DrawnRows
import Derived.Test.YtcokbogicbdoaaaDoorFbq
import Derived.Test.YtcokbogicbdoaaaDoorRsq
import Derived.Test.YtcokbogicbdoaaaDoorGgq
import Derived.Test.YtcokbogicbdoaaaDoorRg
namespace Go.Proofs.YtcokbogicbdoaaaDoor
open Go Go.RowKit
attribute [local go_sem ↓] Go.wp_at_zero Go.wp_at_succ

theorem infoI : (Tryd.prog.info? 3).map (fun i => (i.zero, i.size, i.bytes)) = some (some (Value.int .i64 0), 1, 8) := by kernel_rfl
set_option maxRecDepth 100000 in
set_option maxHeartbeats 1000000 in
theorem c_toI (a : Option Addr) (n cap : Nat) (ss : List (Int)) (w : World) (hr : RdV w a n (ss.map (Value.int .i64))) (hn : n ≤ 1048576) :
    Calls Tryd.prog 48 #[.slice a n cap] w fun e w' => e = .returned (.slice (some ⟨w.heap.size, 0, none⟩) n n) ∧ w'.ownsRow w.heap.size 3 1 (.slice (some ⟨w.heap.size, 0, none⟩) n n) n (ss.map (Value.int .i64)) ∧ Below w.heap.size w w' := by
  obtain ⟨hl, hcs⟩ := hr
  obtain ⟨i0, hi, hz0, hz1, hz2⟩ := info_parts infoI
  go_enter Tryd.func48, Tryd.ntmps48
  go_wp2_with (at_make; refine wpList_make_full _ rfl (.tmp 6) (.tmp 6) 24 rfl w.heap.size 3 i0 (Value.int .i64 0) 1 Tryd.underlying24 hi hz0 hz1 .i64 .i64 _ _ n rfl rfl rfl rfl (by rw [hz2]; omega) (by unfold maxLen; omega) (Nat.le_refl _) ?_; intro w1 hown hgrow)
  go_loopw [4] (fun i wr => ∃ k : Nat, k ≤ n ∧ i = .int .i64 k ∧ wr.ownsRow w.heap.size 3 1 (.slice (some ⟨w.heap.size, 0, none⟩) n n) n (partV (Value.int .i64 0) (ss.map (Value.int .i64)) n k) ∧ Below w.heap.size w wr) (fun i _ => n - (intOf i).toNat)
  case atStart => exact ⟨0, by omega, rfl, by rw [← partV_zero (Value.int .i64 0) rfl (ss.map (Value.int .i64)) n]; exact hown, (Below.refl _ _).grown hgrow (Nat.le_refl _) (fun k h => by cases h)⟩
  case round =>
    obtain ⟨k, hk, rfl, hown, hb⟩ := hrel
    by_cases hlt : k < n
    · obtain ⟨b, off, rfl, hbl, hc⟩ := hcs (by omega)
      obtain ⟨x, hx⟩ : ∃ x, x = ss.getD k (0) := ⟨_, rfl⟩
      have hg : (ss.map (Value.int .i64))[k]? = some ((Value.int .i64) x) := by rw [hx]; exact map_get _ _ _ _ (by simpa using (show k < (ss.map (Value.int .i64)).length by omega))
      have hck : wr.cell? ⟨b, off + k, none⟩ = some ((Value.int .i64) x) := by rw [hb.cell (p := ⟨b, off + k, none⟩) hbl, hc k hlt, hg]
      obtain ⟨old, hold⟩ : ∃ old, wr.cell? ⟨w.heap.size, k, none⟩ = some old := by
        rw [hown.cellAt k (by omega)]
        exact ⟨_, List.getElem?_eq_getElem (by rw [hown.1]; omega)⟩
      have hfz := hown.frozenAt k
      have hown2 := (hown.stored k ((Value.int .i64) x)).1
      rw [partV_step _ _ n k _ hl hlt hg] at hown2
      have HO : Hid (_) := hown2
      clear hown2 hc hcs hgrow hx hg
      go_wp2
      go_roundw
      case rel => exact ⟨k + 1, by omega, by go_num, HO.out, hb.setCell (Nat.le_refl _) _⟩
      case measure => simp [intOf]; omega
    · have e : k = n := by omega
      subst e
      rw [partV_full _ _ k hl] at hown
      go_wp2
      go_ret
      exact ⟨rfl, hown, hb⟩
def sameToI (zs zs' : List (Int)) (k : Nat) : Prop := ∀ j, j < k → zs.getD j (0) = zs'.getD j (0)
theorem same_allI {zs zs' : List (Int)} (hl : zs.length = zs'.length) (h : sameToI zs zs' zs.length) : zs = zs' := by
  apply List.ext_getElem hl
  intro i h1 h2
  have := h i h1
  rwa [List.getD_eq_getElem?_getD, List.getElem?_eq_getElem h1, List.getD_eq_getElem?_getD, List.getElem?_eq_getElem h2] at this
set_option maxRecDepth 100000 in
set_option maxHeartbeats 1000000 in
theorem c_eqI (a a' : Option Addr) (n cap n' cap' : Nat) (zs zs' : List (Int)) (w : World) (hr : RdV w a n (zs.map (Value.int .i64))) (hr' : RdV w a' n' (zs'.map (Value.int .i64))) (hn : n ≤ 1048576) (hn' : n' ≤ 1048576) :
    Calls Tryd.prog 57 #[.slice a n cap, .slice a' n' cap'] w fun e w' => e = .returned (.bool (decide (zs = zs'))) ∧ ∃ q, w' = w.drewN q := by
  obtain ⟨hl, hcs⟩ := hr
  obtain ⟨hl', hcs'⟩ := hr'
  simp only [List.length_map] at hl hl'
  by_cases hnn : n = n'
  · subst hnn
    have hll : zs.length = zs'.length := by omega
    go_enter Tryd.func57, Tryd.ntmps57
    go_wp2
    go_loopw [5] (fun i wr => ∃ k : Nat, k ≤ n ∧ i = .int .i64 k ∧ Hid (sameToI zs zs' k) ∧ ∃ q, wr = w.drewN q) (fun i _ => n - (intOf i).toNat)
    case atStart => exact ⟨0, by omega, rfl, fun j h => absurd h (by omega), 0, rfl⟩
    case round =>
      obtain ⟨k, hk, rfl, HS, q, rfl⟩ := hrel
      by_cases hlt : k < n
      · obtain ⟨b, off, rfl, _, hc⟩ := hcs (by omega)
        obtain ⟨b', off', rfl, _, hc'⟩ := hcs' (by omega)
        obtain ⟨z, hz⟩ : ∃ z, z = zs.getD k (0) := ⟨_, rfl⟩
        obtain ⟨z', hz'⟩ : ∃ z, z = zs'.getD k (0) := ⟨_, rfl⟩
        have hck : w.cell? ⟨b, off + k, none⟩ = some ((Value.int .i64) z) := by rw [hz, hc k hlt]; exact map_get _ _ _ _ (by omega)
        have hck' : w.cell? ⟨b', off' + k, none⟩ = some ((Value.int .i64) z') := by rw [hz', hc' k hlt]; exact map_get _ _ _ _ (by omega)
        have g1 : (0 : Int) ≤ (k : Int) := by omega
        have g2 : (k : Int) < (n : Int) := by omega
        have HZ : Hid (z = zs.getD k (0)) := hz
        have HZ' : Hid (z' = zs'.getD k (0)) := hz'
        clear hc hc' hcs hcs' hz hz'
        by_cases he : z = z'
        · have HE : Hid (z = z') := he
          have he1 : (z != z') = false := by simp [he]
          clear he
          go_wp2_with fail
          go_quiet (fail)
          go_wp2
          go_roundw
          case rel => exact ⟨k + 1, by omega, by go_num, fun j hj => if e : j = k then by rw [e, ← HZ.out, ← HZ'.out]; exact HE.out else HS.out j (by omega), _, rfl⟩
          case measure => simp [intOf]; omega
        · have HE : Hid (¬ z = z') := he
          have he1 : (z != z') = true := by simpa using he
          clear he
          go_wp2_with fail
          go_quiet (fail)
          go_wp2
          go_ret
          exact ⟨ret_bool (decide_eq_false fun e => HE.out (by rw [HZ.out, HZ'.out, e])).symm, _, World.drewN_drewN _ _ _⟩
      · have e : k = n := by omega
        subst e
        go_wp2
        go_ret
        exact ⟨ret_bool (decide_eq_true (same_allI hll (by rw [hl]; exact HS.out))).symm, q, rfl⟩
  · have hne : ((n : Int) != (n' : Int)) = true := by simp; omega
    go_enter Tryd.func57, Tryd.ntmps57
    go_wp2
    go_ret
    exact ⟨ret_bool (decide_eq_false fun e => hnn (by rw [← hl, ← hl', e])).symm, 0, rfl⟩

end Go.Proofs.YtcokbogicbdoaaaDoor
namespace Go.Proofs.YtcokbogicbdoaaaDoor
open Go Go.RowKit
attribute [local go_sem ↓] Go.wp_at_zero Go.wp_at_succ

/-- The marks of numbers: k0, k0 + 1, .. -/
def marksI (k0 n : Nat) : List Int := (List.range n).map fun i => ((k0 + i : Nat) : Int)
theorem marksI_get (k0 n k : Nat) (h : k < n) : ((marksI k0 n).map (Value.int .i64))[k]? = some (.int .i64 ((k0 + k : Nat) : Int)) := by
  unfold marksI; rw [List.getElem?_map, List.getElem?_map, List.getElem?_range h]; rfl
theorem marksI_len (k0 n : Nat) : ((marksI k0 n).map (Value.int .i64)).length = n := by simp [marksI]
set_option maxRecDepth 100000 in
set_option maxHeartbeats 1000000 in
theorem c_szI (a : Option Addr) (n cap : Nat) (left : Int) (w : World) (hm : n ≤ maxLen) (h0 : 0 ≤ left) (h1 : left ≤ 1048576) :
    Calls Tryd.prog 37 #[.slice a n cap, .int .i64 left] w fun e w' => e = .returned (.int .i64 (if left - n < 0 then -1 else left - n)) ∧ w' = w := by
  unfold maxLen at hm
  by_cases hn : left - n < 0
  · rw [if_pos hn]
    go_enter Tryd.func37, Tryd.ntmps37
    go_wp2
    go_ret
    exact ⟨rfl, rfl⟩
  · rw [if_neg hn]
    go_enter Tryd.func37, Tryd.ntmps37
    go_wp2
    go_ret
    exact ⟨rfl, rfl⟩

/-! ### The marks of texts -/

end Go.Proofs.YtcokbogicbdoaaaDoor
namespace Go.Proofs.YtcokbogicbdoaaaDoor
open Go Go.RowKit

end Go.Proofs.YtcokbogicbdoaaaDoor
namespace Go.Proofs.YtcokbogicbdoaaaDoor
open Go Go.RowKit
attribute [local go_sem ↓] Go.wp_at_zero Go.wp_at_succ


end Go.Proofs.YtcokbogicbdoaaaDoor
namespace Go.Proofs.YtcokbogicbdoaaaDoor.G
open Go Go.RowKit
attribute [local go_sem ↓] Go.wp_at_zero Go.wp_at_succ

def newG : DG := ⟨0, [⟨#[]⟩, ⟨#[]⟩, ⟨#[]⟩, ⟨#[]⟩]⟩
theorem new_fit : FitG newG := ⟨by simp [newG], fun s h => by simp [newG] at h; subst h; simp [ByteArray.size]⟩
theorem own_new {w1 : World} {B : Nat} {c : Nat} (h : w1.ownsRow B 9 1 (.slice (some ⟨B, 0, none⟩) 4 c) 4 (madeCells (Value.string ⟨#[]⟩).cells (4 * 1)).toList) : OwnG w1 B w1.heap.size ⟨0, some ⟨B, 0, none⟩, 4, c⟩ newG := by
  refine ⟨rfl, ?_, Nat.le_refl _, fun g e => h.lt g (by rw [ob_slice]; exact e)⟩
  have e : (madeCells (Value.string ⟨#[]⟩).cells (4 * 1)).toList = newG.S.map Value.string := by rw [show (Value.string ⟨#[]⟩).cells = #[Value.string ⟨#[]⟩] from rfl, toList_madeCells_one]; rfl
  rw [← e]
  exact h

set_option maxRecDepth 100000 in
set_option maxHeartbeats 2000000 in
theorem c_specNew (w : World) : Calls Tryd.prog 41 #[] w fun e w' => (∃ h' : HG, e = .returned (.agg #[.int .i64 h'.l, .slice h'.a h'.n h'.c]) ∧ OwnG w' w.heap.size w'.heap.size h' newG) ∧ Below w.heap.size w w' := by
  obtain ⟨i0, hi, hz0, hz1, hz2⟩ := info_parts infoS
  obtain ⟨V, hV⟩ : ∃ V, w.alloc (.cells #[.int .i64 0, .slice none 0 0] 49) = V := ⟨_, rfl⟩
  have HB : Hid (Below w.heap.size w V) := by unfold Hid; rw [← hV]; exact (Below.refl _ _).alloc (Nat.le_refl _) _
  have BR : Hid (Box V w.heap.size 49 #[.int .i64 0, .slice none 0 0]) := by unfold Hid; rw [← hV]; exact Box.new _ _ _
  have l0 := BR.out.lt
  go_enter Tryd.func41, Tryd.ntmps41
  go_wp2_with (at_make; refine wpList_make_full _ rfl (.const (.int .i64 4)) (.const (.int .i64 4)) 22 rfl V.heap.size 9 i0 (Value.string ⟨#[]⟩) 1 Tryd.underlying22 hi hz0 hz1 .i64 .i64 _ _ 4 rfl rfl rfl rfl (by rw [hz2]; omega) (by unfold maxLen; omega) (Nat.le_refl _) ?_; intro w1 hown hgrow; have hb : Below V.heap.size V w1 := (Below.refl _ _).grown hgrow (Nat.le_refl _) (fun k h => by cases h); have O1 : Hid (OwnG w1 V.heap.size w1.heap.size ⟨0, some ⟨V.heap.size, 0, none⟩, 4, 4⟩ newG) := own_new hown; have B1 : Hid (Below w.heap.size w w1) := HB.out.trans (hb.mono HB.out.size); have BR1 : Hid (Box w1 w.heap.size 49 #[.int .i64 0, .slice none 0 0]) := BR.out.belowS hb; obtain ⟨u0, u1⟩ := box2 BR1.out; have t0 := BR1.out.thaw 0; have t1 := BR1.out.thaw 1; clear hown hgrow hb HB BR hV)
  refine retG1 Tryd.results41 rfl rfl (put2_box BR1.out _ _) ⟨⟨⟨0, some ⟨V.heap.size, 0, none⟩, 4, 4⟩, rfl, ?_⟩, put2_below B1.out (Nat.le_refl _) _ _⟩
  have := O1.out.put2 (r := w.heap.size) (.inl (by omega)) (.int .i64 0) (.slice (some ⟨V.heap.size, 0, none⟩) 4 4)
  exact this.wide (B' := w.heap.size) (by omega)

set_option maxRecDepth 100000 in
set_option maxHeartbeats 2000000 in
theorem c_implNew (w : World) : Calls Tryd.prog 52 #[] w fun e w' => (∃ h' : HG, e = .returned (.agg #[.int .i64 h'.l, .slice h'.a h'.n h'.c]) ∧ OwnG w' w.heap.size w'.heap.size h' newG) ∧ Below w.heap.size w w' := by
  obtain ⟨i0, hi, hz0, hz1, hz2⟩ := info_parts infoS
  obtain ⟨V, hV⟩ : ∃ V, w.alloc (.cells #[.int .i64 0, .slice none 0 0] 49) = V := ⟨_, rfl⟩
  have HB : Hid (Below w.heap.size w V) := by unfold Hid; rw [← hV]; exact (Below.refl _ _).alloc (Nat.le_refl _) _
  have BR : Hid (Box V w.heap.size 49 #[.int .i64 0, .slice none 0 0]) := by unfold Hid; rw [← hV]; exact Box.new _ _ _
  have l0 := BR.out.lt
  go_enter Tryd.func52, Tryd.ntmps52
  go_wp2_with (at_make; refine wpList_make_full _ rfl (.const (.int .i64 4)) (.const (.int .i64 4)) 22 rfl V.heap.size 9 i0 (Value.string ⟨#[]⟩) 1 Tryd.underlying22 hi hz0 hz1 .i64 .i64 _ _ 4 rfl rfl rfl rfl (by rw [hz2]; omega) (by unfold maxLen; omega) (Nat.le_refl _) ?_; intro w1 hown hgrow; have hb : Below V.heap.size V w1 := (Below.refl _ _).grown hgrow (Nat.le_refl _) (fun k h => by cases h); have O1 : Hid (OwnG w1 V.heap.size w1.heap.size ⟨0, some ⟨V.heap.size, 0, none⟩, 4, 4⟩ newG) := own_new hown; have B1 : Hid (Below w.heap.size w w1) := HB.out.trans (hb.mono HB.out.size); have BR1 : Hid (Box w1 w.heap.size 49 #[.int .i64 0, .slice none 0 0]) := BR.out.belowS hb; obtain ⟨u0, u1⟩ := box2 BR1.out; have t0 := BR1.out.thaw 0; have t1 := BR1.out.thaw 1; clear hown hgrow hb HB BR hV)
  refine retG1 Tryd.results52 rfl rfl (put2_box BR1.out _ _) ⟨⟨⟨0, some ⟨V.heap.size, 0, none⟩, 4, 4⟩, rfl, ?_⟩, put2_below B1.out (Nat.le_refl _) _ _⟩
  have := O1.out.put2 (r := w.heap.size) (.inl (by omega)) (.int .i64 0) (.slice (some ⟨V.heap.size, 0, none⟩) 4 4)
  exact this.wide (B' := w.heap.size) (by omega)

end Go.Proofs.YtcokbogicbdoaaaDoor.G
namespace Go.Proofs.YtcokbogicbdoaaaDoor
open Go Go.RowKit
attribute [local go_sem ↓] Go.wp_at_zero Go.wp_at_succ


def famX (w : World) (z : Obj) (j : Nat) : World := if j % 2 = 0 then w.drewN (j / 2) else (w.alloc z).drewN (j / 2)
theorem famX_cell {w : World} {z : Obj} {b o : Nat} {u : Value} (h : w.cell? ⟨b, o, none⟩ = some u) (j : Nat) : (famX w z j).cell? ⟨b, o, none⟩ = some u := by
  unfold famX
  split
  · exact h
  · exact far6 (below_drewN ((Below.refl _ _).alloc (Nat.le_refl _) _) _) h
theorem famX0 (w : World) (z : Obj) (k : Nat) : ∃ j, w.drewN k = famX w z j := ⟨2 * k, by unfold famX; rw [if_pos (by omega)]; congr 1; omega⟩
theorem famX1 (w : World) (z : Obj) (k : Nat) : ∃ j, (w.alloc z).drewN k = famX w z j := ⟨2 * k + 1, by unfold famX; rw [if_neg (by omega)]; congr 1; omega⟩

end Go.Proofs.YtcokbogicbdoaaaDoor
