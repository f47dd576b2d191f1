/-
  Checkpoints as the specification writes them: of no pair, and of one pair each.
-/
import Derived.Test.YtbjefhdacfijpaaDoorRk
import Derived.Deep.AppendLies
import Derived.Deep.RegionLawGrows
namespace Go.Proofs.YtbjefhdacfijpaaDoor
open Go Go.RowKit
attribute [local go_sem ↓] Go.wp_at_zero Go.wp_at_succ


def chkP (n : Nat) (x y : Int) : List Int := if n = 0 then [] else [x, y]
theorem chkP_len (n : Nat) (x y : Int) (h : n ≤ 1) : (chkP n x y).length = 2 * n := by
  unfold chkP; split
  · next h0 => rw [h0]; rfl
  · show 2 = _; omega
def PairAt (w : World) (a : Option Addr) (x y : Int) : Prop := ∃ b off, a = some ⟨b, off, none⟩ ∧ b < w.heap.size ∧ w.cell? ⟨b, off, none⟩ = some (.int .i64 x) ∧ w.cell? ⟨b, off + 1, none⟩ = some (.int .i64 y)
theorem cell_one_b (w : World) (x : Value) (t : TypeId) : ∀ j u, [x][j]? = some u → (w.alloc (.cells #[x] t)).cell? ((⟨w.heap.size, 0, none⟩ : Addr).add j) = some u := by
  intro j u hj
  cases j with
  | zero =>
    simp at hj
    subst hj
    simp [Addr.add, (Box.new w #[x] t).cell 0]
  | succ j => simp at hj
set_option maxRecDepth 100000 in
set_option maxHeartbeats 4000000 in
theorem c_chk (n : Nat) (a a' : Option Addr) (c c' : Nat) (x y x' y' : Int) (w : World) (hn : n ≤ 1) (hp : n = 1 → PairAt w a x y) (hp' : n = 1 → PairAt w a' x' y') (hx : 0 ≤ x ∧ x < 256 ∧ 0 ≤ y ∧ y < 256) (hx' : 0 ≤ x' ∧ x' < 256 ∧ 0 ≤ y' ∧ y' < 256) :
    Calls Tryd.prog 151 #[.slice a n c, .slice a' n c'] w fun e w' => e = .returned (.string (strOfNums ((([(n : Int)] ++ chkP n x y) ++ [(n : Int)]) ++ chkP n x' y'))) ∧ Below w.heap.size w w' := by
  obtain ⟨i0, hi, hz0, hz1, hz2⟩ := info_parts infoB
  have HP : Hid (n = 1 → PairAt w a x y) := hp
  have HP' : Hid (n = 1 → PairAt w a' x' y') := hp'
  clear hp hp'
  have hw0 : IntKind.u8.wrap (n : Int) = (n : Int) := by rw [IntKind.wrap_u8']; omega
  obtain ⟨V, hV⟩ : ∃ V, w.alloc (.cells #[.int .u8 (n : Int)] 5) = V := ⟨_, rfl⟩
  have HB : Hid (Below w.heap.size w V) := by unfold Hid; rw [← hV]; exact (Below.refl _ _).alloc (Nat.le_refl _) _
  have OV : Hid (V.ownsRow w.heap.size 5 1 (.slice (some ⟨w.heap.size, 0, none⟩) 1 1) 1 (([(n : Int)] ++ chkP 0 x y).map (Value.int .u8))) := by
    unfold Hid; rw [← hV]
    exact World.ownsRow_lit w #[.int .u8 (n : Int)] 1 (Nat.le_refl _) (by unfold maxLen; omega) rfl
  go_enter Tryd.func151, Tryd.ntmps151
  go_wp2
  go_loopw [5, 6] (fun v i wr => ∃ k : Nat, k ≤ n ∧ i = .int .i64 (k : Int) ∧ wr.ownsRow w.heap.size 5 1 v (1 + 2 * k) (([(n : Int)] ++ chkP k x y).map (Value.int .u8)) ∧ Below w.heap.size w wr) (fun _ i _ => n - (intOf i).toNat)
  case atStart => exact ⟨0, by omega, rfl, OV.out, HB.out⟩
  case round =>
    obtain ⟨k, hk, rfl, hown, hb⟩ := hrel
    obtain ⟨av, cv, hv⟩ := own_slice' hown
    subst hv
    have hbs : w.heap.size ≤ wr.heap.size := hb.size
    have HB0 : Hid (Below w.heap.size w wr) := hb
    have HO0 : Hid (wr.ownsRow w.heap.size 5 1 (.slice av (1 + 2 * k) cv) (1 + 2 * k) (([(n : Int)] ++ chkP k x y).map (Value.int .u8))) := hown
    clear hown hb HB OV
    by_cases hlt : k < n
    · have HK : Hid (k = 0) := by unfold Hid; omega
      obtain ⟨b, off, rfl, hbl, e0, e1⟩ := HP.out (by omega)
      have f0 : wr.cell? ⟨b, off + k * 2, none⟩ = some (.int .i64 x) := by rw [HK.out]; exact (HB0.out.cell (p := ⟨b, off, none⟩) hbl).trans e0
      have f1 : wr.cell? ⟨b, off + k * 2 + 1, none⟩ = some (.int .i64 y) := by rw [HK.out]; exact (HB0.out.cell (p := ⟨b, off + 1, none⟩) hbl).trans e1
      have hw1 : IntKind.u8.wrap x = x := by rw [IntKind.wrap_u8']; omega
      have hw2 : IntKind.u8.wrap y = y := by rw [IntKind.wrap_u8']; omega
      clear e0 e1
      go_wp2_with fail
      go_region_law (refine step_append_lies _ (by rfl) (.tmp 18) (.tmp 31) 25 (by rfl) w.heap.size 5 i0 (.int .u8 0) 1 1 Tryd.underlying25 hi hz0 hz1 hz2 rfl (by omega) (.slice av (1 + 2 * k) cv) (1 + 2 * k) (([(n : Int)] ++ chkP k x y).map (Value.int .u8)) (by rfl) (by exact HO0.out.alloc _) ⟨wr.heap.size, 0, none⟩ 2 2 [.int .u8 x, .int .u8 y] (by rfl) (by rfl) (by exact cells2w _ _ _ _) (by intro u hu; simp at hu; rcases hu with rfl | rfl <;> rfl) (by omega) (by unfold maxLen; omega) (by omega) (by simp; omega) _ rfl ?_; intro g2 c2 w2 o2 hg2 ha2 hl2)
      all_goals
        have hgA : (wr.alloc (.cells #[.int .u8 x, .int .u8 y] 5)).drew.grownBy w2 (Value.slice av (1 + 2 * k) cv).ownBlock := hg2
        have hb2 : Below w.heap.size w w2 := (HB0.out.alloc HB0.out.size _).drew.grown hgA (by simp; omega) (fun b e => (HO0.out.lt b e).1)
        have ho2 : w2.ownsRow w.heap.size 5 1 (.slice (some ⟨g2, 0, none⟩) (1 + 2 * k + 2) c2) (1 + 2 * (k + 1)) (([(n : Int)] ++ chkP (k + 1) x y).map (Value.int .u8)) := by
          have e := HK.out
          clear hgA hg2 ha2 HO0 f0 f1
          subst e
          exact o2
        clear o2 hg2 ha2 hl2 hgA
        go_wp2
        go_roundw
        case rel => exact ⟨k + 1, by omega, by go_num, ho2, hb2⟩
        case measure => simp [intOf]; omega
    · obtain rfl : k = n := by omega
      have HL : Hid ((([(k : Int)] ++ chkP k x y) ++ [(k : Int)]).length = 2 + 2 * k) := by unfold Hid; rw [List.length_append, List.length_append, chkP_len k x y hn]; simp; omega
      obtain ⟨U, hU⟩ : ∃ U, wr.alloc (.cells #[.int .u8 (k : Int)] 5) = U := ⟨_, rfl⟩
      go_wp2_with (at_builtin; refine app_any _ rfl (.tmp 33) (.tmp 37) 25 rfl w.heap.size 5 i0 (.int .u8 0) 1 1 Tryd.underlying25 hi hz0 hz1 hz2 rfl (by omega) (.slice av (1 + 2 * k) cv) (1 + 2 * k) (([(k : Int)] ++ chkP k x y).map (Value.int .u8)) rfl (by rw [← hU]; exact HO0.out.alloc _) (some ⟨wr.heap.size, 0, none⟩) 1 1 [.int .u8 (k : Int)] rfl (fun h => by cases h) rfl (fun ad e => by cases e; rw [← hU]; exact cell_one_b _ _ _) (by intro u hu; simp at hu; subst hu; rfl) (by unfold maxLen; omega) (by omega) (by rw [← hU]; simp; omega) ?_; intro a5 c5 w5 ho5 hg5 hk5)
      have hbU : Below w.heap.size w U := by rw [← hU]; exact HB0.out.alloc HB0.out.size _
      have HB5 : Hid (Below w.heap.size w w5) := hbU.grown hg5 hbU.size (fun b e => (HO0.out.lt b e).1)
      have HO5 : Hid (w5.ownsRow w.heap.size 5 1 (.slice a5 (1 + 2 * k + 1) c5) (2 + 2 * k + 2 * 0) (((([(k : Int)] ++ chkP k x y) ++ [(k : Int)]) ++ chkP 0 x' y').map (Value.int .u8))) := by
        have e1 : 2 + 2 * k + 2 * 0 = 1 + 2 * k + 1 := by omega
        have e2 : ((([(k : Int)] ++ chkP k x y) ++ [(k : Int)]) ++ chkP 0 x' y').map (Value.int .u8) = ([(k : Int)] ++ chkP k x y).map (Value.int .u8) ++ [.int .u8 (k : Int)] := by
          rw [show chkP 0 x' y' = [] from rfl, List.append_nil, List.map_append]; rfl
        unfold Hid; rw [e1, e2]; exact ho5
      clear ho5 hg5 hk5 hbU hU HO0 HB0
      go_wp2
      go_loopw [5, 7] (fun v i wr => ∃ j : Nat, j ≤ k ∧ i = .int .i64 (j : Int) ∧ wr.ownsRow w.heap.size 5 1 v (2 + 2 * k + 2 * j) (((([(k : Int)] ++ chkP k x y) ++ [(k : Int)]) ++ chkP j x' y').map (Value.int .u8)) ∧ Below w.heap.size w wr) (fun _ i _ => k - (intOf i).toNat)
      case atStart => exact ⟨0, by omega, rfl, HO5.out, HB5.out⟩
      case round =>
        obtain ⟨j, hj, rfl, hown, hb⟩ := hrel
        obtain ⟨av, cv, hv⟩ := own_slice' hown
        subst hv
        have hbs : w.heap.size ≤ wr.heap.size := hb.size
        have HB0 : Hid (Below w.heap.size w wr) := hb
        have HO0 : Hid (wr.ownsRow w.heap.size 5 1 (.slice av (2 + 2 * k + 2 * j) cv) (2 + 2 * k + 2 * j) (((([(k : Int)] ++ chkP k x y) ++ [(k : Int)]) ++ chkP j x' y').map (Value.int .u8))) := hown
        clear hown hb HB5 HO5
        by_cases hlt2 : j < k
        · have HJ : Hid (j = 0) := by unfold Hid; omega
          obtain ⟨b, off, rfl, hbl, e0, e1⟩ := HP'.out (by omega)
          have f0 : wr.cell? ⟨b, off + j * 2, none⟩ = some (.int .i64 x') := by rw [HJ.out]; exact (HB0.out.cell (p := ⟨b, off, none⟩) hbl).trans e0
          have f1 : wr.cell? ⟨b, off + j * 2 + 1, none⟩ = some (.int .i64 y') := by rw [HJ.out]; exact (HB0.out.cell (p := ⟨b, off + 1, none⟩) hbl).trans e1
          have hw1 : IntKind.u8.wrap x' = x' := by rw [IntKind.wrap_u8']; omega
          have hw2 : IntKind.u8.wrap y' = y' := by rw [IntKind.wrap_u8']; omega
          clear e0 e1
          go_wp2_with fail
          go_region_law (refine step_append_lies _ (by rfl) (.tmp 45) (.tmp 58) 25 (by rfl) w.heap.size 5 i0 (.int .u8 0) 1 1 Tryd.underlying25 hi hz0 hz1 hz2 rfl (by omega) (.slice av (2 + 2 * k + 2 * j) cv) (2 + 2 * k + 2 * j) (((([(k : Int)] ++ chkP k x y) ++ [(k : Int)]) ++ chkP j x' y').map (Value.int .u8)) (by rfl) (by exact HO0.out.alloc _) ⟨wr.heap.size, 0, none⟩ 2 2 [.int .u8 x', .int .u8 y'] (by rfl) (by rfl) (by exact cells2w _ _ _ _) (by intro u hu; simp at hu; rcases hu with rfl | rfl <;> rfl) (by omega) (by unfold maxLen; omega) (by omega) (by simp; omega) _ rfl ?_; intro g2 c2 w2 o2 hg2 ha2 hl2)
          all_goals
            have hgA : (wr.alloc (.cells #[.int .u8 x', .int .u8 y'] 5)).drew.grownBy w2 (Value.slice av (2 + 2 * k + 2 * j) cv).ownBlock := hg2
            have hb2 : Below w.heap.size w w2 := (HB0.out.alloc HB0.out.size _).drew.grown hgA (by simp; omega) (fun b e => (HO0.out.lt b e).1)
            have ho2 : w2.ownsRow w.heap.size 5 1 (.slice (some ⟨g2, 0, none⟩) (2 + 2 * k + 2 * j + 2) c2) (2 + 2 * k + 2 * (j + 1)) (((([(k : Int)] ++ chkP k x y) ++ [(k : Int)]) ++ chkP (j + 1) x' y').map (Value.int .u8)) := by
              have e := HJ.out
              clear hgA hg2 ha2 HO0 f0 f1
              subst e
              have e3 : ((([(k : Int)] ++ chkP k x y) ++ [(k : Int)]) ++ chkP (0 + 1) x' y').map (Value.int .u8) = ((([(k : Int)] ++ chkP k x y) ++ [(k : Int)]) ++ chkP 0 x' y').map (Value.int .u8) ++ [.int .u8 x', .int .u8 y'] := by
                rw [show chkP 0 x' y' = [] from rfl, show chkP (0 + 1) x' y' = [x', y'] from rfl, List.append_nil, List.map_append]; rfl
              rw [e3]
              exact o2
            clear o2 hg2 ha2 hl2 hgA
            go_wp2
            go_roundw
            case rel => exact ⟨j + 1, by omega, by go_num, ho2, hb2⟩
            case measure => simp [intOf]; omega
        · obtain rfl : j = k := by omega
          have cv8 := conv8 (cap := cv) (RdV.own HO0.out)
          clear HO0
          go_wp2
          go_ret
          exact ⟨ret_str (by simp), HB0.out⟩

end Go.Proofs.YtbjefhdacfijpaaDoor
