/-
  How a disk that came in is read.
-/
import Derived.Test.YtfibdpfhfgnbiaaGreatDoorZzag
import Derived.ProofKit
import Derived.OpenShut
import Derived.SliceStrings
import Derived.ChangeSlices
import Derived.Lib.SmallJoins
import Derived.Deep.Slices
import Derived.Deep.Strs
import Derived.RangeFuncNested
import Derived.RangeFuncBound
import Derived.RangeFuncCalls
import Derived.RangeFuncLeaves
import Derived.Shelf.Abstract
import Derived.Shelf.RegionOpen
import Derived.WalkKit
import Derived.OwnWalkIn
import Derived.TacticsInMore
import Derived.LoopNIn
import Derived.LoopIn
import Derived.Test.YtfibdpfhfgnbiaaGreatDoorDkq
namespace Go.Proofs.YtfibdpfhfgnbiaaGreatDoor
open Go Go.RowKit Go.Shelf
attribute [local go_sem ↓] Go.wp_at_zero Go.wp_at_succ


abbrev BX := Nat × Int × ByteArray
def bkF (vs : List PP) (len j : Nat) : BX := (len - 1 - j, (vs.getD (len - 1 - j) dP).1, (vs.getD (len - 1 - j) dP).2)
def bkL (vs : List PP) (len k : Nat) : List BX := (List.range k).map (bkF vs len)
theorem bkL_succ (vs : List PP) (len k : Nat) : bkL vs len (k + 1) = bkL vs len k ++ [bkF vs len k] := by simp [bkL, List.range_succ]
theorem bkL_length (vs : List PP) (len k : Nat) : (bkL vs len k).length = k := by simp [bkL]
def encB (x : BX) : Array Value := #[.int .i64 (x.1 : Int), .agg #[.int .i64 x.2.1, .string x.2.2]]
set_option maxRecDepth 100000 in
set_option maxHeartbeats 4000000 in
theorem bk1_in (F : Fence) (n : Nat) (h84 : F.fn 305) (hro : F.round = none) (hn : 1 ≤ n) (l Bs n₀ : Nat) (a : Option Addr) (len cap : Nat) (vs : List PP) (hlen : len ≤ 1048576) (hb : ∀ b off, 0 < len → a = some ⟨b, off, none⟩ → b < n₀) (hBn : Bs < n₀) (J Jx : List BX → World → Prop)
    (hY : ∀ pre x W, J pre W → pre.length < len → YieldAt F (n - 1) Tryz.prog l (encB x) W fun e W' =>
      (e = .returned (.bool true) ∧ J (pre ++ [x]) W' ∧ Below n₀ W W') ∨ (e = .returned (.bool false) ∧ Jx (pre ++ [x]) W'))
    (W : World) (hBs : W.cell? ⟨Bs, 0, none⟩ = some (.slice a len cap)) (hr : RdP W a len vs) (h0 : J [] W) :
    CallsIn F n Tryz.prog 305 #[.func (.yield l) #[] #[], .pointer (some ⟨Bs, 0, none⟩)] W fun e W' => (∃ v, e = .returned v) ∧
      ((∃ ys, ys = bkL vs len len ∧ J ys W') ∨ (∃ pre, (∃ k, k ≤ len ∧ pre = bkL vs len k) ∧ Jx pre W')) := by
  have hl := hr.1
  refine callsIn_of_wp Tryz.func305 rfl h84 ?_ hro
  simp only [Tryz.ntmps305, List.size_toArray, List.length_cons, List.length_nil, Nat.reduceAdd, Nat.reduceSub, Array.replicate_succ, Array.replicate_zero, List.push_toArray, List.append_toArray, List.nil_append, List.cons_append]
  gi_wp2
  gi_loopw [3] (fun i wr => ((∃ p : Nat, i = .int .i64 p ∧ p < len ∧ J (bkL vs len (len - 1 - p)) wr) ∨ (i = .int .i64 (-1) ∧ J (bkL vs len len) wr)) ∧ Below n₀ W wr)
    (fun i _ => (intOf i + 1).toNat)
  case atStart =>
    refine ⟨?_, Below.refl _ _⟩
    rcases Nat.eq_zero_or_pos len with h | h
    · subst h
      exact .inr ⟨rfl, h0⟩
    · refine .inl ⟨len - 1, by go_num, by omega, ?_⟩
      rw [show len - 1 - (len - 1) = 0 by omega]
      exact h0
  case round =>
    obtain ⟨hrel, hnx⟩ := hrel
    have hBw : wr.cell? ⟨Bs, 0, none⟩ = some (.slice a len cap) := (hnx.cell (p := ⟨Bs, 0, none⟩) hBn).trans hBs
    rcases hrel with ⟨p, rfl, hp, hJs⟩ | ⟨rfl, hJs⟩
    · obtain ⟨b, off, rfl, hbl, hc⟩ := hr.2 (by omega)
      have hbn : b < n₀ := hb b off (by omega) rfl
      obtain ⟨⟨xa, xt⟩, hx⟩ : ∃ x, x = vs.getD p dP := ⟨_, rfl⟩
      obtain ⟨d0, d1⟩ := hc p hp
      rw [← hx] at d0 d1
      have e0 : wr.cell? ⟨b, off + p * 2, none⟩ = some (.int .i64 xa) := (hnx.cell (p := ⟨b, off + p * 2, none⟩) hbn).trans d0
      have e1 : wr.cell? ⟨b, off + p * 2 + 1, none⟩ = some (.string xt) := (hnx.cell (p := ⟨b, off + p * 2 + 1, none⟩) hbn).trans d1
      have hF : bkF vs len (len - 1 - p) = (p, xa, xt) := by unfold bkF; rw [show len - 1 - (len - 1 - p) = p by omega, ← hx]
      obtain ⟨fn, tmps, assign, body, hy, hR⟩ := hY _ (p, xa, xt) wr hJs (by rw [bkL_length]; omega)
      dsimp only [encB] at hy
      have HF : Hid (bkL vs len (len - 1 - p) ++ [(p, xa, xt)] = bkL vs len (len - 1 - p + 1)) := by unfold Hid; rw [bkL_succ, hF]
      clear hc hx d0 d1 hF
      gi_wp2
      refine hR.mono ?_
      rintro e W3 (⟨rfl, hJ3, hk3⟩ | ⟨rfl, hJx3⟩)
      · gi_wp2
        go_roundw
        case rel =>
          refine ⟨?_, hnx.trans hk3⟩
          rw [HF.out] at hJ3
          rcases Nat.eq_zero_or_pos p with h | h
          · subst h
            refine .inr ⟨by go_num, ?_⟩
            rw [show len - 1 - 0 + 1 = len by omega] at hJ3
            exact hJ3
          · refine .inl ⟨p - 1, by go_num, by omega, ?_⟩
            rw [show len - 1 - (p - 1) = len - 1 - p + 1 by omega]
            exact hJ3
        case measure => simp [intOf]
      · gi_wp2
        refine bodyPost_ret (results_none rfl _ _ _) rfl ?_
        rw [HF.out] at hJx3
        exact ⟨⟨_, rfl⟩, .inr ⟨_, ⟨len - 1 - p + 1, by omega, rfl⟩, hJx3⟩⟩
    · gi_wp2
      go_end0
      exact ⟨⟨_, rfl⟩, .inl ⟨_, rfl, hJs⟩⟩
set_option maxRecDepth 100000 in
set_option maxHeartbeats 1000000 in
theorem bk_in (F : Fence) (n : Nat) (h78 : F.fn 283) (hro : F.round = none) (a : Option Addr) (len cap : Nat) (w : World) :
    CallsIn F n Tryz.prog 283 #[.slice a len cap] w fun e w' => e = .returned (.func (.func 305) #[] #[.pointer (some ⟨w.heap.size, 0, none⟩)]) ∧ w' = w.alloc (.cells #[.slice a len cap] 40) := by
  refine callsIn_of_wp Tryz.func283 rfl h78 ?_ hro
  simp only [Tryz.ntmps283, List.size_toArray, List.length_cons, List.length_nil, Nat.reduceAdd, Nat.reduceSub, Array.replicate_succ, Array.replicate_zero, List.push_toArray, List.append_toArray, List.nil_append, List.cons_append]
  gi_wp2
  go_ret
  exact ⟨rfl, rfl⟩
theorem bk_stops (F : Fence) (n : Nat) (h84 : F.fn 305) (hro : F.round = none) (hn : 1 ≤ n) (Bs n₀ : Nat) (a : Option Addr) (len cap : Nat) (vs : List PP) (hlen : len ≤ 1048576) (w : World) (hBs : Bs < n₀) (hn₀ : n₀ ≤ w.heap.size)
    (hc : w.cell? ⟨Bs, 0, none⟩ = some (.slice a len cap)) (hr : RdP w a len vs) (hb : ∀ b off, 0 < len → a = some ⟨b, off, none⟩ → b < n₀) :
    SeqStopsK F n Tryz.prog 305 #[.pointer (some ⟨Bs, 0, none⟩)] encB (Below n₀) (fun ys => ys = bkL vs len len) (fun pre => ∃ k, k ≤ len ∧ pre = bkL vs len k) len w := fun l J Jx W hW _ _ hY h0 =>
  bk1_in F n h84 hro hn l Bs n₀ a len cap vs hlen hb hBs J Jx hY W ((hW.cell (p := ⟨Bs, 0, none⟩) (show Bs < w.heap.size by omega)).trans hc) (hr.below hW) h0

end Go.Proofs.YtfibdpfhfgnbiaaGreatDoor
namespace Go.Proofs.YtfibdpfhfgnbiaaGreatDoor
open Go Go.RowKit Go.Shelf
attribute [local go_sem] Oper.semAt_some
attribute [local go_sem ↓] Go.wp_at_zero Go.wp_at_succ


def fdB (ys : List BX) (x : Int) : Option BX := ys.find? fun y => decide (y.2.1 = x)
def vlB (ys : List BX) (x : Int) : ByteArray := ((fdB ys x).map fun y => y.2.2).getD ⟨#[]⟩
/-- What is read of a sector. -/
def rdS (S : List ByteArray) (C : List PP) (j : Nat) : ByteArray := ((fdB (bkL C C.length C.length) j).map fun y => y.2.2).getD (S.getD j ⟨#[]⟩)
theorem fdB_no {ys : List BX} {x : Int} {y : BX} (h : fdB ys x = none) (hy : ¬ y.2.1 = x) : fdB (ys ++ [y]) x = none := by
  unfold fdB at *; rw [List.find?_append, h]; simp [hy]
theorem fdB_yes {ys : List BX} {x : Int} {y : BX} (h : fdB ys x = none) (hy : y.2.1 = x) : fdB (ys ++ [y]) x = some y := by
  unfold fdB at *; rw [List.find?_append, h]; simp [hy]
theorem bkL_split (vs : List PP) (len k : Nat) (h : k ≤ len) : ∃ r, bkL vs len len = bkL vs len k ++ r := by
  refine ⟨((List.range' k (len - k))).map (bkF vs len), ?_⟩
  unfold bkL
  rw [← List.map_append]
  congr 1
  have h2 := List.range'_append_1 (s := 0) (m := k) (n := len - k)
  rw [Nat.zero_add, show k + (len - k) = len by omega] at h2
  rw [List.range_eq_range', List.range_eq_range', h2]
theorem rdS_hit {S : List ByteArray} {C : List PP} {j k : Nat} (hk : k ≤ C.length) {y : BX} (h : fdB (bkL C C.length k) j = some y) : rdS S C j = y.2.2 := by
  obtain ⟨r, hr⟩ := bkL_split C C.length k hk
  unfold rdS
  have : fdB (bkL C C.length C.length) j = some y := by rw [hr]; unfold fdB at *; rw [List.find?_append, h]; rfl
  rw [this]; rfl
theorem rdS_miss {S : List ByteArray} {C : List PP} {j : Nat} (h : fdB (bkL C C.length C.length) j = none) : rdS S C j = S.getD j ⟨#[]⟩ := by unfold rdS; rw [h]; rfl
theorem block_own {β : Type} (B : Nat) (t : TypeId) (c : Array Value) : Own (fun (_ : β) W => Box W B t c) := fun s X Y row hs hg hrow =>
  (hg.block B hs.lt (fun e' => by obtain ⟨o, ho, hc⟩ := hrow B e'.symm; rw [show X.heap[B]? = _ from hs] at ho; cases ho; cases hc)).trans hs
set_option maxRecDepth 100000 in
set_option maxHeartbeats 4000000 in
theorem rs_in (F : Fence) (n : Nat) (h49 : F.fn 237) (h78 : F.fn 283) (h84 : F.fn 305) (hro : F.round = none) (hn : 6 ≤ n) (a0 : Option Addr) (n0 c0 : Nat) (a1 : Option Addr) (n1 c1 : Nat) (b : Bool) (a2 : Option Addr) (n2 c2 : Nat) (S : List ByteArray) (C : List PP) (j : Nat) (x : Int) (hxj : x = (j : Int)) (w : World)
    (r0 : RdV w a0 n0 (S.map Value.string)) (r1 : RdP w a1 n1 C) (hj : j < n0) (hn0 : n0 ≤ 1048576) (hn1 : n1 ≤ 1048576) :
    CallsIn F n Tryz.prog 237 #[.agg #[.slice a0 n0 c0, .slice a1 n1 c1, .bool b, .slice a2 n2 c2], .int .i64 x] w fun e W' => e = .returned (.string (rdS S C j)) ∧ Below w.heap.size w W' := by
  have h1 : 1 ≤ n := by omega
  have l0 : S.length = n0 := by simpa using r0.1
  have l1 := r1.1
  have HXJ : Hid (x = (j : Int)) := hxj
  clear hxj
  refine callsIn_of_wp_marks Tryz.func237 rfl h49 ?_ hro
  simp only [Tryz.ntmps237, List.size_toArray, List.length_cons, List.length_nil, Nat.reduceAdd, Nat.reduceSub, Array.replicate_succ, Array.replicate_zero, List.push_toArray, List.append_toArray, List.nil_append, List.cons_append]
  gi_wp2_with (gi_at_call 283; refine (bk_in F (n - 1) h78 hro _ _ _ _).mono ?_; rintro e w' ⟨rfl, rfl⟩)
  have bD : Box ((((w.alloc (.cells #[.slice a0 n0 c0, .slice a1 n1 c1, .bool b, .slice a2 n2 c2] 42)).alloc (.cells #[.int .i64 x] 3)).alloc (.cells #[.string ⟨#[]⟩] 9)).alloc (.cells #[.slice a1 n1 c1] 40)) w.heap.size 42 #[.slice a0 n0 c0, .slice a1 n1 c1, .bool b, .slice a2 n2 c2] := (((Box.new w #[.slice a0 n0 c0, .slice a1 n1 c1, .bool b, .slice a2 n2 c2] 42).alloc _).alloc _).alloc _
  have bA := ((Boxed.new (w.alloc (.cells #[.slice a0 n0 c0, .slice a1 n1 c1, .bool b, .slice a2 n2 c2] 42)) 3 (.int .i64 x)).alloc (.cells #[.string ⟨#[]⟩] 9)).alloc (.cells #[.slice a1 n1 c1] 40)
  have bR := (Boxed.new ((w.alloc (.cells #[.slice a0 n0 c0, .slice a1 n1 c1, .bool b, .slice a2 n2 c2] 42)).alloc (.cells #[.int .i64 x] 3)) 9 (.string ⟨#[]⟩)).alloc (.cells #[.slice a1 n1 c1] 40)
  have bS := Boxed.new (((w.alloc (.cells #[.slice a0 n0 c0, .slice a1 n1 c1, .bool b, .slice a2 n2 c2] 42)).alloc (.cells #[.int .i64 x] 3)).alloc (.cells #[.string ⟨#[]⟩] 9)) 40 (.slice a1 n1 c1)
  simp only [World.size_alloc] at bA bR bS
  have hB0 : Below w.heap.size w ((((w.alloc (.cells #[.slice a0 n0 c0, .slice a1 n1 c1, .bool b, .slice a2 n2 c2] 42)).alloc (.cells #[.int .i64 x] 3)).alloc (.cells #[.string ⟨#[]⟩] 9)).alloc (.cells #[.slice a1 n1 c1] 40)) := ((((Below.refl _ w).alloc (Nat.le_refl _) _).alloc (by simp) _).alloc (by simp; omega) _).alloc (by simp; omega) _
  have hsz : ((((w.alloc (.cells #[.slice a0 n0 c0, .slice a1 n1 c1, .bool b, .slice a2 n2 c2] 42)).alloc (.cells #[.int .i64 x] 3)).alloc (.cells #[.string ⟨#[]⟩] 9)).alloc (.cells #[.slice a1 n1 c1] 40)).heap.size = w.heap.size + 4 := by simp
  obtain ⟨W0, hW0⟩ : ∃ W0, (((w.alloc (.cells #[.slice a0 n0 c0, .slice a1 n1 c1, .bool b, .slice a2 n2 c2] 42)).alloc (.cells #[.int .i64 x] 3)).alloc (.cells #[.string ⟨#[]⟩] 9)).alloc (.cells #[.slice a1 n1 c1] 40) = W0 := ⟨_, rfl⟩
  rw [hW0] at bD bA bR bS hB0 hsz ⊢
  clear hW0
  refine wpIn_rangeFunc_ownH hro h1 (gf := 305) (lb := #[.pointer (some ⟨w.heap.size + 1 + 1 + 1, 0, none⟩)]) rfl h84 (enters_of Tryz.func305 (by kernel_rfl) rfl)
    (bk_stops F (n - 1) h84 hro (by omega) (w.heap.size + 1 + 1 + 1) W0.heap.size a1 n1 c1 C hn1 W0 (by omega) (Nat.le_refl _) bS.cell (r1.below hB0) (fun b' off' hp e => by obtain ⟨b2, off2, e2, hlt, _⟩ := r1.2 hp; rw [e] at e2; cases e2; omega)) belowK_t (belowK_b (Nat.le_refl _)) (Below.refl _ _) (fun _ => rfl)
    (fun pre W => (((fdB pre x = none ∧ Boxed W (w.heap.size + 1 + 1) 9 (.string ⟨#[]⟩)) ∧ Boxed W (w.heap.size + 1) 3 (.int .i64 x)) ∧ Box W w.heap.size 42 #[.slice a0 n0 c0, .slice a1 n1 c1, .bool b, .slice a2 n2 c2]) ∧ Below W0.heap.size W0 W)
    (fun c pre W => ((c = .ret ∧ (fdB pre x).isSome = true) ∧ Boxed W (w.heap.size + 1 + 1) 9 (.string (vlB pre x))) ∧ Below w.heap.size w W)
    (OwnFrom.and (OwnFrom.and (OwnFrom.and (OwnFrom.and (ownFrom_pure _ _) (Own.from (boxed_own _ _ _) _)) (Own.from (boxed_own _ _ _) _)) (Own.from (block_own _ _ _) _)) (ownFrom_below (Nat.le_refl _) (Nat.le_refl _)))
    (fun c => OwnFrom.and (OwnFrom.and (ownFrom_pure _ _) (Own.from (boxed_own _ _ _) _)) (ownFrom_below (Nat.le_refl _) (by omega)))
    ⟨⟨⟨⟨rfl, bR⟩, bA⟩, bD⟩, Below.refl _ _⟩
    (fun y a' W => ∃ Bx, w.heap.size + 4 ≤ Bx ∧ Box W Bx 197 #[.int .i64 y.2.1, .string y.2.2] ∧ a' = { tmps := #[.agg #[.slice a0 n0 c0, .slice a1 n1 c1, .bool b, .slice a2 n2 c2], .int .i64 x, .pointer (some ⟨w.heap.size, 0, none⟩), .pointer (some ⟨w.heap.size + 1, 0, none⟩), .pointer (some ⟨w.heap.size + 1 + 1, 0, none⟩), undef, .pointer (some ⟨Bx, 0, none⟩), .pointer (some ⟨w.heap.size, 1, none⟩), .slice a1 n1 c1, .func (.func 305) #[] #[.pointer (some ⟨w.heap.size + 1 + 1 + 1, 0, none⟩)], .int .i64 (y.1 : Int), .agg #[.int .i64 y.2.1, .string y.2.2], undef, undef, undef, undef, undef, undef, undef, undef, undef, undef, undef], defers := [] })
    (fun y a' _ X Y row hs hg hr => by obtain ⟨Bx, e1, e2, e3⟩ := hs; exact ⟨Bx, e1, block_own (β := Unit) Bx 197 _ () X Y row e2 hg (fun r e => (hr r e).2), e3⟩)
    ?assign ?body ?done ?stop
  case assign =>
    rintro l pre y W K ⟨⟨⟨⟨hp, bR1⟩, bA1⟩, bD1⟩, hB1⟩ hK
    dsimp only [encB]
    gi_wp2
    exact hK _ _ ((KeepsOthers.alloc _ _).from _) ((Below.refl _ W).alloc hB1.size _) ⟨⟨⟨⟨hp, bR1.alloc _⟩, bA1.alloc _⟩, bD1.alloc _⟩, hB1.alloc hB1.size _⟩ ⟨W.heap.size, by have := hB1.size; omega, Box.new W _ 197, rfl⟩
  case body =>
    rintro l pre y a' W hl ⟨r, hr⟩ ⟨⟨⟨⟨hp, bR1⟩, bA1⟩, bD1⟩, hB1⟩ ⟨Bx, hBx, bX, rfl⟩ hlt
    have cX0 : W.cell? ⟨Bx, 0, none⟩ = some (.int .i64 y.2.1) := bX.cell 0
    have cX1 : W.cell? ⟨Bx, 1, none⟩ = some (.string y.2.2) := bX.cell 1
    have cA := bA1.cell
    have cR := bR1.cell
    have fR := bR1.frozen
    by_cases he : y.2.1 = x
    · have hbe : (y.2.1 == x) = true := by simpa using he
      have hfy := fdB_yes hp he
      have hvy : vlB (pre ++ [y]) x = y.2.2 := by unfold vlB; rw [hfy]; rfl
      clear he
      gi_wp2
      exact ⟨(KeepsOthers.setCell _ _ _).from _, ⟨⟨rfl, by rw [hfy]; rfl⟩, by rw [hvy]; exact bR1.set _⟩, (hB0.trans (hB1.mono (by omega))).setCell (p := ⟨w.heap.size + 1 + 1, 0, none⟩) (by simp; omega) _⟩
    · have hbe : (y.2.1 == x) = false := by simpa using he
      have hfy := fdB_no hp he
      clear he
      gi_wp2
      exact ⟨KeepsFrom.refl _ _, Below.refl _ _, ⟨⟨⟨hfy, bR1⟩, bA1⟩, bD1⟩, hB1⟩
  case done =>
    rintro D zs W hD rfl ⟨⟨⟨⟨hp, bR1⟩, bA1⟩, bD1⟩, hB1⟩ hK
    have cR := bR1.cell
    have fR := bR1.frozen
    have cA := bA1.cell
    have cD : W.cell? ⟨w.heap.size, 0, none⟩ = some (.slice a0 n0 c0) := bD1.cell 0
    have hBw : Below w.heap.size w W := hB0.trans (hB1.mono (by omega))
    obtain ⟨b0, off0, rfl, hbl, hc⟩ := r0.2 (by omega)
    obtain ⟨s, hs⟩ : ∃ s, s = S.getD j ⟨#[]⟩ := ⟨_, rfl⟩
    have cS : W.cell? ⟨b0, off0 + j, none⟩ = some (.string s) := by rw [hBw.cell (p := ⟨b0, off0 + j, none⟩) hbl, hc j hj, hs]; exact map_get _ _ _ _ (by omega)
    have hres : rdS S C j = s := by rw [hs]; exact rdS_miss (by rw [l1, ← HXJ.out]; exact hp)
    have g1 : (0 : Int) ≤ (j : Int) := by omega
    have g2 : (j : Int) < (n0 : Int) := by omega
    have hxj := HXJ.out
    subst hxj
    clear hc hs
    gi_wp2
    have hK' := (KeepsOthers.setCell W ⟨w.heap.size + 1 + 1, 0, none⟩ (.string s)).same D _ hK rfl
    refine ⟨by simp, .inl ⟨_, _, rfl, run_takeDeferred hK', ?_⟩⟩
    have hc5 := cell_kept (bR1.set (.string s)).cell (grownBy_putObj' _ D (.deferred none)) (fun r e => by cases e; exact ⟨_, hK', rfl⟩)
    refine ⟨.string s, ?_, by first | rfl | rw [hres], (hBw.setCell (p := ⟨w.heap.size + 1 + 1, 0, none⟩) (by simp; omega) _).trans (belowK_b (w := w) (Nat.le_refl _) _ D _ _ (by omega) hK' rfl rfl)⟩
    simp [results, Tryz.f237, go_sem, hc5]
  case stop =>
    rintro D c pre W hD ⟨k, hk, rfl⟩ ⟨⟨⟨rfl, hf⟩, bR1⟩, hB1⟩ hK
    obtain ⟨y, hy⟩ := Option.isSome_iff_exists.1 hf
    have hres : rdS S C j = vlB (bkL C n1 k) x := by
      have h' : vlB (bkL C n1 k) x = y.2.2 := by unfold vlB; rw [hy]; rfl
      rw [h']
      exact rdS_hit (k := k) (by omega) (by rw [l1, ← HXJ.out]; exact hy)
    gi_wp2
    refine ⟨by simp, .inl ⟨_, _, rfl, run_takeDeferred hK, ?_⟩⟩
    have hc5 := cell_kept bR1.cell (grownBy_putObj' _ D (.deferred none)) (fun r e => by cases e; exact ⟨_, hK, rfl⟩)
    refine ⟨.string (vlB (bkL C n1 k) x), ?_, by first | rfl | rw [hres], hB1.trans (belowK_b (w := w) (Nat.le_refl _) W D _ _ (by omega) hK rfl rfl)⟩
    simp [results, Tryz.f237, go_sem, hc5]
theorem c_readSector (a0 : Option Addr) (n0 c0 : Nat) (a1 : Option Addr) (n1 c1 : Nat) (b : Bool) (a2 : Option Addr) (n2 c2 : Nat) (S : List ByteArray) (C : List PP) (j : Nat) (w : World)
    (r0 : RdV w a0 n0 (S.map Value.string)) (r1 : RdP w a1 n1 C) (hj : j < n0) (hn0 : n0 ≤ 1048576) (hn1 : n1 ≤ 1048576) :
    Calls Tryz.prog 237 #[.agg #[.slice a0 n0 c0, .slice a1 n1 c1, .bool b, .slice a2 n2 c2], .int .i64 (j : Int)] w fun e W' => e = .returned (.string (rdS S C j)) ∧ Below w.heap.size w W' :=
  (callsIn_wide (n := 6)).1 (rs_in Fence.wide 6 trivial trivial trivial rfl (by omega) a0 n0 c0 a1 n1 c1 b a2 n2 c2 S C j (j : Int) rfl w r0 r1 hj hn0 hn1)

end Go.Proofs.YtfibdpfhfgnbiaaGreatDoor
namespace Go.Proofs.YtfibdpfhfgnbiaaGreatDoor
open Go Go.RowKit Go.ChangeShapes Go.WideShapes Go.Deep Go.WideElems

attribute [local go_sem ↓] Go.wp_at_zero Go.wp_at_succ

theorem rdV_of_row {α : Type} {w : World} {x : Addr} {len cap : Nat} {zs : List α} (f : α → Value) (d : α) (hl : len ≤ cap) (hz : zs.length = cap) (hcell : ∀ i, i < zs.length → w.cell? (x.add i) = some (f (zs.getD i d))) : RdV w (some x) len ((zs.take len).map f) := by
  refine ⟨by simp; omega, fun h => ?_⟩
  obtain ⟨b, off, spot⟩ := x
  have hc := hcell 0 (by omega)
  have hspot : spot = none := by simpa [Addr.add] using World.cell?_spot hc
  subst hspot
  refine ⟨b, off, rfl, World.block_lt_of_cell? w ⟨b, off, none⟩ (by have := hc; rwa [addr_add] at this), fun i hi => ?_⟩
  have := hcell i (by omega)
  rw [addr_add] at this
  rw [this, map_get f (zs.take len) d i (by simp; omega), List.getD_eq_getElem?_getD, List.getD_eq_getElem?_getD, List.getElem?_take_of_lt hi]
set_option maxRecDepth 100000 in
theorem open_pendings {H : Type} {enc : TypeId × Value → H} {P : Program} {w : World} {base : Nat} {spare : Nat → Bool} {held : Bool} {t e : TypeId} {fuel : Nat} {cs : List Value} {x : DataW H × List MemPlace} {f0 f1 : Field}
    (ht : P.underlying t = some (.slice e)) (hs : P.underlying e = some (.struct #[f0, f1])) (hone : oneCellFields P #[f0, f1] = true) (hC : P.cellsOf e = 2)
    (u0 : P.underlying f0.type = some (.int .i64)) (u1 : P.underlying f1.type = some .string)
    (h : DataW.trod enc P w base spare held fuel t cs = some x) :
    cs = [.slice none 0 0] ∨ ∃ (a : Addr) (len cap : Nat) (vs : List PP), cs = [.slice (some a) len cap] ∧ len ≤ maxLen ∧ RdP w (some a) len vs ∧ ∀ v ∈ vs, v.2.size ≤ maxLen := by
  rcases Go.Deep.open_slice ht h with ⟨h0, _⟩ | ⟨a, len, cap, m, n, D, Pl, hcs, hb, hl, hm, he, hx, hc⟩
  · exact .inl h0
  · right
    have hlm : len ≤ m := by rw [he]; split <;> omega
    have hone' : ∀ i, i < len → ∃ v : PP, (w.cell? (a.add (i * 2)) = some (.int .i64 v.1) ∧ w.cell? (a.add (i * 2 + 1)) = some (.string v.2)) ∧ v.2.size ≤ maxLen := by
      intro i hi
      obtain ⟨cs', h1, h2⟩ := hc i (by omega)
      rw [hC] at h1
      obtain ⟨_, hl3, hg⟩ := World.cells?_some h1
      obtain ⟨xs, n', _, _, _, hlen, hf⟩ := DataW.trod_struct hs h2
      obtain ⟨o0, k0⟩ := hone_of hone 0 f0 rfl
      obtain ⟨o1, k1⟩ := hone_of hone 1 f1 rfl
      match xs, hlen, cs', hl3 with
      | [y0, y1], _, [c0, c1], _ =>
        have g0 := hf 0 f0 rfl
        have g1 := hf 1 f1 rfl
        have g0' : DataW.trod enc P w base spare held n' f0.type [c0] = some y0 := by simpa [o0, k0] using g0
        have g1' : DataW.trod enc P w base spare held n' f1.type [c1] = some y1 := by simpa [o1, k1] using g1
        obtain ⟨z0, e0, _, _⟩ := DataW.trod_int u0 g0'
        obtain ⟨s2, e2, _, ws⟩ := DataW.trod_string u1 g1'
        simp at e0 e2
        subst e0 e2
        have q0 := hg 0 (by omega)
        have q1 := hg 1 (by omega)
        rw [Go.Deep.add_add] at q0 q1
        exact ⟨(z0, s2), ⟨q0, q1⟩, ws⟩
    obtain ⟨f, hf⟩ := Go.Deep.choose_lt (α := PP) hone'
    refine ⟨a, len, cap, (List.range len).map f, hcs, by omega, ⟨by simp, fun hpos => ?_⟩, ?_⟩
    · obtain ⟨b, off, spot⟩ := a
      have hc0 := (hf 0 hpos).1.1
      have hspot : spot = none := by simpa [Addr.add] using World.cell?_spot hc0
      subst hspot
      refine ⟨b, off, rfl, World.block_lt_of_cell? w ⟨b, off, none⟩ (by have := hc0; rwa [addr_add, show off + 0 * 2 = off by omega] at this), fun i hi => ?_⟩
      have hg := (hf i hi).1
      rw [addr_add, addr_add] at hg
      have hd : ((List.range len).map f).getD i dP = f i := by rw [List.getD_eq_getElem?_getD, List.getElem?_map, List.getElem?_range hi]; rfl
      rw [hd]
      exact hg
    · intro v hv
      obtain ⟨i, hi, rfl⟩ := List.mem_map.1 hv
      exact (hf i (List.mem_range.1 hi)).2
set_option maxRecDepth 100000 in
theorem open_texts {H : Type} {enc : TypeId × Value → H} {w : World} {held : Bool} {fuel : Nat} {v : Value} {x : DataW H × List MemPlace} (h : DataW.trod enc Tryz.prog w 0 (fun _ => true) held fuel 22 [v] = some x) :
    ∃ a n c, ∃ ss : List ByteArray, v = .slice a n c ∧ RdV w a n (ss.map Value.string) ∧ n ≤ maxLen ∧ ∀ s ∈ ss, s.size ≤ maxLen := by
  rcases open_strings Tryz.underlying22 Tryz.underlying9 (by kernel_rfl) h with ⟨hcs, _⟩ | ⟨x, l, c, ss, hcs, _, hl, hm, hz, _, hcell, hwz⟩
  · simp at hcs
    exact ⟨none, 0, 0, [], hcs, ⟨rfl, fun h => absurd h (by omega)⟩, by unfold maxLen; omega, fun _ h => by cases h⟩
  · simp at hcs
    exact ⟨some x, l, c, _, hcs, rdV_of_row Value.string _ hl (by simpa using hz) hcell, by omega, fun s h => hwz s (List.mem_of_mem_take h)⟩
set_option maxRecDepth 100000 in
theorem open_numbers {H : Type} {enc : TypeId × Value → H} {w : World} {held : Bool} {fuel : Nat} {v : Value} {x : DataW H × List MemPlace} (h : DataW.trod enc Tryz.prog w 0 (fun _ => true) held fuel 24 [v] = some x) :
    ∃ a n c, ∃ zs : List Int, v = .slice a n c ∧ RdV w a n (zs.map (Value.int .i64)) ∧ n ≤ maxLen := by
  rcases open_ints Tryz.underlying24 Tryz.underlying3 (by kernel_rfl) h with ⟨hcs, _⟩ | ⟨x, l, c, zs, hcs, _, hl, hm, hz, _, hcell, hwz⟩
  · simp at hcs
    exact ⟨none, 0, 0, [], hcs, ⟨rfl, fun h => absurd h (by omega)⟩, by unfold maxLen; omega⟩
  · simp at hcs
    exact ⟨some x, l, c, _, hcs, rdV_of_row (Value.int .i64) _ hl (by simpa using hz) hcell, by omega⟩
set_option maxRecDepth 100000 in
theorem open_disk {H : Type} {enc : TypeId × Value → H} {w : World} {held : Bool} {r : Reach} {b0 : Nat} {v : Value} {d : DataW H} {p : List MemPlace} (hv : Value.okWide Tryz.prog w r b0 26 v) (h : DataW.Trod enc Tryz.prog w 0 (fun _ => true) held 26 v d p) :
    ∃ (h : HD) (D : DD), v = .agg #[.slice h.a0 h.n0 h.c0, .slice h.a1 h.n1 h.c1, .bool h.b, .slice h.a2 h.n2 h.c2] ∧ RdD w h D ∧ h.n0 ≤ maxLen ∧ h.n1 ≤ maxLen ∧ h.n2 ≤ maxLen ∧ (∀ s ∈ D.S, s.size ≤ maxLen) ∧ ∀ p ∈ D.C, p.2.size ≤ maxLen := by
  obtain ⟨v0, v1, v2, v3, y0, y1, y2, y3, n, rfl, _, _, h0, h1, h2, h3⟩ := Go.Joins.open_agg4 Tryz.underlying26 (by kernel_rfl) (by kernel_rfl) hv h
  obtain ⟨a0, n0, c0, ss, rfl, r0, m0, s0⟩ := open_texts h0
  obtain ⟨a2, n2, c2, zs, rfl, r2, m2⟩ := open_numbers h3
  obtain ⟨b, e2, _⟩ := DataW.trod_bool Tryz.underlying4 h2
  simp at e2
  subst e2
  obtain ⟨a1, n1, c1, vs, rfl, r1, m1, s1⟩ : ∃ a n c, ∃ vs : List PP, v1 = .slice a n c ∧ RdP w a n vs ∧ n ≤ maxLen ∧ ∀ p ∈ vs, p.2.size ≤ maxLen := by
    rcases open_pendings Tryz.underlying23 Tryz.underlying289 (by kernel_rfl) (by kernel_rfl) Tryz.underlying3 Tryz.underlying9 h1 with hcs | ⟨x, l, c, vs, hcs, hm, hr, hz⟩
    · simp at hcs
      exact ⟨none, 0, 0, [], hcs, ⟨rfl, fun h => absurd h (by omega)⟩, by unfold maxLen; omega, fun _ h => by cases h⟩
    · simp at hcs
      exact ⟨some x, l, c, vs, hcs, hr, hm, hz⟩
  exact ⟨⟨a0, n0, c0, a1, n1, c1, b, a2, n2, c2⟩, ⟨ss, vs, b, zs⟩, rfl, ⟨rfl, r0, r1, r2⟩, m0, m1, m2, s0, s1⟩

end Go.Proofs.YtfibdpfhfgnbiaaGreatDoor
