/-
  How a disk that came in is read.
-/
import Derived.Test.YtkpopingbbaomaaGreatDoorOkq
import Derived.ProofKit
import Derived.OpenShut
import Derived.SliceStrings
import Derived.ChangeSlices
import Derived.Lib.SmallJoins
import Derived.Deep.Slices
import Derived.Deep.Strs
import Derived.RangeFuncNested
import Derived.RangeFuncBound
import Derived.RangeFuncCalls
import Derived.RangeFuncLeaves
import Derived.Shelf.Abstract
import Derived.Shelf.RegionOpen
import Derived.WalkKit
import Derived.OwnWalkIn
import Derived.TacticsInMore
import Derived.LoopNIn
import Derived.LoopIn
import Derived.Test.YtkpopingbbaomaaGreatDoorDkq
namespace Go.Proofs.YtkpopingbbaomaaGreatDoor
open Go Go.RowKit
attribute [local go_sem ↓] Go.wp_at_zero Go.wp_at_succ


set_option maxRecDepth 100000 in
theorem c_has (a0 : Option Addr) (n0 c0 : Nat) (a1 : Option Addr) (n1 c1 : Nat) (b : Bool) (a2 : Option Addr) (n2 c2 : Nat) (x : Int) (w : World) :
    Calls Tryz.prog 207 #[.agg #[.slice a0 n0 c0, .slice a1 n1 c1, .bool b, .slice a2 n2 c2], .int .i64 x] w fun e w' => e = .returned (.bool (decide (0 ≤ x ∧ x < n0))) ∧ Below w.heap.size w w' := by
  by_cases h1 : 0 ≤ x <;> by_cases h2 : x < n0
  all_goals
    go_enter Tryz.func207, Tryz.ntmps207
    go_wp2
    go_ret
    exact ⟨ret_bool (by simp [h1, h2]), (Below.refl _ _).alloc (Nat.le_refl _) _⟩
set_option maxRecDepth 100000 in
set_option maxHeartbeats 4000000 in
theorem c_implOK (h : HD) (D : DD) (w : World) (r : RdD w h D) (hf : Fit D) :
    Calls Tryz.prog 126 #[.agg #[.slice h.a0 h.n0 h.c0, .slice h.a1 h.n1 h.c1, .bool h.b, .slice h.a2 h.n2 h.c2]] w fun e w' => e = .returned (.bool (okD D)) ∧ Below w.heap.size w w' := by
  have k0 := r.l0
  have k1 := r.l1
  have k2 := r.l2
  obtain ⟨f0, f1, f2, f3, f4⟩ := hf
  obtain ⟨rb, r0, r1, r2⟩ := r
  obtain ⟨a0, n0, c0, a1, n1, c1, b, a2, n2, c2⟩ := h
  simp only at *
  have HB : Hid (Below w.heap.size w (w.alloc (.cells #[.slice a0 n0 c0, .slice a1 n1 c1, .bool b, .slice a2 n2 c2] 42))) := (Below.refl _ _).alloc (Nat.le_refl _) _
  have BX : Hid (Box (w.alloc (.cells #[.slice a0 n0 c0, .slice a1 n1 c1, .bool b, .slice a2 n2 c2] 42)) w.heap.size 42 #[.slice a0 n0 c0, .slice a1 n1 c1, .bool b, .slice a2 n2 c2]) := Box.new _ _ _
  by_cases q1 : n0 < 1
  · have E : Hid (okD D = false) := ok_no (by rw [k0, k1, k2]; omega)
    clear HB BX r0 r1 r2 f3 f4
    go_enter Tryz.func126, Tryz.ntmps126
    go_wp2
    go_ret
    exact ⟨ret_bool E.out.symm, (Below.refl _ _).alloc (Nat.le_refl _) _⟩
  · by_cases q2 : 100 < n0
    · have E : Hid (okD D = false) := ok_no (by rw [k0, k1, k2]; omega)
      clear HB BX r0 r1 r2 f3 f4
      go_enter Tryz.func126, Tryz.ntmps126
      go_wp2
      go_ret
      exact ⟨ret_bool E.out.symm, (Below.refl _ _).alloc (Nat.le_refl _) _⟩
    · by_cases q3 : 500 < n1
      · have E : Hid (okD D = false) := ok_no (by rw [k0, k1, k2]; omega)
        clear HB BX r0 r1 r2 f3 f4
        go_enter Tryz.func126, Tryz.ntmps126
        go_wp2
        go_ret
        exact ⟨ret_bool E.out.symm, (Below.refl _ _).alloc (Nat.le_refl _) _⟩
      · by_cases q4 : 500 < n2
        · have E : Hid (okD D = false) := ok_no (by rw [k0, k1, k2]; omega)
          clear HB BX r0 r1 r2 f3 f4
          go_enter Tryz.func126, Tryz.ntmps126
          go_wp2
          go_ret
          exact ⟨ret_bool E.out.symm, (Below.refl _ _).alloc (Nat.le_refl _) _⟩
        · have hn : 1 ≤ n0 ∧ n0 ≤ 100 := by omega
          obtain ⟨b0, off, rfl, hbl, hc0⟩ := r0.2 (by omega)
          have HBL : Hid (b0 < w.heap.size) := hbl
          have HC0 : Hid (∀ i, i < n0 → w.cell? ⟨b0, off + i, none⟩ = (D.S.map Value.string)[i]?) := hc0
          have R1 : Hid (RdP w a1 n1 D.C) := r1
          have F3 : Hid (∀ s ∈ D.S, s.size ≤ 1048576) := f3
          have F4 : Hid (∀ p ∈ D.C, p.2.size ≤ 1048576) := f4
          have RB : Hid (b = D.A) := rb
          clear r0 r1 r2 f3 f4 rb hbl hc0
          go_enter Tryz.func126, Tryz.ntmps126
          go_wp2
          go_loop [32] (fun i => ∃ k : Nat, k ≤ n0 ∧ i = .int .i64 k ∧ Hid (∀ j, j < k → (D.S.getD j ⟨#[]⟩).size ≤ 160)) (fun i => n0 - (intOf i).toNat)
          case atStart => exact ⟨0, by omega, rfl, fun j h => absurd h (by omega)⟩
          case round =>
            obtain ⟨k, hk, rfl, HS⟩ := hrel
            by_cases hlt : k < n0
            · obtain ⟨x, hx⟩ : ∃ x, x = D.S.getD k ⟨#[]⟩ := ⟨_, rfl⟩
              have hck : w.cell? ⟨b0, off + k, none⟩ = some (.string x) := by rw [hx, HC0.out k hlt]; exact map_get _ _ _ _ (by omega)
              have hck2 : (w.alloc (.cells #[.slice (some ⟨b0, off, none⟩) n0 c0, .slice a1 n1 c1, .bool b, .slice a2 n2 c2] 42)).cell? ⟨b0, off + k, none⟩ = some (.string x) := (HB.out.cell (p := ⟨b0, off + k, none⟩) HBL.out).trans hck
              have hxs : x.size ≤ 1048576 := by rw [hx]; exact F3.out _ (by rw [List.getD_eq_getElem?_getD, List.getElem?_eq_getElem (by omega)]; exact List.getElem_mem (by omega))
              have HX : Hid (x = D.S.getD k ⟨#[]⟩) := hx
              clear hx hck
              by_cases hbig : 160 < x.size
              · have E : Hid (okD D = false) := ok_no1 k (by omega) (by rw [← HX.out]; exact hbig)
                go_wp2
                go_ret
                exact ⟨ret_bool E.out.symm, HB.out⟩
              · have HG : Hid (¬ 160 < x.size) := hbig
                go_wp2
                go_round
                case rel => exact ⟨k + 1, by omega, by go_num, fun j hj => if e : j = k then by rw [e, ← HX.out]; have := HG.out; omega else HS.out j (by omega)⟩
                case measure => simp [intOf]; omega
            · have e : n0 = k := by omega
              subst e
              go_wp2
              go_loopw [43] (fun i wr => ∃ k2 : Nat, k2 ≤ n1 ∧ i = .int .i64 k2 ∧ Hid (∀ j, j < k2 → goodC n0 (D.C.getD j dP) = true) ∧ Box wr w.heap.size 42 #[.slice (some ⟨b0, off, none⟩) n0 c0, .slice a1 n1 c1, .bool b, .slice a2 n2 c2] ∧ Below w.heap.size w wr) (fun i _ => n1 - (intOf i).toNat)
              case atStart => exact ⟨0, by omega, rfl, fun j h => absurd h (by omega), BX.out, HB.out⟩
              case round =>
                obtain ⟨k2, hk2, rfl, HT, bx, hb⟩ := hrel
                have v0 := bx.cell 0
                have v1 := bx.cell 1
                have v2 := bx.cell 2
                have v3 := bx.cell 3
                simp at v0 v1 v2 v3
                by_cases hlt2 : k2 < n1
                · obtain ⟨bb, off1, rfl, hbl, hc⟩ := R1.out.2 (by omega)
                  obtain ⟨⟨xa, xt⟩, hx⟩ : ∃ x, x = D.C.getD k2 dP := ⟨_, rfl⟩
                  obtain ⟨d0, d1⟩ := hc k2 hlt2
                  rw [← hx] at d0 d1
                  have e0 : wr.cell? ⟨bb, off1 + k2 * 2, none⟩ = some (.int .i64 xa) := (hb.cell (p := ⟨bb, off1 + k2 * 2, none⟩) hbl).trans d0
                  have e1 : wr.cell? ⟨bb, off1 + k2 * 2 + 1, none⟩ = some (.string xt) := (hb.cell (p := ⟨bb, off1 + k2 * 2 + 1, none⟩) hbl).trans d1
                  have hxs : xt.size ≤ 1048576 := by
                    have := F4.out (D.C.getD k2 dP) (by rw [List.getD_eq_getElem?_getD, List.getElem?_eq_getElem (by omega)]; exact List.getElem_mem (by omega))
                    rw [← hx] at this
                    exact this
                  have HX : Hid ((xa, xt) = D.C.getD k2 dP) := hx
                  have HB' : Hid (Below w.heap.size w wr) := hb
                  have HBX : Hid (Box wr w.heap.size 42 _) := bx
                  have hsz : w.heap.size < wr.heap.size := bx.lt
                  clear hc hx d0 d1 hb bx
                  have HE : Hid (Below w.heap.size w (wr.alloc (.cells #[.int .i64 xa, .string xt] 197))) := HB'.out.alloc (by omega) _
                  have HBY : Hid (Box (wr.alloc (.cells #[.int .i64 xa, .string xt] 197)) wr.heap.size 197 #[.int .i64 xa, .string xt]) := Box.new _ _ _
                  have HBZ : Hid (Box (wr.alloc (.cells #[.int .i64 xa, .string xt] 197)) w.heap.size 42 _) := HBX.out.alloc _
                  obtain ⟨t, ht⟩ : ∃ t, t = decide (0 ≤ xa ∧ xa < (n0 : Int)) := ⟨_, rfl⟩
                  have HT2 : Hid (t = decide (0 ≤ xa ∧ xa < (n0 : Int))) := ht
                  clear ht
                  go_wp2_with fail
                  refine (c_has _ n0 _ _ _ _ _ _ _ _ xa _).mono ?_
                  rintro e w3 ⟨rfl, hb3⟩
                  rw [← HT2.out]
                  have HE3 : Hid (Below w.heap.size w w3) := HE.out.trans (hb3.mono HE.out.size)
                  have y3 := HBY.out.belowS hb3
                  have z3 := HBZ.out.belowS hb3
                  have HZ3 : Hid (Box w3 w.heap.size 42 _) := z3
                  have u0 := y3.cell 0
                  have u1 := y3.cell 1
                  simp at u0 u1
                  clear hb3 y3 z3 HE HBY HBZ HB' HBX v0 v1 v2 v3 e0 e1
                  cases t
                  · have E : Hid (okD D = false) := ok_no2 k2 (by omega) (by rw [← HX.out, k0]; unfold goodC; rw [← HT2.out]; rfl)
                    go_wp2
                    go_ret
                    exact ⟨ret_bool E.out.symm, HE3.out⟩
                  · by_cases hbig : 160 < xt.size
                    · have E : Hid (okD D = false) := ok_no2 k2 (by omega) (by rw [← HX.out]; unfold goodC; rw [decide_eq_false (p := xt.size ≤ 160) (by omega), Bool.and_false])
                      go_wp2
                      go_ret
                      exact ⟨ret_bool E.out.symm, HE3.out⟩
                    · have HG : Hid (goodC n0 (xa, xt) = true) := by unfold Hid goodC; rw [← HT2.out, decide_eq_true (p := xt.size ≤ 160) (by omega)]; rfl
                      go_wp2
                      go_roundw
                      case rel => exact ⟨k2 + 1, by omega, by go_num, fun j hj => if e : j = k2 then by rw [e, ← HX.out]; exact HG.out else HT.out j (by omega), HZ3.out, HE3.out⟩
                      case measure => simp [intOf]; omega
                · have e : n1 = k2 := by omega
                  subst e
                  have E : Hid (∀ t : Bool, t = (D.A || D.K.isEmpty) → okD D = t) := fun t ht => by
                    rw [ht]; exact ok_last ⟨by omega, by omega, by omega, by omega⟩ (by rw [k0]; exact HS.out) (by rw [k0, k1]; exact HT.out)
                  have HK : Hid (D.K.isEmpty = decide (n2 = 0)) := by unfold Hid; rw [← k2]; cases D.K <;> simp
                  cases b
                  · by_cases hz : n2 = 0
                    · subst hz
                      have EE : Hid (okD D = true) := E.out true (by rw [← RB.out, HK.out]; rfl)
                      go_wp2
                      go_ret
                      exact ⟨ret_bool EE.out.symm, hb⟩
                    · have EE : Hid (okD D = false) := E.out false (by rw [← RB.out, HK.out, decide_eq_false hz]; rfl)
                      have hz' : ((n2 : Int) == 0) = false := by simp; omega
                      go_wp2
                      go_ret
                      exact ⟨ret_bool EE.out.symm, hb⟩
                  · have EE : Hid (okD D = true) := E.out true (by rw [← RB.out]; rfl)
                    go_wp2
                    go_ret
                    exact ⟨ret_bool EE.out.symm, hb⟩

end Go.Proofs.YtkpopingbbaomaaGreatDoor
namespace Go.Proofs.YtkpopingbbaomaaGreatDoor
open Go Go.RowKit Go.Shelf
attribute [local go_sem ↓] Go.wp_at_zero Go.wp_at_succ


abbrev BX := Nat × Int × ByteArray
def bkF (vs : List PP) (len j : Nat) : BX := (len - 1 - j, (vs.getD (len - 1 - j) dP).1, (vs.getD (len - 1 - j) dP).2)
def bkL (vs : List PP) (len k : Nat) : List BX := (List.range k).map (bkF vs len)
theorem bkL_succ (vs : List PP) (len k : Nat) : bkL vs len (k + 1) = bkL vs len k ++ [bkF vs len k] := by simp [bkL, List.range_succ]
theorem bkL_length (vs : List PP) (len k : Nat) : (bkL vs len k).length = k := by simp [bkL]
def encB (x : BX) : Array Value := #[.int .i64 (x.1 : Int), .agg #[.int .i64 x.2.1, .string x.2.2]]
set_option maxRecDepth 100000 in
set_option maxHeartbeats 4000000 in
theorem bk1_in (F : Fence) (n : Nat) (h84 : F.fn 305) (hro : F.round = none) (hn : 1 ≤ n) (l Bs n₀ : Nat) (a : Option Addr) (len cap : Nat) (vs : List PP) (hlen : len ≤ 1048576) (hb : ∀ b off, 0 < len → a = some ⟨b, off, none⟩ → b < n₀) (hBn : Bs < n₀) (J Jx : List BX → World → Prop)
    (hY : ∀ pre x W, J pre W → pre.length < len → YieldAt F (n - 1) Tryz.prog l (encB x) W fun e W' =>
      (e = .returned (.bool true) ∧ J (pre ++ [x]) W' ∧ Below n₀ W W') ∨ (e = .returned (.bool false) ∧ Jx (pre ++ [x]) W'))
    (W : World) (hBs : W.cell? ⟨Bs, 0, none⟩ = some (.slice a len cap)) (hr : RdP W a len vs) (h0 : J [] W) :
    CallsIn F n Tryz.prog 305 #[.func (.yield l) #[] #[], .pointer (some ⟨Bs, 0, none⟩)] W fun e W' => (∃ v, e = .returned v) ∧
      ((∃ ys, ys = bkL vs len len ∧ J ys W') ∨ (∃ pre, (∃ k, k ≤ len ∧ pre = bkL vs len k) ∧ Jx pre W')) := by
  have hl := hr.1
  refine callsIn_of_wp Tryz.func305 rfl h84 ?_ hro
  simp only [Tryz.ntmps305, List.size_toArray, List.length_cons, List.length_nil, Nat.reduceAdd, Nat.reduceSub, Array.replicate_succ, Array.replicate_zero, List.push_toArray, List.append_toArray, List.nil_append, List.cons_append]
  gi_wp2
  gi_loopw [3] (fun i wr => ((∃ p : Nat, i = .int .i64 p ∧ p < len ∧ J (bkL vs len (len - 1 - p)) wr) ∨ (i = .int .i64 (-1) ∧ J (bkL vs len len) wr)) ∧ Below n₀ W wr)
    (fun i _ => (intOf i + 1).toNat)
  case atStart =>
    refine ⟨?_, Below.refl _ _⟩
    rcases Nat.eq_zero_or_pos len with h | h
    · subst h
      exact .inr ⟨rfl, h0⟩
    · refine .inl ⟨len - 1, by go_num, by omega, ?_⟩
      rw [show len - 1 - (len - 1) = 0 by omega]
      exact h0
  case round =>
    obtain ⟨hrel, hnx⟩ := hrel
    have hBw : wr.cell? ⟨Bs, 0, none⟩ = some (.slice a len cap) := (hnx.cell (p := ⟨Bs, 0, none⟩) hBn).trans hBs
    rcases hrel with ⟨p, rfl, hp, hJs⟩ | ⟨rfl, hJs⟩
    · obtain ⟨b, off, rfl, hbl, hc⟩ := hr.2 (by omega)
      have hbn : b < n₀ := hb b off (by omega) rfl
      obtain ⟨⟨xa, xt⟩, hx⟩ : ∃ x, x = vs.getD p dP := ⟨_, rfl⟩
      obtain ⟨d0, d1⟩ := hc p hp
      rw [← hx] at d0 d1
      have e0 : wr.cell? ⟨b, off + p * 2, none⟩ = some (.int .i64 xa) := (hnx.cell (p := ⟨b, off + p * 2, none⟩) hbn).trans d0
      have e1 : wr.cell? ⟨b, off + p * 2 + 1, none⟩ = some (.string xt) := (hnx.cell (p := ⟨b, off + p * 2 + 1, none⟩) hbn).trans d1
      have hF : bkF vs len (len - 1 - p) = (p, xa, xt) := by unfold bkF; rw [show len - 1 - (len - 1 - p) = p by omega, ← hx]
      obtain ⟨fn, tmps, assign, body, hy, hR⟩ := hY _ (p, xa, xt) wr hJs (by rw [bkL_length]; omega)
      dsimp only [encB] at hy
      have HF : Hid (bkL vs len (len - 1 - p) ++ [(p, xa, xt)] = bkL vs len (len - 1 - p + 1)) := by unfold Hid; rw [bkL_succ, hF]
      clear hc hx d0 d1 hF
      gi_wp2
      refine hR.mono ?_
      rintro e W3 (⟨rfl, hJ3, hk3⟩ | ⟨rfl, hJx3⟩)
      · gi_wp2
        go_roundw
        case rel =>
          refine ⟨?_, hnx.trans hk3⟩
          rw [HF.out] at hJ3
          rcases Nat.eq_zero_or_pos p with h | h
          · subst h
            refine .inr ⟨by go_num, ?_⟩
            rw [show len - 1 - 0 + 1 = len by omega] at hJ3
            exact hJ3
          · refine .inl ⟨p - 1, by go_num, by omega, ?_⟩
            rw [show len - 1 - (p - 1) = len - 1 - p + 1 by omega]
            exact hJ3
        case measure => simp [intOf]
      · gi_wp2
        refine bodyPost_ret (results_none rfl _ _ _) rfl ?_
        rw [HF.out] at hJx3
        exact ⟨⟨_, rfl⟩, .inr ⟨_, ⟨len - 1 - p + 1, by omega, rfl⟩, hJx3⟩⟩
    · gi_wp2
      go_end0
      exact ⟨⟨_, rfl⟩, .inl ⟨_, rfl, hJs⟩⟩
set_option maxRecDepth 100000 in
set_option maxHeartbeats 1000000 in
theorem bk_in (F : Fence) (n : Nat) (h78 : F.fn 283) (hro : F.round = none) (a : Option Addr) (len cap : Nat) (w : World) :
    CallsIn F n Tryz.prog 283 #[.slice a len cap] w fun e w' => e = .returned (.func (.func 305) #[] #[.pointer (some ⟨w.heap.size, 0, none⟩)]) ∧ w' = w.alloc (.cells #[.slice a len cap] 40) := by
  refine callsIn_of_wp Tryz.func283 rfl h78 ?_ hro
  simp only [Tryz.ntmps283, List.size_toArray, List.length_cons, List.length_nil, Nat.reduceAdd, Nat.reduceSub, Array.replicate_succ, Array.replicate_zero, List.push_toArray, List.append_toArray, List.nil_append, List.cons_append]
  gi_wp2
  go_ret
  exact ⟨rfl, rfl⟩
theorem bk_stops (F : Fence) (n : Nat) (h84 : F.fn 305) (hro : F.round = none) (hn : 1 ≤ n) (Bs n₀ : Nat) (a : Option Addr) (len cap : Nat) (vs : List PP) (hlen : len ≤ 1048576) (w : World) (hBs : Bs < n₀) (hn₀ : n₀ ≤ w.heap.size)
    (hc : w.cell? ⟨Bs, 0, none⟩ = some (.slice a len cap)) (hr : RdP w a len vs) (hb : ∀ b off, 0 < len → a = some ⟨b, off, none⟩ → b < n₀) :
    SeqStopsK F n Tryz.prog 305 #[.pointer (some ⟨Bs, 0, none⟩)] encB (Below n₀) (fun ys => ys = bkL vs len len) (fun pre => ∃ k, k ≤ len ∧ pre = bkL vs len k) len w := fun l J Jx W hW _ _ hY h0 =>
  bk1_in F n h84 hro hn l Bs n₀ a len cap vs hlen hb hBs J Jx hY W ((hW.cell (p := ⟨Bs, 0, none⟩) (show Bs < w.heap.size by omega)).trans hc) (hr.below hW) h0

end Go.Proofs.YtkpopingbbaomaaGreatDoor
namespace Go.Proofs.YtkpopingbbaomaaGreatDoor
open Go Go.RowKit Go.ChangeShapes Go.WideShapes Go.Deep Go.WideElems

attribute [local go_sem ↓] Go.wp_at_zero Go.wp_at_succ

theorem rdV_of_row {α : Type} {w : World} {x : Addr} {len cap : Nat} {zs : List α} (f : α → Value) (d : α) (hl : len ≤ cap) (hz : zs.length = cap) (hcell : ∀ i, i < zs.length → w.cell? (x.add i) = some (f (zs.getD i d))) : RdV w (some x) len ((zs.take len).map f) := by
  refine ⟨by simp; omega, fun h => ?_⟩
  obtain ⟨b, off, spot⟩ := x
  have hc := hcell 0 (by omega)
  have hspot : spot = none := by simpa [Addr.add] using World.cell?_spot hc
  subst hspot
  refine ⟨b, off, rfl, World.block_lt_of_cell? w ⟨b, off, none⟩ (by have := hc; rwa [addr_add] at this), fun i hi => ?_⟩
  have := hcell i (by omega)
  rw [addr_add] at this
  rw [this, map_get f (zs.take len) d i (by simp; omega), List.getD_eq_getElem?_getD, List.getD_eq_getElem?_getD, List.getElem?_take_of_lt hi]
set_option maxRecDepth 100000 in
theorem open_pendings {H : Type} {enc : TypeId × Value → H} {P : Program} {w : World} {base : Nat} {spare : Nat → Bool} {held : Bool} {t e : TypeId} {fuel : Nat} {cs : List Value} {x : DataW H × List MemPlace} {f0 f1 : Field}
    (ht : P.underlying t = some (.slice e)) (hs : P.underlying e = some (.struct #[f0, f1])) (hone : oneCellFields P #[f0, f1] = true) (hC : P.cellsOf e = 2)
    (u0 : P.underlying f0.type = some (.int .i64)) (u1 : P.underlying f1.type = some .string)
    (h : DataW.trod enc P w base spare held fuel t cs = some x) :
    cs = [.slice none 0 0] ∨ ∃ (a : Addr) (len cap : Nat) (vs : List PP), cs = [.slice (some a) len cap] ∧ len ≤ maxLen ∧ RdP w (some a) len vs ∧ ∀ v ∈ vs, v.2.size ≤ maxLen := by
  rcases Go.Deep.open_slice ht h with ⟨h0, _⟩ | ⟨a, len, cap, m, n, D, Pl, hcs, hb, hl, hm, he, hx, hc⟩
  · exact .inl h0
  · right
    have hlm : len ≤ m := by rw [he]; split <;> omega
    have hone' : ∀ i, i < len → ∃ v : PP, (w.cell? (a.add (i * 2)) = some (.int .i64 v.1) ∧ w.cell? (a.add (i * 2 + 1)) = some (.string v.2)) ∧ v.2.size ≤ maxLen := by
      intro i hi
      obtain ⟨cs', h1, h2⟩ := hc i (by omega)
      rw [hC] at h1
      obtain ⟨_, hl3, hg⟩ := World.cells?_some h1
      obtain ⟨xs, n', _, _, _, hlen, hf⟩ := DataW.trod_struct hs h2
      obtain ⟨o0, k0⟩ := hone_of hone 0 f0 rfl
      obtain ⟨o1, k1⟩ := hone_of hone 1 f1 rfl
      match xs, hlen, cs', hl3 with
      | [y0, y1], _, [c0, c1], _ =>
        have g0 := hf 0 f0 rfl
        have g1 := hf 1 f1 rfl
        have g0' : DataW.trod enc P w base spare held n' f0.type [c0] = some y0 := by simpa [o0, k0] using g0
        have g1' : DataW.trod enc P w base spare held n' f1.type [c1] = some y1 := by simpa [o1, k1] using g1
        obtain ⟨z0, e0, _, _⟩ := DataW.trod_int u0 g0'
        obtain ⟨s2, e2, _, ws⟩ := DataW.trod_string u1 g1'
        simp at e0 e2
        subst e0 e2
        have q0 := hg 0 (by omega)
        have q1 := hg 1 (by omega)
        rw [Go.Deep.add_add] at q0 q1
        exact ⟨(z0, s2), ⟨q0, q1⟩, ws⟩
    obtain ⟨f, hf⟩ := Go.Deep.choose_lt (α := PP) hone'
    refine ⟨a, len, cap, (List.range len).map f, hcs, by omega, ⟨by simp, fun hpos => ?_⟩, ?_⟩
    · obtain ⟨b, off, spot⟩ := a
      have hc0 := (hf 0 hpos).1.1
      have hspot : spot = none := by simpa [Addr.add] using World.cell?_spot hc0
      subst hspot
      refine ⟨b, off, rfl, World.block_lt_of_cell? w ⟨b, off, none⟩ (by have := hc0; rwa [addr_add, show off + 0 * 2 = off by omega] at this), fun i hi => ?_⟩
      have hg := (hf i hi).1
      rw [addr_add, addr_add] at hg
      have hd : ((List.range len).map f).getD i dP = f i := by rw [List.getD_eq_getElem?_getD, List.getElem?_map, List.getElem?_range hi]; rfl
      rw [hd]
      exact hg
    · intro v hv
      obtain ⟨i, hi, rfl⟩ := List.mem_map.1 hv
      exact (hf i (List.mem_range.1 hi)).2
set_option maxRecDepth 100000 in
theorem open_texts {H : Type} {enc : TypeId × Value → H} {w : World} {held : Bool} {fuel : Nat} {v : Value} {x : DataW H × List MemPlace} (h : DataW.trod enc Tryz.prog w 0 (fun _ => true) held fuel 22 [v] = some x) :
    ∃ a n c, ∃ ss : List ByteArray, v = .slice a n c ∧ RdV w a n (ss.map Value.string) ∧ n ≤ maxLen ∧ ∀ s ∈ ss, s.size ≤ maxLen := by
  rcases open_strings Tryz.underlying22 Tryz.underlying9 (by kernel_rfl) h with ⟨hcs, _⟩ | ⟨x, l, c, ss, hcs, _, hl, hm, hz, _, hcell, hwz⟩
  · simp at hcs
    exact ⟨none, 0, 0, [], hcs, ⟨rfl, fun h => absurd h (by omega)⟩, by unfold maxLen; omega, fun _ h => by cases h⟩
  · simp at hcs
    exact ⟨some x, l, c, _, hcs, rdV_of_row Value.string _ hl (by simpa using hz) hcell, by omega, fun s h => hwz s (List.mem_of_mem_take h)⟩
set_option maxRecDepth 100000 in
theorem open_numbers {H : Type} {enc : TypeId × Value → H} {w : World} {held : Bool} {fuel : Nat} {v : Value} {x : DataW H × List MemPlace} (h : DataW.trod enc Tryz.prog w 0 (fun _ => true) held fuel 24 [v] = some x) :
    ∃ a n c, ∃ zs : List Int, v = .slice a n c ∧ RdV w a n (zs.map (Value.int .i64)) ∧ n ≤ maxLen := by
  rcases open_ints Tryz.underlying24 Tryz.underlying3 (by kernel_rfl) h with ⟨hcs, _⟩ | ⟨x, l, c, zs, hcs, _, hl, hm, hz, _, hcell, hwz⟩
  · simp at hcs
    exact ⟨none, 0, 0, [], hcs, ⟨rfl, fun h => absurd h (by omega)⟩, by unfold maxLen; omega⟩
  · simp at hcs
    exact ⟨some x, l, c, _, hcs, rdV_of_row (Value.int .i64) _ hl (by simpa using hz) hcell, by omega⟩
set_option maxRecDepth 100000 in
theorem open_disk {H : Type} {enc : TypeId × Value → H} {w : World} {held : Bool} {r : Reach} {b0 : Nat} {v : Value} {d : DataW H} {p : List MemPlace} (hv : Value.okWide Tryz.prog w r b0 26 v) (h : DataW.Trod enc Tryz.prog w 0 (fun _ => true) held 26 v d p) :
    ∃ (h : HD) (D : DD), v = .agg #[.slice h.a0 h.n0 h.c0, .slice h.a1 h.n1 h.c1, .bool h.b, .slice h.a2 h.n2 h.c2] ∧ RdD w h D ∧ h.n0 ≤ maxLen ∧ h.n1 ≤ maxLen ∧ h.n2 ≤ maxLen ∧ (∀ s ∈ D.S, s.size ≤ maxLen) ∧ ∀ p ∈ D.C, p.2.size ≤ maxLen := by
  obtain ⟨v0, v1, v2, v3, y0, y1, y2, y3, n, rfl, _, _, h0, h1, h2, h3⟩ := Go.Joins.open_agg4 Tryz.underlying26 (by kernel_rfl) (by kernel_rfl) hv h
  obtain ⟨a0, n0, c0, ss, rfl, r0, m0, s0⟩ := open_texts h0
  obtain ⟨a2, n2, c2, zs, rfl, r2, m2⟩ := open_numbers h3
  obtain ⟨b, e2, _⟩ := DataW.trod_bool Tryz.underlying4 h2
  simp at e2
  subst e2
  obtain ⟨a1, n1, c1, vs, rfl, r1, m1, s1⟩ : ∃ a n c, ∃ vs : List PP, v1 = .slice a n c ∧ RdP w a n vs ∧ n ≤ maxLen ∧ ∀ p ∈ vs, p.2.size ≤ maxLen := by
    rcases open_pendings Tryz.underlying23 Tryz.underlying289 (by kernel_rfl) (by kernel_rfl) Tryz.underlying3 Tryz.underlying9 h1 with hcs | ⟨x, l, c, vs, hcs, hm, hr, hz⟩
    · simp at hcs
      exact ⟨none, 0, 0, [], hcs, ⟨rfl, fun h => absurd h (by omega)⟩, by unfold maxLen; omega, fun _ h => by cases h⟩
    · simp at hcs
      exact ⟨some x, l, c, vs, hcs, hr, hm, hz⟩
  exact ⟨⟨a0, n0, c0, a1, n1, c1, b, a2, n2, c2⟩, ⟨ss, vs, b, zs⟩, rfl, ⟨rfl, r0, r1, r2⟩, m0, m1, m2, s0, s1⟩

end Go.Proofs.YtkpopingbbaomaaGreatDoor
