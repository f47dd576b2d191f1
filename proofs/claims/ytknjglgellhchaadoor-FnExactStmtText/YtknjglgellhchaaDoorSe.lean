/-
  The specification's StmtOK.
-/
import Derived.Test.YtknjglgellhchaaDoorSb
import Derived.Deep.RegionHeld3
namespace Go.Proofs.YtknjglgellhchaaDoor
open Go Go.RowKit
attribute [local go_sem ↓] Go.wp_at_zero Go.wp_at_succ

set_option linter.unusedVariables false
set_option maxRecDepth 100000 in
set_option maxHeartbeats 4000000 in
theorem c_sK1 (k tb i : Int) (u v : VV) (c : Int) (sa : Option Addr) (sn sc : Nat) (wa : Option Addr) (wn wc : Nat) (o : Int) (d : Bool) (LS LW : List EN) (w : World) (h1 : u.2.2.size ≤ maxLen) (h2 : v.2.2.size ≤ maxLen) (s2 : RdE w sa sn LS) (hs : sn ≤ 1048576) (s3 : ∀ x ∈ LS, x.t.size ≤ maxLen) (w2 : RdE w wa wn LW) (hw : wn ≤ 1048576) (w3 : ∀ x ∈ LW, x.t.size ≤ maxLen) (f1 : (k == 1) = true) :
    Calls Tryd.prog 39 #[.agg #[.int .i64 k, .int .i64 tb, .int .i64 i, .int .i64 u.1, .int .i64 u.2.1, .string u.2.2, .int .i64 v.1, .int .i64 v.2.1, .string v.2.2, .int .i64 c, .slice sa sn sc, .slice wa wn wc, .int .i64 o, .bool d]] w fun e w' => e = .returned (.bool (inB tb 1 3 && (rowZ i u v && (nsB c sn && ((wn == 0 || okX LW wn) && inB o 0 2))))) ∧ Below w.heap.size w w' := by
  have kI : inB k 1 4 = true := by simp [inB] at *; omega
  have g1 : (k != 1) = false := by simp [bne, f1]
  have g2 : (k != 2) = true := by simp at *; omega
  have f2 : (k == 2) = false := by simp at *; omega
  have f3 : (k == 3) = false := by simp at *; omega
  unfold nsB 
  obtain ⟨V, hV⟩ : ∃ V, w.alloc (.cells #[.int .i64 k, .int .i64 tb, .int .i64 i, .int .i64 u.1, .int .i64 u.2.1, .string u.2.2, .int .i64 v.1, .int .i64 v.2.1, .string v.2.2, .int .i64 c, .slice sa sn sc, .slice wa wn wc, .int .i64 o, .bool d] 52) = V := ⟨_, rfl⟩
  have BV : Hid (Below w.heap.size w V) := by unfold Hid; rw [← hV]; exact (Below.refl _ _).alloc (Nat.le_refl _) _
  have X : Hid (Box V w.heap.size 52 #[.int .i64 k, .int .i64 tb, .int .i64 i, .int .i64 u.1, .int .i64 u.2.1, .string u.2.2, .int .i64 v.1, .int .i64 v.2.1, .string v.2.2, .int .i64 c, .slice sa sn sc, .slice wa wn wc, .int .i64 o, .bool d]) := by unfold Hid; rw [← hV]; exact Box.new _ _ _
  have DI : Hid (∀ W, Below w.heap.size w W → Calls Tryd.prog 50 #[.int .i64 k, .int .i64 1, .int .i64 4] W fun e w' => e = .returned (.bool (inB k 1 4)) ∧ w' = W) := fun W hW => c_in k 1 4 W
  have DT : Hid (∀ W, Below w.heap.size w W → Calls Tryd.prog 50 #[.int .i64 tb, .int .i64 1, .int .i64 3] W fun e w' => e = .returned (.bool (inB tb 1 3)) ∧ w' = W) := fun W hW => c_in tb 1 3 W
  have DW : Hid (∀ W, Below w.heap.size w W → Calls Tryd.prog 79 #[.agg #[.slice wa wn wc]] W fun e w' => e = .returned (.bool (wn == 0)) ∧ Below W.heap.size W w') := fun W hW => c_none wa wn wc W
  have DX : Hid (∀ W, Below w.heap.size w W → Calls Tryd.prog 28 #[.agg #[.slice wa wn wc]] W fun e w' => e = .returned (.bool (okX LW wn)) ∧ Below W.heap.size W w') := fun W hW => c_specX LW wa wn wc W (w2.below hW) hw w3
  have DS : Hid (∀ W, Below w.heap.size w W → Calls Tryd.prog 79 #[.agg #[.slice sa sn sc]] W fun e w' => e = .returned (.bool (sn == 0)) ∧ Below W.heap.size W w') := fun W hW => c_none sa sn sc W
  have DO : Hid (∀ W, Below w.heap.size w W → Calls Tryd.prog 50 #[.int .i64 o, .int .i64 0, .int .i64 2] W fun e w' => e = .returned (.bool (inB o 0 2)) ∧ w' = W) := fun W hW => c_in o 0 2 W
  have HE : ∀ W, (Op.equalIn 10000 50 (.agg #[.int .i64 i, .int .i64 u.1, .int .i64 u.2.1, .string u.2.2, .int .i64 v.1, .int .i64 v.2.1, .string v.2.2]) (.agg #[.int .i64 0, .int .i64 0, .int .i64 0, .string ⟨#[]⟩, .int .i64 0, .int .i64 0, .string ⟨#[]⟩])).run Tryd.prog W = .ok (rowZ i u v) W := eqZ i u v
  rw [kI] at DI
  clear kI
  obtain ⟨pt, ept⟩ : ∃ b, inB tb 1 3 = b := ⟨_, rfl⟩
  rw [ept] at DT ⊢
  clear ept
  obtain ⟨rz, erz⟩ : ∃ b, rowZ i u v = b := ⟨_, rfl⟩
  rw [erz] at HE ⊢
  clear erz
  obtain ⟨pc, epc⟩ : ∃ b, inB o 0 2 = b := ⟨_, rfl⟩
  rw [epc] at DO ⊢
  clear epc
  obtain ⟨pl, epl⟩ : ∃ b, (wn == 0) = b := ⟨_, rfl⟩
  rw [epl] at DW ⊢
  clear epl
  obtain ⟨px, epx⟩ : ∃ b, okX LW wn = b := ⟨_, rfl⟩
  rw [epx] at DX ⊢
  clear epx
  obtain ⟨pq, epq⟩ : ∃ b, (sn == 0) = b := ⟨_, rfl⟩
  rw [epq] at DS ⊢
  clear epq
  obtain ⟨pz, epz⟩ : ∃ b, (c == 0) = b := ⟨_, rfl⟩
  have gz : (c != 0) = !pz := by simp only [bne, epz]
  rw [epz]
  clear epz
  clear h1 h2 s2 hs s3 w2 hw w3
  have D0 := DI.out V BV.out
  obtain ⟨x0, x1, x2, x3, x4, x5, x6, x7, x8, x9, x10, x11, x12, x13⟩ := box14 X.out
  go_enter Tryd.func39, Tryd.ntmps39
  go_wp2_with fail
  refine D0.mono ?_
  rintro e W0 ⟨rfl, hw⟩
  rw [hw]
  clear hw D0 DI hV
  clear x0 x1 x2 x3 x4 x5 x6 x7 x8 x9 x10 x11 x12 x13
  obtain ⟨x0, x1, x2, x3, x4, x5, x6, x7, x8, x9, x10, x11, x12, x13⟩ := box14 X.out
  have D1 := DT.out V BV.out
  go_wp2_with fail
  refine D1.mono ?_
  rintro e W1 ⟨rfl, hw⟩
  rw [hw]
  clear hw D1 x0 x1 x2 x3 x4 x5 x6 x7 x8 x9 x10 x11 x12 x13
  cases pt
  · obtain ⟨x0, x1, x2, x3, x4, x5, x6, x7, x8, x9, x10, x11, x12, x13⟩ := box14 X.out
    go_wp2
    go_ret
    exact ⟨ret_bool (by simp), BV.out⟩
  obtain ⟨x0, x1, x2, x3, x4, x5, x6, x7, x8, x9, x10, x11, x12, x13⟩ := box14 X.out
  have D2 := DW.out V BV.out
  go_wp2_with fail
  refine D2.mono ?_
  rintro e W2 ⟨rfl, hb⟩
  have BW2 : Hid (Below w.heap.size w W2) := BV.out.trans (hb.mono BV.out.size)
  have XW2 : Hid (Box W2 w.heap.size 52 #[.int .i64 k, .int .i64 tb, .int .i64 i, .int .i64 u.1, .int .i64 u.2.1, .string u.2.2, .int .i64 v.1, .int .i64 v.2.1, .string v.2.2, .int .i64 c, .slice sa sn sc, .slice wa wn wc, .int .i64 o, .bool d]) := X.out.belowS hb
  clear hb D2 x0 x1 x2 x3 x4 x5 x6 x7 x8 x9 x10 x11 x12 x13
  cases pl
  · obtain ⟨x0, x1, x2, x3, x4, x5, x6, x7, x8, x9, x10, x11, x12, x13⟩ := box14 XW2.out
    have D3 := DX.out W2 BW2.out
    go_wp2_with fail
    refine D3.mono ?_
    rintro e W3 ⟨rfl, hb⟩
    have BW3 : Hid (Below w.heap.size w W3) := BW2.out.trans (hb.mono BW2.out.size)
    have XW3 : Hid (Box W3 w.heap.size 52 #[.int .i64 k, .int .i64 tb, .int .i64 i, .int .i64 u.1, .int .i64 u.2.1, .string u.2.2, .int .i64 v.1, .int .i64 v.2.1, .string v.2.2, .int .i64 c, .slice sa sn sc, .slice wa wn wc, .int .i64 o, .bool d]) := XW2.out.belowS hb
    clear hb D3 x0 x1 x2 x3 x4 x5 x6 x7 x8 x9 x10 x11 x12 x13
    cases px
    · obtain ⟨x0, x1, x2, x3, x4, x5, x6, x7, x8, x9, x10, x11, x12, x13⟩ := box14 XW3.out
      go_wp2
      go_ret
      exact ⟨ret_bool (by simp), BW3.out⟩
    · cases rz
      · obtain ⟨x0, x1, x2, x3, x4, x5, x6, x7, x8, x9, x10, x11, x12, x13⟩ := box14 XW3.out
        go_wp2
        go_ret
        exact ⟨ret_bool (by simp), BW3.out⟩
      cases pz
      · obtain ⟨x0, x1, x2, x3, x4, x5, x6, x7, x8, x9, x10, x11, x12, x13⟩ := box14 XW3.out
        go_wp2
        go_ret
        exact ⟨ret_bool (by simp), BW3.out⟩
      obtain ⟨x0, x1, x2, x3, x4, x5, x6, x7, x8, x9, x10, x11, x12, x13⟩ := box14 XW3.out
      have D4 := DS.out W3 BW3.out
      go_wp2_with fail
      refine D4.mono ?_
      rintro e W4 ⟨rfl, hb⟩
      have BW4 : Hid (Below w.heap.size w W4) := BW3.out.trans (hb.mono BW3.out.size)
      have XW4 : Hid (Box W4 w.heap.size 52 #[.int .i64 k, .int .i64 tb, .int .i64 i, .int .i64 u.1, .int .i64 u.2.1, .string u.2.2, .int .i64 v.1, .int .i64 v.2.1, .string v.2.2, .int .i64 c, .slice sa sn sc, .slice wa wn wc, .int .i64 o, .bool d]) := XW3.out.belowS hb
      clear hb D4 x0 x1 x2 x3 x4 x5 x6 x7 x8 x9 x10 x11 x12 x13
      cases pq
      · obtain ⟨x0, x1, x2, x3, x4, x5, x6, x7, x8, x9, x10, x11, x12, x13⟩ := box14 XW4.out
        go_wp2
        go_ret
        exact ⟨ret_bool (by simp), BW4.out⟩
      obtain ⟨x0, x1, x2, x3, x4, x5, x6, x7, x8, x9, x10, x11, x12, x13⟩ := box14 XW4.out
      have D5 := DO.out W4 BW4.out
      go_wp2_with fail
      refine D5.mono ?_
      rintro e W5 ⟨rfl, hw⟩
      rw [hw]
      clear hw D5 x0 x1 x2 x3 x4 x5 x6 x7 x8 x9 x10 x11 x12 x13
      cases pc
      · go_wp2
        go_ret
        exact ⟨ret_bool (by simp), BW4.out⟩
      · go_wp2
        go_ret
        exact ⟨ret_bool (by simp), BW4.out⟩
  · cases rz
    · obtain ⟨x0, x1, x2, x3, x4, x5, x6, x7, x8, x9, x10, x11, x12, x13⟩ := box14 XW2.out
      go_wp2
      go_ret
      exact ⟨ret_bool (by simp), BW2.out⟩
    cases pz
    · obtain ⟨x0, x1, x2, x3, x4, x5, x6, x7, x8, x9, x10, x11, x12, x13⟩ := box14 XW2.out
      go_wp2
      go_ret
      exact ⟨ret_bool (by simp), BW2.out⟩
    obtain ⟨x0, x1, x2, x3, x4, x5, x6, x7, x8, x9, x10, x11, x12, x13⟩ := box14 XW2.out
    have D6 := DS.out W2 BW2.out
    go_wp2_with fail
    refine D6.mono ?_
    rintro e W6 ⟨rfl, hb⟩
    have BW6 : Hid (Below w.heap.size w W6) := BW2.out.trans (hb.mono BW2.out.size)
    have XW6 : Hid (Box W6 w.heap.size 52 #[.int .i64 k, .int .i64 tb, .int .i64 i, .int .i64 u.1, .int .i64 u.2.1, .string u.2.2, .int .i64 v.1, .int .i64 v.2.1, .string v.2.2, .int .i64 c, .slice sa sn sc, .slice wa wn wc, .int .i64 o, .bool d]) := XW2.out.belowS hb
    clear hb D6 x0 x1 x2 x3 x4 x5 x6 x7 x8 x9 x10 x11 x12 x13
    cases pq
    · obtain ⟨x0, x1, x2, x3, x4, x5, x6, x7, x8, x9, x10, x11, x12, x13⟩ := box14 XW6.out
      go_wp2
      go_ret
      exact ⟨ret_bool (by simp), BW6.out⟩
    obtain ⟨x0, x1, x2, x3, x4, x5, x6, x7, x8, x9, x10, x11, x12, x13⟩ := box14 XW6.out
    have D7 := DO.out W6 BW6.out
    go_wp2_with fail
    refine D7.mono ?_
    rintro e W7 ⟨rfl, hw⟩
    rw [hw]
    clear hw D7 x0 x1 x2 x3 x4 x5 x6 x7 x8 x9 x10 x11 x12 x13
    cases pc
    · go_wp2
      go_ret
      exact ⟨ret_bool (by simp), BW6.out⟩
    · go_wp2
      go_ret
      exact ⟨ret_bool (by simp), BW6.out⟩
set_option maxRecDepth 100000 in
set_option maxHeartbeats 4000000 in
theorem c_sK2 (k tb i : Int) (u v : VV) (c : Int) (sa : Option Addr) (sn sc : Nat) (wa : Option Addr) (wn wc : Nat) (o : Int) (d : Bool) (LS LW : List EN) (w : World) (h1 : u.2.2.size ≤ maxLen) (h2 : v.2.2.size ≤ maxLen) (s2 : RdE w sa sn LS) (hs : sn ≤ 1048576) (s3 : ∀ x ∈ LS, x.t.size ≤ maxLen) (w2 : RdE w wa wn LW) (hw : wn ≤ 1048576) (w3 : ∀ x ∈ LW, x.t.size ≤ maxLen) (f1 : (k == 1) = false) (f2 : (k == 2) = true) :
    Calls Tryd.prog 39 #[.agg #[.int .i64 k, .int .i64 tb, .int .i64 i, .int .i64 u.1, .int .i64 u.2.1, .string u.2.2, .int .i64 v.1, .int .i64 v.2.1, .string v.2.2, .int .i64 c, .slice sa sn sc, .slice wa wn wc, .int .i64 o, .bool d]] w fun e w' => e = .returned (.bool (inB tb 1 3 && (rowB i u v && (nsB c sn && ((wn == 0) && noB o d))))) ∧ Below w.heap.size w w' := by
  have kI : inB k 1 4 = true := by simp [inB] at *; omega
  have g1 : (k != 1) = true := by simp [bne, f1]
  have g2 : (k != 2) = false := by simp [bne, f2]
  have f3 : (k == 3) = false := by simp at *; omega
  unfold nsB noB
  obtain ⟨V, hV⟩ : ∃ V, w.alloc (.cells #[.int .i64 k, .int .i64 tb, .int .i64 i, .int .i64 u.1, .int .i64 u.2.1, .string u.2.2, .int .i64 v.1, .int .i64 v.2.1, .string v.2.2, .int .i64 c, .slice sa sn sc, .slice wa wn wc, .int .i64 o, .bool d] 52) = V := ⟨_, rfl⟩
  have BV : Hid (Below w.heap.size w V) := by unfold Hid; rw [← hV]; exact (Below.refl _ _).alloc (Nat.le_refl _) _
  have X : Hid (Box V w.heap.size 52 #[.int .i64 k, .int .i64 tb, .int .i64 i, .int .i64 u.1, .int .i64 u.2.1, .string u.2.2, .int .i64 v.1, .int .i64 v.2.1, .string v.2.2, .int .i64 c, .slice sa sn sc, .slice wa wn wc, .int .i64 o, .bool d]) := by unfold Hid; rw [← hV]; exact Box.new _ _ _
  have DI : Hid (∀ W, Below w.heap.size w W → Calls Tryd.prog 50 #[.int .i64 k, .int .i64 1, .int .i64 4] W fun e w' => e = .returned (.bool (inB k 1 4)) ∧ w' = W) := fun W hW => c_in k 1 4 W
  have DT : Hid (∀ W, Below w.heap.size w W → Calls Tryd.prog 50 #[.int .i64 tb, .int .i64 1, .int .i64 3] W fun e w' => e = .returned (.bool (inB tb 1 3)) ∧ w' = W) := fun W hW => c_in tb 1 3 W
  have DW : Hid (∀ W, Below w.heap.size w W → Calls Tryd.prog 79 #[.agg #[.slice wa wn wc]] W fun e w' => e = .returned (.bool (wn == 0)) ∧ Below W.heap.size W w') := fun W hW => c_none wa wn wc W
  have DR : Hid (∀ W, Below w.heap.size w W → Calls Tryd.prog 51 #[.agg #[.int .i64 i, .int .i64 u.1, .int .i64 u.2.1, .string u.2.2, .int .i64 v.1, .int .i64 v.2.1, .string v.2.2]] W fun e w' => e = .returned (.bool (rowB i u v)) ∧ Below W.heap.size W w') := fun W hW => c_lRow i u v W h1 h2
  have DS : Hid (∀ W, Below w.heap.size w W → Calls Tryd.prog 79 #[.agg #[.slice sa sn sc]] W fun e w' => e = .returned (.bool (sn == 0)) ∧ Below W.heap.size W w') := fun W hW => c_none sa sn sc W
  have HE : ∀ W, (Op.equalIn 10000 50 (.agg #[.int .i64 i, .int .i64 u.1, .int .i64 u.2.1, .string u.2.2, .int .i64 v.1, .int .i64 v.2.1, .string v.2.2]) (.agg #[.int .i64 0, .int .i64 0, .int .i64 0, .string ⟨#[]⟩, .int .i64 0, .int .i64 0, .string ⟨#[]⟩])).run Tryd.prog W = .ok (rowZ i u v) W := eqZ i u v
  rw [kI] at DI
  clear kI
  obtain ⟨pt, ept⟩ : ∃ b, inB tb 1 3 = b := ⟨_, rfl⟩
  rw [ept] at DT ⊢
  clear ept
  obtain ⟨rz, erz⟩ : ∃ b, rowZ i u v = b := ⟨_, rfl⟩
  rw [erz] at HE
  clear erz
  obtain ⟨pr, epr⟩ : ∃ b, rowB i u v = b := ⟨_, rfl⟩
  rw [epr] at DR ⊢
  clear epr
  obtain ⟨pl, epl⟩ : ∃ b, (wn == 0) = b := ⟨_, rfl⟩
  rw [epl] at DW ⊢
  clear epl
  obtain ⟨pq, epq⟩ : ∃ b, (sn == 0) = b := ⟨_, rfl⟩
  rw [epq] at DS ⊢
  clear epq
  obtain ⟨pz, epz⟩ : ∃ b, (c == 0) = b := ⟨_, rfl⟩
  have gz : (c != 0) = !pz := by simp only [bne, epz]
  rw [epz]
  clear epz
  obtain ⟨pz0, epz0⟩ : ∃ b, (o == 0) = b := ⟨_, rfl⟩
  rw [epz0]
  clear h1 h2 s2 hs s3 w2 hw w3
  have D0 := DI.out V BV.out
  obtain ⟨x0, x1, x2, x3, x4, x5, x6, x7, x8, x9, x10, x11, x12, x13⟩ := box14 X.out
  go_enter Tryd.func39, Tryd.ntmps39
  go_wp2_with fail
  refine D0.mono ?_
  rintro e W0 ⟨rfl, hw⟩
  rw [hw]
  clear hw D0 DI hV
  clear x0 x1 x2 x3 x4 x5 x6 x7 x8 x9 x10 x11 x12 x13
  obtain ⟨x0, x1, x2, x3, x4, x5, x6, x7, x8, x9, x10, x11, x12, x13⟩ := box14 X.out
  have D1 := DT.out V BV.out
  go_wp2_with fail
  refine D1.mono ?_
  rintro e W1 ⟨rfl, hw⟩
  rw [hw]
  clear hw D1 x0 x1 x2 x3 x4 x5 x6 x7 x8 x9 x10 x11 x12 x13
  cases pt
  · obtain ⟨x0, x1, x2, x3, x4, x5, x6, x7, x8, x9, x10, x11, x12, x13⟩ := box14 X.out
    go_wp2
    go_ret
    exact ⟨ret_bool (by simp), BV.out⟩
  obtain ⟨x0, x1, x2, x3, x4, x5, x6, x7, x8, x9, x10, x11, x12, x13⟩ := box14 X.out
  have D2 := DW.out V BV.out
  go_wp2_with fail
  refine D2.mono ?_
  rintro e W2 ⟨rfl, hb⟩
  have BW2 : Hid (Below w.heap.size w W2) := BV.out.trans (hb.mono BV.out.size)
  have XW2 : Hid (Box W2 w.heap.size 52 #[.int .i64 k, .int .i64 tb, .int .i64 i, .int .i64 u.1, .int .i64 u.2.1, .string u.2.2, .int .i64 v.1, .int .i64 v.2.1, .string v.2.2, .int .i64 c, .slice sa sn sc, .slice wa wn wc, .int .i64 o, .bool d]) := X.out.belowS hb
  clear hb D2 x0 x1 x2 x3 x4 x5 x6 x7 x8 x9 x10 x11 x12 x13
  cases pl
  · obtain ⟨x0, x1, x2, x3, x4, x5, x6, x7, x8, x9, x10, x11, x12, x13⟩ := box14 XW2.out
    go_wp2
    go_ret
    exact ⟨ret_bool (by simp), BW2.out⟩
  · obtain ⟨x0, x1, x2, x3, x4, x5, x6, x7, x8, x9, x10, x11, x12, x13⟩ := box14 XW2.out
    have D3 := DR.out W2 BW2.out
    go_wp2_with fail
    refine D3.mono ?_
    rintro e W3 ⟨rfl, hb⟩
    have BW3 : Hid (Below w.heap.size w W3) := BW2.out.trans (hb.mono BW2.out.size)
    have XW3 : Hid (Box W3 w.heap.size 52 #[.int .i64 k, .int .i64 tb, .int .i64 i, .int .i64 u.1, .int .i64 u.2.1, .string u.2.2, .int .i64 v.1, .int .i64 v.2.1, .string v.2.2, .int .i64 c, .slice sa sn sc, .slice wa wn wc, .int .i64 o, .bool d]) := XW2.out.belowS hb
    clear hb D3 x0 x1 x2 x3 x4 x5 x6 x7 x8 x9 x10 x11 x12 x13
    cases pr
    · obtain ⟨x0, x1, x2, x3, x4, x5, x6, x7, x8, x9, x10, x11, x12, x13⟩ := box14 XW3.out
      go_wp2
      go_ret
      exact ⟨ret_bool (by simp), BW3.out⟩
    cases pz
    · obtain ⟨x0, x1, x2, x3, x4, x5, x6, x7, x8, x9, x10, x11, x12, x13⟩ := box14 XW3.out
      go_wp2
      go_ret
      exact ⟨ret_bool (by simp), BW3.out⟩
    obtain ⟨x0, x1, x2, x3, x4, x5, x6, x7, x8, x9, x10, x11, x12, x13⟩ := box14 XW3.out
    have D4 := DS.out W3 BW3.out
    go_wp2_with fail
    refine D4.mono ?_
    rintro e W4 ⟨rfl, hb⟩
    have BW4 : Hid (Below w.heap.size w W4) := BW3.out.trans (hb.mono BW3.out.size)
    have XW4 : Hid (Box W4 w.heap.size 52 #[.int .i64 k, .int .i64 tb, .int .i64 i, .int .i64 u.1, .int .i64 u.2.1, .string u.2.2, .int .i64 v.1, .int .i64 v.2.1, .string v.2.2, .int .i64 c, .slice sa sn sc, .slice wa wn wc, .int .i64 o, .bool d]) := XW3.out.belowS hb
    clear hb D4 x0 x1 x2 x3 x4 x5 x6 x7 x8 x9 x10 x11 x12 x13
    cases pq
    · obtain ⟨x0, x1, x2, x3, x4, x5, x6, x7, x8, x9, x10, x11, x12, x13⟩ := box14 XW4.out
      go_wp2
      go_ret
      exact ⟨ret_bool (by simp), BW4.out⟩
    obtain ⟨x0, x1, x2, x3, x4, x5, x6, x7, x8, x9, x10, x11, x12, x13⟩ := box14 XW4.out
    cases pz0 <;> cases d
    all_goals
      go_wp2
      go_ret
      exact ⟨ret_bool (by simp), BW4.out⟩
set_option maxRecDepth 100000 in
set_option maxHeartbeats 4000000 in
theorem c_sK3 (k tb i : Int) (u v : VV) (c : Int) (sa : Option Addr) (sn sc : Nat) (wa : Option Addr) (wn wc : Nat) (o : Int) (d : Bool) (LS LW : List EN) (w : World) (h1 : u.2.2.size ≤ maxLen) (h2 : v.2.2.size ≤ maxLen) (s2 : RdE w sa sn LS) (hs : sn ≤ 1048576) (s3 : ∀ x ∈ LS, x.t.size ≤ maxLen) (w2 : RdE w wa wn LW) (hw : wn ≤ 1048576) (w3 : ∀ x ∈ LW, x.t.size ≤ maxLen) (f1 : (k == 1) = false) (f2 : (k == 2) = false) (f3 : (k == 3) = true) :
    Calls Tryd.prog 39 #[.agg #[.int .i64 k, .int .i64 tb, .int .i64 i, .int .i64 u.1, .int .i64 u.2.1, .string u.2.2, .int .i64 v.1, .int .i64 v.2.1, .string v.2.2, .int .i64 c, .slice sa sn sc, .slice wa wn wc, .int .i64 o, .bool d]] w fun e w' => e = .returned (.bool (inB tb 1 3 && (rowZ i u v && (inB c 1 2 && (okX LS sn && ((wn == 0 || okX LW wn) && noB o d)))))) ∧ Below w.heap.size w w' := by
  have kI : inB k 1 4 = true := by simp [inB] at *; omega
  have g1 : (k != 1) = true := by simp [bne, f1]
  have g2 : (k != 2) = true := by simp [bne, f2]
  unfold  noB
  obtain ⟨V, hV⟩ : ∃ V, w.alloc (.cells #[.int .i64 k, .int .i64 tb, .int .i64 i, .int .i64 u.1, .int .i64 u.2.1, .string u.2.2, .int .i64 v.1, .int .i64 v.2.1, .string v.2.2, .int .i64 c, .slice sa sn sc, .slice wa wn wc, .int .i64 o, .bool d] 52) = V := ⟨_, rfl⟩
  have BV : Hid (Below w.heap.size w V) := by unfold Hid; rw [← hV]; exact (Below.refl _ _).alloc (Nat.le_refl _) _
  have X : Hid (Box V w.heap.size 52 #[.int .i64 k, .int .i64 tb, .int .i64 i, .int .i64 u.1, .int .i64 u.2.1, .string u.2.2, .int .i64 v.1, .int .i64 v.2.1, .string v.2.2, .int .i64 c, .slice sa sn sc, .slice wa wn wc, .int .i64 o, .bool d]) := by unfold Hid; rw [← hV]; exact Box.new _ _ _
  have DI : Hid (∀ W, Below w.heap.size w W → Calls Tryd.prog 50 #[.int .i64 k, .int .i64 1, .int .i64 4] W fun e w' => e = .returned (.bool (inB k 1 4)) ∧ w' = W) := fun W hW => c_in k 1 4 W
  have DT : Hid (∀ W, Below w.heap.size w W → Calls Tryd.prog 50 #[.int .i64 tb, .int .i64 1, .int .i64 3] W fun e w' => e = .returned (.bool (inB tb 1 3)) ∧ w' = W) := fun W hW => c_in tb 1 3 W
  have DW : Hid (∀ W, Below w.heap.size w W → Calls Tryd.prog 79 #[.agg #[.slice wa wn wc]] W fun e w' => e = .returned (.bool (wn == 0)) ∧ Below W.heap.size W w') := fun W hW => c_none wa wn wc W
  have DX : Hid (∀ W, Below w.heap.size w W → Calls Tryd.prog 28 #[.agg #[.slice wa wn wc]] W fun e w' => e = .returned (.bool (okX LW wn)) ∧ Below W.heap.size W w') := fun W hW => c_specX LW wa wn wc W (w2.below hW) hw w3
  have DC : Hid (∀ W, Below w.heap.size w W → Calls Tryd.prog 50 #[.int .i64 c, .int .i64 1, .int .i64 2] W fun e w' => e = .returned (.bool (inB c 1 2)) ∧ w' = W) := fun W hW => c_in c 1 2 W
  have DY : Hid (∀ W, Below w.heap.size w W → Calls Tryd.prog 28 #[.agg #[.slice sa sn sc]] W fun e w' => e = .returned (.bool (okX LS sn)) ∧ Below W.heap.size W w') := fun W hW => c_specX LS sa sn sc W (s2.below hW) hs s3
  have HE : ∀ W, (Op.equalIn 10000 50 (.agg #[.int .i64 i, .int .i64 u.1, .int .i64 u.2.1, .string u.2.2, .int .i64 v.1, .int .i64 v.2.1, .string v.2.2]) (.agg #[.int .i64 0, .int .i64 0, .int .i64 0, .string ⟨#[]⟩, .int .i64 0, .int .i64 0, .string ⟨#[]⟩])).run Tryd.prog W = .ok (rowZ i u v) W := eqZ i u v
  rw [kI] at DI
  clear kI
  obtain ⟨pt, ept⟩ : ∃ b, inB tb 1 3 = b := ⟨_, rfl⟩
  rw [ept] at DT ⊢
  clear ept
  obtain ⟨rz, erz⟩ : ∃ b, rowZ i u v = b := ⟨_, rfl⟩
  rw [erz] at HE ⊢
  clear erz
  obtain ⟨ps, eps⟩ : ∃ b, inB c 1 2 = b := ⟨_, rfl⟩
  rw [eps] at DC ⊢
  clear eps
  obtain ⟨pe, epe⟩ : ∃ b, okX LS sn = b := ⟨_, rfl⟩
  rw [epe] at DY ⊢
  clear epe
  obtain ⟨pl, epl⟩ : ∃ b, (wn == 0) = b := ⟨_, rfl⟩
  rw [epl] at DW ⊢
  clear epl
  obtain ⟨px, epx⟩ : ∃ b, okX LW wn = b := ⟨_, rfl⟩
  rw [epx] at DX ⊢
  clear epx
  obtain ⟨pz0, epz0⟩ : ∃ b, (o == 0) = b := ⟨_, rfl⟩
  rw [epz0]
  clear h1 h2 s2 hs s3 w2 hw w3
  have D0 := DI.out V BV.out
  obtain ⟨x0, x1, x2, x3, x4, x5, x6, x7, x8, x9, x10, x11, x12, x13⟩ := box14 X.out
  go_enter Tryd.func39, Tryd.ntmps39
  go_wp2_with fail
  refine D0.mono ?_
  rintro e W0 ⟨rfl, hw⟩
  rw [hw]
  clear hw D0 DI hV
  clear x0 x1 x2 x3 x4 x5 x6 x7 x8 x9 x10 x11 x12 x13
  obtain ⟨x0, x1, x2, x3, x4, x5, x6, x7, x8, x9, x10, x11, x12, x13⟩ := box14 X.out
  have D1 := DT.out V BV.out
  go_wp2_with fail
  refine D1.mono ?_
  rintro e W1 ⟨rfl, hw⟩
  rw [hw]
  clear hw D1 x0 x1 x2 x3 x4 x5 x6 x7 x8 x9 x10 x11 x12 x13
  cases pt
  · obtain ⟨x0, x1, x2, x3, x4, x5, x6, x7, x8, x9, x10, x11, x12, x13⟩ := box14 X.out
    go_wp2
    go_ret
    exact ⟨ret_bool (by simp), BV.out⟩
  obtain ⟨x0, x1, x2, x3, x4, x5, x6, x7, x8, x9, x10, x11, x12, x13⟩ := box14 X.out
  have D2 := DW.out V BV.out
  go_wp2_with fail
  refine D2.mono ?_
  rintro e W2 ⟨rfl, hb⟩
  have BW2 : Hid (Below w.heap.size w W2) := BV.out.trans (hb.mono BV.out.size)
  have XW2 : Hid (Box W2 w.heap.size 52 #[.int .i64 k, .int .i64 tb, .int .i64 i, .int .i64 u.1, .int .i64 u.2.1, .string u.2.2, .int .i64 v.1, .int .i64 v.2.1, .string v.2.2, .int .i64 c, .slice sa sn sc, .slice wa wn wc, .int .i64 o, .bool d]) := X.out.belowS hb
  clear hb D2 x0 x1 x2 x3 x4 x5 x6 x7 x8 x9 x10 x11 x12 x13
  cases pl
  · obtain ⟨x0, x1, x2, x3, x4, x5, x6, x7, x8, x9, x10, x11, x12, x13⟩ := box14 XW2.out
    have D3 := DX.out W2 BW2.out
    go_wp2_with fail
    refine D3.mono ?_
    rintro e W3 ⟨rfl, hb⟩
    have BW3 : Hid (Below w.heap.size w W3) := BW2.out.trans (hb.mono BW2.out.size)
    have XW3 : Hid (Box W3 w.heap.size 52 #[.int .i64 k, .int .i64 tb, .int .i64 i, .int .i64 u.1, .int .i64 u.2.1, .string u.2.2, .int .i64 v.1, .int .i64 v.2.1, .string v.2.2, .int .i64 c, .slice sa sn sc, .slice wa wn wc, .int .i64 o, .bool d]) := XW2.out.belowS hb
    clear hb D3 x0 x1 x2 x3 x4 x5 x6 x7 x8 x9 x10 x11 x12 x13
    cases px
    · obtain ⟨x0, x1, x2, x3, x4, x5, x6, x7, x8, x9, x10, x11, x12, x13⟩ := box14 XW3.out
      go_wp2
      go_ret
      exact ⟨ret_bool (by simp), BW3.out⟩
    · cases rz
      · obtain ⟨x0, x1, x2, x3, x4, x5, x6, x7, x8, x9, x10, x11, x12, x13⟩ := box14 XW3.out
        go_wp2
        go_ret
        exact ⟨ret_bool (by simp), BW3.out⟩
      obtain ⟨x0, x1, x2, x3, x4, x5, x6, x7, x8, x9, x10, x11, x12, x13⟩ := box14 XW3.out
      have D4 := DC.out W3 BW3.out
      go_wp2_with fail
      refine D4.mono ?_
      rintro e W4 ⟨rfl, hw⟩
      rw [hw]
      clear hw D4 x0 x1 x2 x3 x4 x5 x6 x7 x8 x9 x10 x11 x12 x13
      cases ps
      · obtain ⟨x0, x1, x2, x3, x4, x5, x6, x7, x8, x9, x10, x11, x12, x13⟩ := box14 XW3.out
        go_wp2
        go_ret
        exact ⟨ret_bool (by simp), BW3.out⟩
      obtain ⟨x0, x1, x2, x3, x4, x5, x6, x7, x8, x9, x10, x11, x12, x13⟩ := box14 XW3.out
      have D5 := DY.out W3 BW3.out
      go_wp2_with fail
      refine D5.mono ?_
      rintro e W5 ⟨rfl, hb⟩
      have BW5 : Hid (Below w.heap.size w W5) := BW3.out.trans (hb.mono BW3.out.size)
      have XW5 : Hid (Box W5 w.heap.size 52 #[.int .i64 k, .int .i64 tb, .int .i64 i, .int .i64 u.1, .int .i64 u.2.1, .string u.2.2, .int .i64 v.1, .int .i64 v.2.1, .string v.2.2, .int .i64 c, .slice sa sn sc, .slice wa wn wc, .int .i64 o, .bool d]) := XW3.out.belowS hb
      clear hb D5 x0 x1 x2 x3 x4 x5 x6 x7 x8 x9 x10 x11 x12 x13
      cases pe
      · obtain ⟨x0, x1, x2, x3, x4, x5, x6, x7, x8, x9, x10, x11, x12, x13⟩ := box14 XW5.out
        go_wp2
        go_ret
        exact ⟨ret_bool (by simp), BW5.out⟩
      obtain ⟨x0, x1, x2, x3, x4, x5, x6, x7, x8, x9, x10, x11, x12, x13⟩ := box14 XW5.out
      cases pz0 <;> cases d
      all_goals
        go_wp2
        go_ret
        exact ⟨ret_bool (by simp), BW5.out⟩
  · cases rz
    · obtain ⟨x0, x1, x2, x3, x4, x5, x6, x7, x8, x9, x10, x11, x12, x13⟩ := box14 XW2.out
      go_wp2
      go_ret
      exact ⟨ret_bool (by simp), BW2.out⟩
    obtain ⟨x0, x1, x2, x3, x4, x5, x6, x7, x8, x9, x10, x11, x12, x13⟩ := box14 XW2.out
    have D6 := DC.out W2 BW2.out
    go_wp2_with fail
    refine D6.mono ?_
    rintro e W6 ⟨rfl, hw⟩
    rw [hw]
    clear hw D6 x0 x1 x2 x3 x4 x5 x6 x7 x8 x9 x10 x11 x12 x13
    cases ps
    · obtain ⟨x0, x1, x2, x3, x4, x5, x6, x7, x8, x9, x10, x11, x12, x13⟩ := box14 XW2.out
      go_wp2
      go_ret
      exact ⟨ret_bool (by simp), BW2.out⟩
    obtain ⟨x0, x1, x2, x3, x4, x5, x6, x7, x8, x9, x10, x11, x12, x13⟩ := box14 XW2.out
    have D7 := DY.out W2 BW2.out
    go_wp2_with fail
    refine D7.mono ?_
    rintro e W7 ⟨rfl, hb⟩
    have BW7 : Hid (Below w.heap.size w W7) := BW2.out.trans (hb.mono BW2.out.size)
    have XW7 : Hid (Box W7 w.heap.size 52 #[.int .i64 k, .int .i64 tb, .int .i64 i, .int .i64 u.1, .int .i64 u.2.1, .string u.2.2, .int .i64 v.1, .int .i64 v.2.1, .string v.2.2, .int .i64 c, .slice sa sn sc, .slice wa wn wc, .int .i64 o, .bool d]) := XW2.out.belowS hb
    clear hb D7 x0 x1 x2 x3 x4 x5 x6 x7 x8 x9 x10 x11 x12 x13
    cases pe
    · obtain ⟨x0, x1, x2, x3, x4, x5, x6, x7, x8, x9, x10, x11, x12, x13⟩ := box14 XW7.out
      go_wp2
      go_ret
      exact ⟨ret_bool (by simp), BW7.out⟩
    obtain ⟨x0, x1, x2, x3, x4, x5, x6, x7, x8, x9, x10, x11, x12, x13⟩ := box14 XW7.out
    cases pz0 <;> cases d
    all_goals
      go_wp2
      go_ret
      exact ⟨ret_bool (by simp), BW7.out⟩
set_option maxRecDepth 100000 in
set_option maxHeartbeats 4000000 in
theorem c_sK4 (k tb i : Int) (u v : VV) (c : Int) (sa : Option Addr) (sn sc : Nat) (wa : Option Addr) (wn wc : Nat) (o : Int) (d : Bool) (LS LW : List EN) (w : World) (h1 : u.2.2.size ≤ maxLen) (h2 : v.2.2.size ≤ maxLen) (s2 : RdE w sa sn LS) (hs : sn ≤ 1048576) (s3 : ∀ x ∈ LS, x.t.size ≤ maxLen) (w2 : RdE w wa wn LW) (hw : wn ≤ 1048576) (w3 : ∀ x ∈ LW, x.t.size ≤ maxLen) (f1 : (k == 1) = false) (f2 : (k == 2) = false) (f3 : (k == 3) = false) (f4 : (k == 4) = true) :
    Calls Tryd.prog 39 #[.agg #[.int .i64 k, .int .i64 tb, .int .i64 i, .int .i64 u.1, .int .i64 u.2.1, .string u.2.2, .int .i64 v.1, .int .i64 v.2.1, .string v.2.2, .int .i64 c, .slice sa sn sc, .slice wa wn wc, .int .i64 o, .bool d]] w fun e w' => e = .returned (.bool (inB tb 1 3 && (rowZ i u v && (nsB c sn && ((wn == 0 || okX LW wn) && noB o d))))) ∧ Below w.heap.size w w' := by
  have kI : inB k 1 4 = true := by simp [inB] at *; omega
  have g1 : (k != 1) = true := by simp [bne, f1]
  have g2 : (k != 2) = true := by simp [bne, f2]
  unfold nsB noB
  obtain ⟨V, hV⟩ : ∃ V, w.alloc (.cells #[.int .i64 k, .int .i64 tb, .int .i64 i, .int .i64 u.1, .int .i64 u.2.1, .string u.2.2, .int .i64 v.1, .int .i64 v.2.1, .string v.2.2, .int .i64 c, .slice sa sn sc, .slice wa wn wc, .int .i64 o, .bool d] 52) = V := ⟨_, rfl⟩
  have BV : Hid (Below w.heap.size w V) := by unfold Hid; rw [← hV]; exact (Below.refl _ _).alloc (Nat.le_refl _) _
  have X : Hid (Box V w.heap.size 52 #[.int .i64 k, .int .i64 tb, .int .i64 i, .int .i64 u.1, .int .i64 u.2.1, .string u.2.2, .int .i64 v.1, .int .i64 v.2.1, .string v.2.2, .int .i64 c, .slice sa sn sc, .slice wa wn wc, .int .i64 o, .bool d]) := by unfold Hid; rw [← hV]; exact Box.new _ _ _
  have DI : Hid (∀ W, Below w.heap.size w W → Calls Tryd.prog 50 #[.int .i64 k, .int .i64 1, .int .i64 4] W fun e w' => e = .returned (.bool (inB k 1 4)) ∧ w' = W) := fun W hW => c_in k 1 4 W
  have DT : Hid (∀ W, Below w.heap.size w W → Calls Tryd.prog 50 #[.int .i64 tb, .int .i64 1, .int .i64 3] W fun e w' => e = .returned (.bool (inB tb 1 3)) ∧ w' = W) := fun W hW => c_in tb 1 3 W
  have DW : Hid (∀ W, Below w.heap.size w W → Calls Tryd.prog 79 #[.agg #[.slice wa wn wc]] W fun e w' => e = .returned (.bool (wn == 0)) ∧ Below W.heap.size W w') := fun W hW => c_none wa wn wc W
  have DX : Hid (∀ W, Below w.heap.size w W → Calls Tryd.prog 28 #[.agg #[.slice wa wn wc]] W fun e w' => e = .returned (.bool (okX LW wn)) ∧ Below W.heap.size W w') := fun W hW => c_specX LW wa wn wc W (w2.below hW) hw w3
  have DS : Hid (∀ W, Below w.heap.size w W → Calls Tryd.prog 79 #[.agg #[.slice sa sn sc]] W fun e w' => e = .returned (.bool (sn == 0)) ∧ Below W.heap.size W w') := fun W hW => c_none sa sn sc W
  have HE : ∀ W, (Op.equalIn 10000 50 (.agg #[.int .i64 i, .int .i64 u.1, .int .i64 u.2.1, .string u.2.2, .int .i64 v.1, .int .i64 v.2.1, .string v.2.2]) (.agg #[.int .i64 0, .int .i64 0, .int .i64 0, .string ⟨#[]⟩, .int .i64 0, .int .i64 0, .string ⟨#[]⟩])).run Tryd.prog W = .ok (rowZ i u v) W := eqZ i u v
  rw [kI] at DI
  clear kI
  obtain ⟨pt, ept⟩ : ∃ b, inB tb 1 3 = b := ⟨_, rfl⟩
  rw [ept] at DT ⊢
  clear ept
  obtain ⟨rz, erz⟩ : ∃ b, rowZ i u v = b := ⟨_, rfl⟩
  rw [erz] at HE ⊢
  clear erz
  obtain ⟨pl, epl⟩ : ∃ b, (wn == 0) = b := ⟨_, rfl⟩
  rw [epl] at DW ⊢
  clear epl
  obtain ⟨px, epx⟩ : ∃ b, okX LW wn = b := ⟨_, rfl⟩
  rw [epx] at DX ⊢
  clear epx
  obtain ⟨pq, epq⟩ : ∃ b, (sn == 0) = b := ⟨_, rfl⟩
  rw [epq] at DS ⊢
  clear epq
  obtain ⟨pz, epz⟩ : ∃ b, (c == 0) = b := ⟨_, rfl⟩
  have gz : (c != 0) = !pz := by simp only [bne, epz]
  rw [epz]
  clear epz
  obtain ⟨pz0, epz0⟩ : ∃ b, (o == 0) = b := ⟨_, rfl⟩
  rw [epz0]
  clear h1 h2 s2 hs s3 w2 hw w3
  have D0 := DI.out V BV.out
  obtain ⟨x0, x1, x2, x3, x4, x5, x6, x7, x8, x9, x10, x11, x12, x13⟩ := box14 X.out
  go_enter Tryd.func39, Tryd.ntmps39
  go_wp2_with fail
  refine D0.mono ?_
  rintro e W0 ⟨rfl, hw⟩
  rw [hw]
  clear hw D0 DI hV
  clear x0 x1 x2 x3 x4 x5 x6 x7 x8 x9 x10 x11 x12 x13
  obtain ⟨x0, x1, x2, x3, x4, x5, x6, x7, x8, x9, x10, x11, x12, x13⟩ := box14 X.out
  have D1 := DT.out V BV.out
  go_wp2_with fail
  refine D1.mono ?_
  rintro e W1 ⟨rfl, hw⟩
  rw [hw]
  clear hw D1 x0 x1 x2 x3 x4 x5 x6 x7 x8 x9 x10 x11 x12 x13
  cases pt
  · obtain ⟨x0, x1, x2, x3, x4, x5, x6, x7, x8, x9, x10, x11, x12, x13⟩ := box14 X.out
    go_wp2
    go_ret
    exact ⟨ret_bool (by simp), BV.out⟩
  obtain ⟨x0, x1, x2, x3, x4, x5, x6, x7, x8, x9, x10, x11, x12, x13⟩ := box14 X.out
  have D2 := DW.out V BV.out
  go_wp2_with fail
  refine D2.mono ?_
  rintro e W2 ⟨rfl, hb⟩
  have BW2 : Hid (Below w.heap.size w W2) := BV.out.trans (hb.mono BV.out.size)
  have XW2 : Hid (Box W2 w.heap.size 52 #[.int .i64 k, .int .i64 tb, .int .i64 i, .int .i64 u.1, .int .i64 u.2.1, .string u.2.2, .int .i64 v.1, .int .i64 v.2.1, .string v.2.2, .int .i64 c, .slice sa sn sc, .slice wa wn wc, .int .i64 o, .bool d]) := X.out.belowS hb
  clear hb D2 x0 x1 x2 x3 x4 x5 x6 x7 x8 x9 x10 x11 x12 x13
  cases pl
  · obtain ⟨x0, x1, x2, x3, x4, x5, x6, x7, x8, x9, x10, x11, x12, x13⟩ := box14 XW2.out
    have D3 := DX.out W2 BW2.out
    go_wp2_with fail
    refine D3.mono ?_
    rintro e W3 ⟨rfl, hb⟩
    have BW3 : Hid (Below w.heap.size w W3) := BW2.out.trans (hb.mono BW2.out.size)
    have XW3 : Hid (Box W3 w.heap.size 52 #[.int .i64 k, .int .i64 tb, .int .i64 i, .int .i64 u.1, .int .i64 u.2.1, .string u.2.2, .int .i64 v.1, .int .i64 v.2.1, .string v.2.2, .int .i64 c, .slice sa sn sc, .slice wa wn wc, .int .i64 o, .bool d]) := XW2.out.belowS hb
    clear hb D3 x0 x1 x2 x3 x4 x5 x6 x7 x8 x9 x10 x11 x12 x13
    cases px
    · obtain ⟨x0, x1, x2, x3, x4, x5, x6, x7, x8, x9, x10, x11, x12, x13⟩ := box14 XW3.out
      go_wp2
      go_ret
      exact ⟨ret_bool (by simp), BW3.out⟩
    · cases rz
      · obtain ⟨x0, x1, x2, x3, x4, x5, x6, x7, x8, x9, x10, x11, x12, x13⟩ := box14 XW3.out
        go_wp2
        go_ret
        exact ⟨ret_bool (by simp), BW3.out⟩
      cases pz
      · obtain ⟨x0, x1, x2, x3, x4, x5, x6, x7, x8, x9, x10, x11, x12, x13⟩ := box14 XW3.out
        go_wp2
        go_ret
        exact ⟨ret_bool (by simp), BW3.out⟩
      obtain ⟨x0, x1, x2, x3, x4, x5, x6, x7, x8, x9, x10, x11, x12, x13⟩ := box14 XW3.out
      have D4 := DS.out W3 BW3.out
      go_wp2_with fail
      refine D4.mono ?_
      rintro e W4 ⟨rfl, hb⟩
      have BW4 : Hid (Below w.heap.size w W4) := BW3.out.trans (hb.mono BW3.out.size)
      have XW4 : Hid (Box W4 w.heap.size 52 #[.int .i64 k, .int .i64 tb, .int .i64 i, .int .i64 u.1, .int .i64 u.2.1, .string u.2.2, .int .i64 v.1, .int .i64 v.2.1, .string v.2.2, .int .i64 c, .slice sa sn sc, .slice wa wn wc, .int .i64 o, .bool d]) := XW3.out.belowS hb
      clear hb D4 x0 x1 x2 x3 x4 x5 x6 x7 x8 x9 x10 x11 x12 x13
      cases pq
      · obtain ⟨x0, x1, x2, x3, x4, x5, x6, x7, x8, x9, x10, x11, x12, x13⟩ := box14 XW4.out
        go_wp2
        go_ret
        exact ⟨ret_bool (by simp), BW4.out⟩
      obtain ⟨x0, x1, x2, x3, x4, x5, x6, x7, x8, x9, x10, x11, x12, x13⟩ := box14 XW4.out
      cases pz0 <;> cases d
      all_goals
        go_wp2
        go_ret
        exact ⟨ret_bool (by simp), BW4.out⟩
  · cases rz
    · obtain ⟨x0, x1, x2, x3, x4, x5, x6, x7, x8, x9, x10, x11, x12, x13⟩ := box14 XW2.out
      go_wp2
      go_ret
      exact ⟨ret_bool (by simp), BW2.out⟩
    cases pz
    · obtain ⟨x0, x1, x2, x3, x4, x5, x6, x7, x8, x9, x10, x11, x12, x13⟩ := box14 XW2.out
      go_wp2
      go_ret
      exact ⟨ret_bool (by simp), BW2.out⟩
    obtain ⟨x0, x1, x2, x3, x4, x5, x6, x7, x8, x9, x10, x11, x12, x13⟩ := box14 XW2.out
    have D5 := DS.out W2 BW2.out
    go_wp2_with fail
    refine D5.mono ?_
    rintro e W5 ⟨rfl, hb⟩
    have BW5 : Hid (Below w.heap.size w W5) := BW2.out.trans (hb.mono BW2.out.size)
    have XW5 : Hid (Box W5 w.heap.size 52 #[.int .i64 k, .int .i64 tb, .int .i64 i, .int .i64 u.1, .int .i64 u.2.1, .string u.2.2, .int .i64 v.1, .int .i64 v.2.1, .string v.2.2, .int .i64 c, .slice sa sn sc, .slice wa wn wc, .int .i64 o, .bool d]) := XW2.out.belowS hb
    clear hb D5 x0 x1 x2 x3 x4 x5 x6 x7 x8 x9 x10 x11 x12 x13
    cases pq
    · obtain ⟨x0, x1, x2, x3, x4, x5, x6, x7, x8, x9, x10, x11, x12, x13⟩ := box14 XW5.out
      go_wp2
      go_ret
      exact ⟨ret_bool (by simp), BW5.out⟩
    obtain ⟨x0, x1, x2, x3, x4, x5, x6, x7, x8, x9, x10, x11, x12, x13⟩ := box14 XW5.out
    cases pz0 <;> cases d
    all_goals
      go_wp2
      go_ret
      exact ⟨ret_bool (by simp), BW5.out⟩
set_option maxRecDepth 100000 in
set_option maxHeartbeats 4000000 in
theorem c_sK5 (k tb i : Int) (u v : VV) (c : Int) (sa : Option Addr) (sn sc : Nat) (wa : Option Addr) (wn wc : Nat) (o : Int) (d : Bool) (LS LW : List EN) (w : World) (h1 : u.2.2.size ≤ maxLen) (h2 : v.2.2.size ≤ maxLen) (s2 : RdE w sa sn LS) (hs : sn ≤ 1048576) (s3 : ∀ x ∈ LS, x.t.size ≤ maxLen) (w2 : RdE w wa wn LW) (hw : wn ≤ 1048576) (w3 : ∀ x ∈ LW, x.t.size ≤ maxLen) (f1 : (k == 1) = false) (f2 : (k == 2) = false) (f3 : (k == 3) = false) (f4 : (k == 4) = false) :
    Calls Tryd.prog 39 #[.agg #[.int .i64 k, .int .i64 tb, .int .i64 i, .int .i64 u.1, .int .i64 u.2.1, .string u.2.2, .int .i64 v.1, .int .i64 v.2.1, .string v.2.2, .int .i64 c, .slice sa sn sc, .slice wa wn wc, .int .i64 o, .bool d]] w fun e w' => e = .returned (.bool (inB tb 1 3 && false)) ∧ Below w.heap.size w w' := by
  have kI : inB k 1 4 = false := by simp [inB] at *; omega
  have g1 : (k != 1) = true := by simp [bne, f1]
  have g2 : (k != 2) = true := by simp [bne, f2]
  obtain ⟨V, hV⟩ : ∃ V, w.alloc (.cells #[.int .i64 k, .int .i64 tb, .int .i64 i, .int .i64 u.1, .int .i64 u.2.1, .string u.2.2, .int .i64 v.1, .int .i64 v.2.1, .string v.2.2, .int .i64 c, .slice sa sn sc, .slice wa wn wc, .int .i64 o, .bool d] 52) = V := ⟨_, rfl⟩
  have BV : Hid (Below w.heap.size w V) := by unfold Hid; rw [← hV]; exact (Below.refl _ _).alloc (Nat.le_refl _) _
  have X : Hid (Box V w.heap.size 52 #[.int .i64 k, .int .i64 tb, .int .i64 i, .int .i64 u.1, .int .i64 u.2.1, .string u.2.2, .int .i64 v.1, .int .i64 v.2.1, .string v.2.2, .int .i64 c, .slice sa sn sc, .slice wa wn wc, .int .i64 o, .bool d]) := by unfold Hid; rw [← hV]; exact Box.new _ _ _
  have DI : Hid (∀ W, Below w.heap.size w W → Calls Tryd.prog 50 #[.int .i64 k, .int .i64 1, .int .i64 4] W fun e w' => e = .returned (.bool (inB k 1 4)) ∧ w' = W) := fun W hW => c_in k 1 4 W
  have HE : ∀ W, (Op.equalIn 10000 50 (.agg #[.int .i64 i, .int .i64 u.1, .int .i64 u.2.1, .string u.2.2, .int .i64 v.1, .int .i64 v.2.1, .string v.2.2]) (.agg #[.int .i64 0, .int .i64 0, .int .i64 0, .string ⟨#[]⟩, .int .i64 0, .int .i64 0, .string ⟨#[]⟩])).run Tryd.prog W = .ok (rowZ i u v) W := eqZ i u v
  rw [kI] at DI
  clear kI
  obtain ⟨rz, erz⟩ : ∃ b, rowZ i u v = b := ⟨_, rfl⟩
  rw [erz] at HE
  clear erz
  generalize inB tb 1 3 = pt
  clear h1 h2 s2 hs s3 w2 hw w3
  have D0 := DI.out V BV.out
  obtain ⟨x0, x1, x2, x3, x4, x5, x6, x7, x8, x9, x10, x11, x12, x13⟩ := box14 X.out
  go_enter Tryd.func39, Tryd.ntmps39
  go_wp2_with fail
  refine D0.mono ?_
  rintro e W0 ⟨rfl, hw⟩
  rw [hw]
  clear hw D0 DI hV
  go_wp2
  go_ret
  exact ⟨ret_bool (by simp), BV.out⟩
theorem c_specSt (k tb i : Int) (u v : VV) (c : Int) (sa : Option Addr) (sn sc : Nat) (wa : Option Addr) (wn wc : Nat) (o : Int) (d : Bool) (LS LW : List EN) (w : World) (h1 : u.2.2.size ≤ maxLen) (h2 : v.2.2.size ≤ maxLen) (s2 : RdE w sa sn LS) (hs : sn ≤ 1048576) (s3 : ∀ x ∈ LS, x.t.size ≤ maxLen) (w2 : RdE w wa wn LW) (hw : wn ≤ 1048576) (w3 : ∀ x ∈ LW, x.t.size ≤ maxLen) :
    Calls Tryd.prog 39 #[.agg #[.int .i64 k, .int .i64 tb, .int .i64 i, .int .i64 u.1, .int .i64 u.2.1, .string u.2.2, .int .i64 v.1, .int .i64 v.2.1, .string v.2.2, .int .i64 c, .slice sa sn sc, .slice wa wn wc, .int .i64 o, .bool d]] w fun e w' => e = .returned (.bool (stB k tb (rowZ i u v) (rowB i u v) c sn (okX LS sn) wn (okX LW wn) o d)) ∧ Below w.heap.size w w' := by
  unfold stB
  by_cases k1 : k = 1
  · rw [if_pos k1]
    exact c_sK1 k tb i u v c sa sn sc wa wn wc o d LS LW w h1 h2 s2 hs s3 w2 hw w3 (by simp [k1])
  by_cases k2 : k = 2
  · rw [if_neg k1, if_pos k2]
    exact c_sK2 k tb i u v c sa sn sc wa wn wc o d LS LW w h1 h2 s2 hs s3 w2 hw w3 (by simp [k2]) (by simp [k2])
  by_cases k3 : k = 3
  · rw [if_neg k1, if_neg k2, if_pos k3]
    exact c_sK3 k tb i u v c sa sn sc wa wn wc o d LS LW w h1 h2 s2 hs s3 w2 hw w3 (by simp [k3]) (by simp [k3]) (by simp [k3])
  by_cases k4 : k = 4
  · rw [if_neg k1, if_neg k2, if_neg k3, if_pos k4]
    exact c_sK4 k tb i u v c sa sn sc wa wn wc o d LS LW w h1 h2 s2 hs s3 w2 hw w3 (by simp [k4]) (by simp [k4]) (by simp [k4]) (by simp [k4])
  · rw [if_neg k1, if_neg k2, if_neg k3, if_neg k4]
    exact c_sK5 k tb i u v c sa sn sc wa wn wc o d LS LW w h1 h2 s2 hs s3 w2 hw w3 (by simp [k1]) (by simp [k2]) (by simp [k3]) (by simp [k4])

end Go.Proofs.YtknjglgellhchaaDoor
