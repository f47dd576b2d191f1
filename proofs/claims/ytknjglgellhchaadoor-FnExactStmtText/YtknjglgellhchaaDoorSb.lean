/-
  StmtOK on both sides.
-/
import Derived.Test.YtknjglgellhchaaDoorSa
import Derived.Deep.RegionHeld3
namespace Go.Proofs.YtknjglgellhchaaDoor
open Go Go.RowKit
attribute [local go_sem ↓] Go.wp_at_zero Go.wp_at_succ

set_option linter.unusedVariables false
def rowZ (i : Int) (u v : VV) : Bool := i == 0 && ((u.1 == 0 && (u.2.1 == 0 && u.2.2.toList == [])) && (v.1 == 0 && (v.2.1 == 0 && v.2.2.toList == [])))
theorem eqZ (i : Int) (u v : VV) (W : World) : (Op.equalIn 10000 50 (.agg #[.int .i64 i, .int .i64 u.1, .int .i64 u.2.1, .string u.2.2, .int .i64 v.1, .int .i64 v.2.1, .string v.2.2]) (.agg #[.int .i64 0, .int .i64 0, .int .i64 0, .string ⟨#[]⟩, .int .i64 0, .int .i64 0, .string ⟨#[]⟩])).run Tryd.prog W = .ok (rowZ i u v) W := by
  simp [go_sem]
  repeat' split
  all_goals simp_all [rowZ]
theorem box14 {w : World} {g : Nat} {t : TypeId} {v0 v1 v2 v3 v4 v5 v6 v7 v8 v9 v10 v11 v12 v13 : Value} (h : Box w g t #[v0, v1, v2, v3, v4, v5, v6, v7, v8, v9, v10, v11, v12, v13]) : w.cell? ⟨g, 0, none⟩ = some v0 ∧ w.cell? ⟨g, 1, none⟩ = some v1 ∧ w.cell? ⟨g, 2, none⟩ = some v2 ∧ w.cell? ⟨g, 3, none⟩ = some v3 ∧ w.cell? ⟨g, 4, none⟩ = some v4 ∧ w.cell? ⟨g, 5, none⟩ = some v5 ∧ w.cell? ⟨g, 6, none⟩ = some v6 ∧ w.cell? ⟨g, 7, none⟩ = some v7 ∧ w.cell? ⟨g, 8, none⟩ = some v8 ∧ w.cell? ⟨g, 9, none⟩ = some v9 ∧ w.cell? ⟨g, 10, none⟩ = some v10 ∧ w.cell? ⟨g, 11, none⟩ = some v11 ∧ w.cell? ⟨g, 12, none⟩ = some v12 ∧ w.cell? ⟨g, 13, none⟩ = some v13 := ⟨h.cell 0, h.cell 1, h.cell 2, h.cell 3, h.cell 4, h.cell 5, h.cell 6, h.cell 7, h.cell 8, h.cell 9, h.cell 10, h.cell 11, h.cell 12, h.cell 13⟩
def stB (k tb : Int) (rz rk : Bool) (c : Int) (sn : Nat) (okS : Bool) (wn : Nat) (okW : Bool) (o : Int) (d : Bool) : Bool :=
  inB tb 1 3 && (if k = 1 then rz && (nsB c sn && ((wn == 0 || okW) && inB o 0 2))
    else if k = 2 then rk && (nsB c sn && ((wn == 0) && noB o d))
    else if k = 3 then rz && (inB c 1 2 && (okS && ((wn == 0 || okW) && noB o d)))
    else if k = 4 then rz && (nsB c sn && ((wn == 0 || okW) && noB o d))
    else false)
set_option maxRecDepth 100000 in
set_option maxHeartbeats 4000000 in
theorem c_iK1 (k tb i : Int) (u v : VV) (c : Int) (sa : Option Addr) (sn sc : Nat) (wa : Option Addr) (wn wc : Nat) (o : Int) (d : Bool) (LS LW : List EN) (w : World) (h1 : u.2.2.size ≤ maxLen) (h2 : v.2.2.size ≤ maxLen) (s2 : RdE w sa sn LS) (hs : sn ≤ 1048576) (s3 : ∀ x ∈ LS, x.t.size ≤ maxLen) (w2 : RdE w wa wn LW) (hw : wn ≤ 1048576) (w3 : ∀ x ∈ LW, x.t.size ≤ maxLen) (f1 : (k == 1) = true) :
    Calls Tryd.prog 42 #[.agg #[.int .i64 k, .int .i64 tb, .int .i64 i, .int .i64 u.1, .int .i64 u.2.1, .string u.2.2, .int .i64 v.1, .int .i64 v.2.1, .string v.2.2, .int .i64 c, .slice sa sn sc, .slice wa wn wc, .int .i64 o, .bool d]] w fun e w' => e = .returned (.bool (inB tb 1 3 && (rowZ i u v && (nsB c sn && ((wn == 0 || okX LW wn) && inB o 0 2))))) ∧ Below w.heap.size w w' := by
  obtain ⟨V, hV⟩ : ∃ V, w.alloc (.cells #[.int .i64 k, .int .i64 tb, .int .i64 i, .int .i64 u.1, .int .i64 u.2.1, .string u.2.2, .int .i64 v.1, .int .i64 v.2.1, .string v.2.2, .int .i64 c, .slice sa sn sc, .slice wa wn wc, .int .i64 o, .bool d] 52) = V := ⟨_, rfl⟩
  have BV : Hid (Below w.heap.size w V) := by unfold Hid; rw [← hV]; exact (Below.refl _ _).alloc (Nat.le_refl _) _
  have X : Hid (Box V w.heap.size 52 #[.int .i64 k, .int .i64 tb, .int .i64 i, .int .i64 u.1, .int .i64 u.2.1, .string u.2.2, .int .i64 v.1, .int .i64 v.2.1, .string v.2.2, .int .i64 c, .slice sa sn sc, .slice wa wn wc, .int .i64 o, .bool d]) := by unfold Hid; rw [← hV]; exact Box.new _ _ _
  have CT : Hid (∀ W, Below w.heap.size w W → Calls Tryd.prog 82 #[.int .i64 tb] W fun e w' => e = .returned (.bool (inB tb 1 3)) ∧ w' = W) := fun W hW => c_isTable tb W
  have CN : Hid (∀ W, Below w.heap.size w W → Calls Tryd.prog 83 #[.agg #[.int .i64 k, .int .i64 tb, .int .i64 i, .int .i64 u.1, .int .i64 u.2.1, .string u.2.2, .int .i64 v.1, .int .i64 v.2.1, .string v.2.2, .int .i64 c, .slice sa sn sc, .slice wa wn wc, .int .i64 o, .bool d]] W fun e w' => e = .returned (.bool (nsB c sn)) ∧ Below W.heap.size W w') := fun W hW => c_noSet k tb i u v c sa sn sc wa wn wc o d W
  have CW : Hid (∀ W, Below w.heap.size w W → Calls Tryd.prog 84 #[.agg #[.slice wa wn wc]] W fun e w' => e = .returned (.bool (wn == 0 || okX LW wn)) ∧ Below W.heap.size W w') := fun W hW => c_isWhere wa wn wc LW W (w2.below hW) hw w3
  have CC : Hid (∀ W, Below w.heap.size w W → Calls Tryd.prog 85 #[.int .i64 o] W fun e w' => e = .returned (.bool (inB o 0 2)) ∧ w' = W) := fun W hW => c_isCol o W
  have HE : ∀ W, (Op.equalIn 10000 50 (.agg #[.int .i64 i, .int .i64 u.1, .int .i64 u.2.1, .string u.2.2, .int .i64 v.1, .int .i64 v.2.1, .string v.2.2]) (.agg #[.int .i64 0, .int .i64 0, .int .i64 0, .string ⟨#[]⟩, .int .i64 0, .int .i64 0, .string ⟨#[]⟩])).run Tryd.prog W = .ok (rowZ i u v) W := eqZ i u v
  obtain ⟨pt, ept⟩ : ∃ b, inB tb 1 3 = b := ⟨_, rfl⟩
  rw [ept] at CT ⊢
  clear ept
  obtain ⟨rz, erz⟩ : ∃ b, rowZ i u v = b := ⟨_, rfl⟩
  rw [erz] at HE ⊢
  clear erz
  obtain ⟨pn, epn⟩ : ∃ b, nsB c sn = b := ⟨_, rfl⟩
  rw [epn] at CN ⊢
  clear epn
  obtain ⟨pc, epc⟩ : ∃ b, inB o 0 2 = b := ⟨_, rfl⟩
  rw [epc] at CC ⊢
  clear epc
  obtain ⟨pl, epl⟩ : ∃ b, (wn == 0) = b := ⟨_, rfl⟩
  rw [epl] at CW ⊢
  clear epl
  obtain ⟨px, epx⟩ : ∃ b, okX LW wn = b := ⟨_, rfl⟩
  rw [epx] at CW ⊢
  clear epx
  obtain ⟨pw, epw⟩ : ∃ b, (pl || px) = b := ⟨_, rfl⟩
  rw [epw] at CW ⊢
  clear epw
  clear h1 h2 s2 hs s3 w2 hw w3
  have D0 := CT.out V BV.out
  obtain ⟨x0, x1, x2, x3, x4, x5, x6, x7, x8, x9, x10, x11, x12, x13⟩ := box14 X.out
  go_enter Tryd.func42, Tryd.ntmps42
  go_wp2_with fail
  refine D0.mono ?_
  rintro e W0 ⟨rfl, hw⟩
  rw [hw]
  clear hw D0 CT hV
  cases pt
  · go_wp2
    go_ret
    exact ⟨ret_bool (by simp), BV.out⟩
  cases rz
  · go_wp2
    go_ret
    exact ⟨ret_bool (by simp), BV.out⟩
  clear x0 x1 x2 x3 x4 x5 x6 x7 x8 x9 x10 x11 x12 x13
  obtain ⟨x0, x1, x2, x3, x4, x5, x6, x7, x8, x9, x10, x11, x12, x13⟩ := box14 X.out
  have D0 := CN.out V BV.out
  go_wp2_with fail
  refine D0.mono ?_
  rintro e W1 ⟨rfl, hb⟩
  have BW1 : Hid (Below w.heap.size w W1) := BV.out.trans (hb.mono BV.out.size)
  have XW1 : Hid (Box W1 w.heap.size 52 #[.int .i64 k, .int .i64 tb, .int .i64 i, .int .i64 u.1, .int .i64 u.2.1, .string u.2.2, .int .i64 v.1, .int .i64 v.2.1, .string v.2.2, .int .i64 c, .slice sa sn sc, .slice wa wn wc, .int .i64 o, .bool d]) := X.out.belowS hb
  clear hb D0 x0 x1 x2 x3 x4 x5 x6 x7 x8 x9 x10 x11 x12 x13
  cases pn
  · go_wp2
    go_ret
    exact ⟨ret_bool (by simp), BW1.out⟩
  obtain ⟨x0, x1, x2, x3, x4, x5, x6, x7, x8, x9, x10, x11, x12, x13⟩ := box14 XW1.out
  have D1 := CW.out W1 BW1.out
  go_wp2_with fail
  refine D1.mono ?_
  rintro e W2 ⟨rfl, hb⟩
  have BW2 : Hid (Below w.heap.size w W2) := BW1.out.trans (hb.mono BW1.out.size)
  have XW2 : Hid (Box W2 w.heap.size 52 #[.int .i64 k, .int .i64 tb, .int .i64 i, .int .i64 u.1, .int .i64 u.2.1, .string u.2.2, .int .i64 v.1, .int .i64 v.2.1, .string v.2.2, .int .i64 c, .slice sa sn sc, .slice wa wn wc, .int .i64 o, .bool d]) := XW1.out.belowS hb
  clear hb D1 x0 x1 x2 x3 x4 x5 x6 x7 x8 x9 x10 x11 x12 x13
  cases pw
  · go_wp2
    go_ret
    exact ⟨ret_bool (by simp), BW2.out⟩
  obtain ⟨x0, x1, x2, x3, x4, x5, x6, x7, x8, x9, x10, x11, x12, x13⟩ := box14 XW2.out
  have D2 := CC.out W2 BW2.out
  go_wp2_with fail
  refine D2.mono ?_
  rintro e W3 ⟨rfl, hw⟩
  rw [hw]
  clear hw D2 x0 x1 x2 x3 x4 x5 x6 x7 x8 x9 x10 x11 x12 x13
  go_wp2
  go_ret
  exact ⟨ret_bool (by simp), BW2.out⟩
set_option maxRecDepth 100000 in
set_option maxHeartbeats 4000000 in
theorem c_iK2 (k tb i : Int) (u v : VV) (c : Int) (sa : Option Addr) (sn sc : Nat) (wa : Option Addr) (wn wc : Nat) (o : Int) (d : Bool) (LS LW : List EN) (w : World) (h1 : u.2.2.size ≤ maxLen) (h2 : v.2.2.size ≤ maxLen) (s2 : RdE w sa sn LS) (hs : sn ≤ 1048576) (s3 : ∀ x ∈ LS, x.t.size ≤ maxLen) (w2 : RdE w wa wn LW) (hw : wn ≤ 1048576) (w3 : ∀ x ∈ LW, x.t.size ≤ maxLen) (f1 : (k == 1) = false) (f2 : (k == 2) = true) :
    Calls Tryd.prog 42 #[.agg #[.int .i64 k, .int .i64 tb, .int .i64 i, .int .i64 u.1, .int .i64 u.2.1, .string u.2.2, .int .i64 v.1, .int .i64 v.2.1, .string v.2.2, .int .i64 c, .slice sa sn sc, .slice wa wn wc, .int .i64 o, .bool d]] w fun e w' => e = .returned (.bool (inB tb 1 3 && (rowB i u v && (nsB c sn && ((wn == 0) && noB o d))))) ∧ Below w.heap.size w w' := by
  obtain ⟨V, hV⟩ : ∃ V, w.alloc (.cells #[.int .i64 k, .int .i64 tb, .int .i64 i, .int .i64 u.1, .int .i64 u.2.1, .string u.2.2, .int .i64 v.1, .int .i64 v.2.1, .string v.2.2, .int .i64 c, .slice sa sn sc, .slice wa wn wc, .int .i64 o, .bool d] 52) = V := ⟨_, rfl⟩
  have BV : Hid (Below w.heap.size w V) := by unfold Hid; rw [← hV]; exact (Below.refl _ _).alloc (Nat.le_refl _) _
  have X : Hid (Box V w.heap.size 52 #[.int .i64 k, .int .i64 tb, .int .i64 i, .int .i64 u.1, .int .i64 u.2.1, .string u.2.2, .int .i64 v.1, .int .i64 v.2.1, .string v.2.2, .int .i64 c, .slice sa sn sc, .slice wa wn wc, .int .i64 o, .bool d]) := by unfold Hid; rw [← hV]; exact Box.new _ _ _
  have CT : Hid (∀ W, Below w.heap.size w W → Calls Tryd.prog 82 #[.int .i64 tb] W fun e w' => e = .returned (.bool (inB tb 1 3)) ∧ w' = W) := fun W hW => c_isTable tb W
  have CR : Hid (∀ W, Below w.heap.size w W → Calls Tryd.prog 56 #[.agg #[.int .i64 i, .int .i64 u.1, .int .i64 u.2.1, .string u.2.2, .int .i64 v.1, .int .i64 v.2.1, .string v.2.2]] W fun e w' => e = .returned (.bool (rowB i u v)) ∧ Below W.heap.size W w') := fun W hW => c_isRow i u v W h1 h2
  have CN : Hid (∀ W, Below w.heap.size w W → Calls Tryd.prog 83 #[.agg #[.int .i64 k, .int .i64 tb, .int .i64 i, .int .i64 u.1, .int .i64 u.2.1, .string u.2.2, .int .i64 v.1, .int .i64 v.2.1, .string v.2.2, .int .i64 c, .slice sa sn sc, .slice wa wn wc, .int .i64 o, .bool d]] W fun e w' => e = .returned (.bool (nsB c sn)) ∧ Below W.heap.size W w') := fun W hW => c_noSet k tb i u v c sa sn sc wa wn wc o d W
  have CL : Hid (∀ W, Below w.heap.size w W → Calls Tryd.prog 45 #[.agg #[.slice wa wn wc]] W fun e w' => e = .returned (.bool (wn == 0)) ∧ Below W.heap.size W w') := fun W hW => c_lacks wa wn wc W
  have CO : Hid (∀ W, Below w.heap.size w W → Calls Tryd.prog 46 #[.agg #[.int .i64 k, .int .i64 tb, .int .i64 i, .int .i64 u.1, .int .i64 u.2.1, .string u.2.2, .int .i64 v.1, .int .i64 v.2.1, .string v.2.2, .int .i64 c, .slice sa sn sc, .slice wa wn wc, .int .i64 o, .bool d]] W fun e w' => e = .returned (.bool (noB o d)) ∧ Below W.heap.size W w') := fun W hW => c_noOrd k tb i u v c sa sn sc wa wn wc o d W
  have HE : ∀ W, (Op.equalIn 10000 50 (.agg #[.int .i64 i, .int .i64 u.1, .int .i64 u.2.1, .string u.2.2, .int .i64 v.1, .int .i64 v.2.1, .string v.2.2]) (.agg #[.int .i64 0, .int .i64 0, .int .i64 0, .string ⟨#[]⟩, .int .i64 0, .int .i64 0, .string ⟨#[]⟩])).run Tryd.prog W = .ok (rowZ i u v) W := eqZ i u v
  obtain ⟨pt, ept⟩ : ∃ b, inB tb 1 3 = b := ⟨_, rfl⟩
  rw [ept] at CT ⊢
  clear ept
  obtain ⟨rz, erz⟩ : ∃ b, rowZ i u v = b := ⟨_, rfl⟩
  rw [erz] at HE
  clear erz
  obtain ⟨pn, epn⟩ : ∃ b, nsB c sn = b := ⟨_, rfl⟩
  rw [epn] at CN ⊢
  clear epn
  obtain ⟨pr, epr⟩ : ∃ b, rowB i u v = b := ⟨_, rfl⟩
  rw [epr] at CR ⊢
  clear epr
  obtain ⟨po, epo⟩ : ∃ b, noB o d = b := ⟨_, rfl⟩
  rw [epo] at CO ⊢
  clear epo
  obtain ⟨pl, epl⟩ : ∃ b, (wn == 0) = b := ⟨_, rfl⟩
  rw [epl] at CL ⊢
  clear epl
  clear h1 h2 s2 hs s3 w2 hw w3
  have D0 := CT.out V BV.out
  obtain ⟨x0, x1, x2, x3, x4, x5, x6, x7, x8, x9, x10, x11, x12, x13⟩ := box14 X.out
  go_enter Tryd.func42, Tryd.ntmps42
  go_wp2_with fail
  refine D0.mono ?_
  rintro e W0 ⟨rfl, hw⟩
  rw [hw]
  clear hw D0 CT hV
  cases pt
  · go_wp2
    go_ret
    exact ⟨ret_bool (by simp), BV.out⟩
  cases rz
  all_goals
    clear x0 x1 x2 x3 x4 x5 x6 x7 x8 x9 x10 x11 x12 x13
    obtain ⟨x0, x1, x2, x3, x4, x5, x6, x7, x8, x9, x10, x11, x12, x13⟩ := box14 X.out
    have D0 := CR.out V BV.out
    go_wp2_with fail
    refine D0.mono ?_
    rintro e W1 ⟨rfl, hb⟩
    have BW1 : Hid (Below w.heap.size w W1) := BV.out.trans (hb.mono BV.out.size)
    have XW1 : Hid (Box W1 w.heap.size 52 #[.int .i64 k, .int .i64 tb, .int .i64 i, .int .i64 u.1, .int .i64 u.2.1, .string u.2.2, .int .i64 v.1, .int .i64 v.2.1, .string v.2.2, .int .i64 c, .slice sa sn sc, .slice wa wn wc, .int .i64 o, .bool d]) := X.out.belowS hb
    clear hb D0 x0 x1 x2 x3 x4 x5 x6 x7 x8 x9 x10 x11 x12 x13
    cases pr
    · go_wp2
      go_ret
      exact ⟨ret_bool (by simp), BW1.out⟩
    obtain ⟨x0, x1, x2, x3, x4, x5, x6, x7, x8, x9, x10, x11, x12, x13⟩ := box14 XW1.out
    have D1 := CN.out W1 BW1.out
    go_wp2_with fail
    refine D1.mono ?_
    rintro e W2 ⟨rfl, hb⟩
    have BW2 : Hid (Below w.heap.size w W2) := BW1.out.trans (hb.mono BW1.out.size)
    have XW2 : Hid (Box W2 w.heap.size 52 #[.int .i64 k, .int .i64 tb, .int .i64 i, .int .i64 u.1, .int .i64 u.2.1, .string u.2.2, .int .i64 v.1, .int .i64 v.2.1, .string v.2.2, .int .i64 c, .slice sa sn sc, .slice wa wn wc, .int .i64 o, .bool d]) := XW1.out.belowS hb
    clear hb D1 x0 x1 x2 x3 x4 x5 x6 x7 x8 x9 x10 x11 x12 x13
    cases pn
    · go_wp2
      go_ret
      exact ⟨ret_bool (by simp), BW2.out⟩
    obtain ⟨x0, x1, x2, x3, x4, x5, x6, x7, x8, x9, x10, x11, x12, x13⟩ := box14 XW2.out
    have D2 := CL.out W2 BW2.out
    go_wp2_with fail
    refine D2.mono ?_
    rintro e W3 ⟨rfl, hb⟩
    have BW3 : Hid (Below w.heap.size w W3) := BW2.out.trans (hb.mono BW2.out.size)
    have XW3 : Hid (Box W3 w.heap.size 52 #[.int .i64 k, .int .i64 tb, .int .i64 i, .int .i64 u.1, .int .i64 u.2.1, .string u.2.2, .int .i64 v.1, .int .i64 v.2.1, .string v.2.2, .int .i64 c, .slice sa sn sc, .slice wa wn wc, .int .i64 o, .bool d]) := XW2.out.belowS hb
    clear hb D2 x0 x1 x2 x3 x4 x5 x6 x7 x8 x9 x10 x11 x12 x13
    cases pl
    · go_wp2
      go_ret
      exact ⟨ret_bool (by simp), BW3.out⟩
    obtain ⟨x0, x1, x2, x3, x4, x5, x6, x7, x8, x9, x10, x11, x12, x13⟩ := box14 XW3.out
    have D3 := CO.out W3 BW3.out
    go_wp2_with fail
    refine D3.mono ?_
    rintro e W4 ⟨rfl, hb⟩
    have BW4 : Hid (Below w.heap.size w W4) := BW3.out.trans (hb.mono BW3.out.size)
    have XW4 : Hid (Box W4 w.heap.size 52 #[.int .i64 k, .int .i64 tb, .int .i64 i, .int .i64 u.1, .int .i64 u.2.1, .string u.2.2, .int .i64 v.1, .int .i64 v.2.1, .string v.2.2, .int .i64 c, .slice sa sn sc, .slice wa wn wc, .int .i64 o, .bool d]) := XW3.out.belowS hb
    clear hb D3 x0 x1 x2 x3 x4 x5 x6 x7 x8 x9 x10 x11 x12 x13
    go_wp2
    go_ret
    exact ⟨ret_bool (by simp), BW4.out⟩
set_option maxRecDepth 100000 in
set_option maxHeartbeats 4000000 in
theorem c_iK3 (k tb i : Int) (u v : VV) (c : Int) (sa : Option Addr) (sn sc : Nat) (wa : Option Addr) (wn wc : Nat) (o : Int) (d : Bool) (LS LW : List EN) (w : World) (h1 : u.2.2.size ≤ maxLen) (h2 : v.2.2.size ≤ maxLen) (s2 : RdE w sa sn LS) (hs : sn ≤ 1048576) (s3 : ∀ x ∈ LS, x.t.size ≤ maxLen) (w2 : RdE w wa wn LW) (hw : wn ≤ 1048576) (w3 : ∀ x ∈ LW, x.t.size ≤ maxLen) (f1 : (k == 1) = false) (f2 : (k == 2) = false) (f3 : (k == 3) = true) :
    Calls Tryd.prog 42 #[.agg #[.int .i64 k, .int .i64 tb, .int .i64 i, .int .i64 u.1, .int .i64 u.2.1, .string u.2.2, .int .i64 v.1, .int .i64 v.2.1, .string v.2.2, .int .i64 c, .slice sa sn sc, .slice wa wn wc, .int .i64 o, .bool d]] w fun e w' => e = .returned (.bool (inB tb 1 3 && (rowZ i u v && (inB c 1 2 && (okX LS sn && ((wn == 0 || okX LW wn) && noB o d)))))) ∧ Below w.heap.size w w' := by
  obtain ⟨V, hV⟩ : ∃ V, w.alloc (.cells #[.int .i64 k, .int .i64 tb, .int .i64 i, .int .i64 u.1, .int .i64 u.2.1, .string u.2.2, .int .i64 v.1, .int .i64 v.2.1, .string v.2.2, .int .i64 c, .slice sa sn sc, .slice wa wn wc, .int .i64 o, .bool d] 52) = V := ⟨_, rfl⟩
  have BV : Hid (Below w.heap.size w V) := by unfold Hid; rw [← hV]; exact (Below.refl _ _).alloc (Nat.le_refl _) _
  have X : Hid (Box V w.heap.size 52 #[.int .i64 k, .int .i64 tb, .int .i64 i, .int .i64 u.1, .int .i64 u.2.1, .string u.2.2, .int .i64 v.1, .int .i64 v.2.1, .string v.2.2, .int .i64 c, .slice sa sn sc, .slice wa wn wc, .int .i64 o, .bool d]) := by unfold Hid; rw [← hV]; exact Box.new _ _ _
  have CT : Hid (∀ W, Below w.heap.size w W → Calls Tryd.prog 82 #[.int .i64 tb] W fun e w' => e = .returned (.bool (inB tb 1 3)) ∧ w' = W) := fun W hW => c_isTable tb W
  have CS : Hid (∀ W, Below w.heap.size w W → Calls Tryd.prog 86 #[.int .i64 c] W fun e w' => e = .returned (.bool (inB c 1 2)) ∧ w' = W) := fun W hW => c_isSet c W
  have CE : Hid (∀ W, Below w.heap.size w W → Calls Tryd.prog 87 #[.agg #[.slice sa sn sc]] W fun e w' => e = .returned (.bool (okX LS sn)) ∧ Below W.heap.size W w') := fun W hW => c_implX LS sa sn sc W (s2.below hW) hs s3
  have CW : Hid (∀ W, Below w.heap.size w W → Calls Tryd.prog 84 #[.agg #[.slice wa wn wc]] W fun e w' => e = .returned (.bool (wn == 0 || okX LW wn)) ∧ Below W.heap.size W w') := fun W hW => c_isWhere wa wn wc LW W (w2.below hW) hw w3
  have CO : Hid (∀ W, Below w.heap.size w W → Calls Tryd.prog 46 #[.agg #[.int .i64 k, .int .i64 tb, .int .i64 i, .int .i64 u.1, .int .i64 u.2.1, .string u.2.2, .int .i64 v.1, .int .i64 v.2.1, .string v.2.2, .int .i64 c, .slice sa sn sc, .slice wa wn wc, .int .i64 o, .bool d]] W fun e w' => e = .returned (.bool (noB o d)) ∧ Below W.heap.size W w') := fun W hW => c_noOrd k tb i u v c sa sn sc wa wn wc o d W
  have HE : ∀ W, (Op.equalIn 10000 50 (.agg #[.int .i64 i, .int .i64 u.1, .int .i64 u.2.1, .string u.2.2, .int .i64 v.1, .int .i64 v.2.1, .string v.2.2]) (.agg #[.int .i64 0, .int .i64 0, .int .i64 0, .string ⟨#[]⟩, .int .i64 0, .int .i64 0, .string ⟨#[]⟩])).run Tryd.prog W = .ok (rowZ i u v) W := eqZ i u v
  obtain ⟨pt, ept⟩ : ∃ b, inB tb 1 3 = b := ⟨_, rfl⟩
  rw [ept] at CT ⊢
  clear ept
  obtain ⟨rz, erz⟩ : ∃ b, rowZ i u v = b := ⟨_, rfl⟩
  rw [erz] at HE ⊢
  clear erz
  obtain ⟨po, epo⟩ : ∃ b, noB o d = b := ⟨_, rfl⟩
  rw [epo] at CO ⊢
  clear epo
  obtain ⟨ps, eps⟩ : ∃ b, inB c 1 2 = b := ⟨_, rfl⟩
  rw [eps] at CS ⊢
  clear eps
  obtain ⟨pe, epe⟩ : ∃ b, okX LS sn = b := ⟨_, rfl⟩
  rw [epe] at CE ⊢
  clear epe
  obtain ⟨pl, epl⟩ : ∃ b, (wn == 0) = b := ⟨_, rfl⟩
  rw [epl] at CW ⊢
  clear epl
  obtain ⟨px, epx⟩ : ∃ b, okX LW wn = b := ⟨_, rfl⟩
  rw [epx] at CW ⊢
  clear epx
  obtain ⟨pw, epw⟩ : ∃ b, (pl || px) = b := ⟨_, rfl⟩
  rw [epw] at CW ⊢
  clear epw
  clear h1 h2 s2 hs s3 w2 hw w3
  have D0 := CT.out V BV.out
  obtain ⟨x0, x1, x2, x3, x4, x5, x6, x7, x8, x9, x10, x11, x12, x13⟩ := box14 X.out
  go_enter Tryd.func42, Tryd.ntmps42
  go_wp2_with fail
  refine D0.mono ?_
  rintro e W0 ⟨rfl, hw⟩
  rw [hw]
  clear hw D0 CT hV
  cases pt
  · go_wp2
    go_ret
    exact ⟨ret_bool (by simp), BV.out⟩
  cases rz
  · go_wp2
    go_ret
    exact ⟨ret_bool (by simp), BV.out⟩
  clear x0 x1 x2 x3 x4 x5 x6 x7 x8 x9 x10 x11 x12 x13
  obtain ⟨x0, x1, x2, x3, x4, x5, x6, x7, x8, x9, x10, x11, x12, x13⟩ := box14 X.out
  have D0 := CS.out V BV.out
  go_wp2_with fail
  refine D0.mono ?_
  rintro e W1 ⟨rfl, hw⟩
  rw [hw]
  clear hw D0 x0 x1 x2 x3 x4 x5 x6 x7 x8 x9 x10 x11 x12 x13
  cases ps
  · go_wp2
    go_ret
    exact ⟨ret_bool (by simp), BV.out⟩
  obtain ⟨x0, x1, x2, x3, x4, x5, x6, x7, x8, x9, x10, x11, x12, x13⟩ := box14 X.out
  have D1 := CE.out V BV.out
  go_wp2_with fail
  refine D1.mono ?_
  rintro e W2 ⟨rfl, hb⟩
  have BW2 : Hid (Below w.heap.size w W2) := BV.out.trans (hb.mono BV.out.size)
  have XW2 : Hid (Box W2 w.heap.size 52 #[.int .i64 k, .int .i64 tb, .int .i64 i, .int .i64 u.1, .int .i64 u.2.1, .string u.2.2, .int .i64 v.1, .int .i64 v.2.1, .string v.2.2, .int .i64 c, .slice sa sn sc, .slice wa wn wc, .int .i64 o, .bool d]) := X.out.belowS hb
  clear hb D1 x0 x1 x2 x3 x4 x5 x6 x7 x8 x9 x10 x11 x12 x13
  cases pe
  · go_wp2
    go_ret
    exact ⟨ret_bool (by simp), BW2.out⟩
  obtain ⟨x0, x1, x2, x3, x4, x5, x6, x7, x8, x9, x10, x11, x12, x13⟩ := box14 XW2.out
  have D2 := CW.out W2 BW2.out
  go_wp2_with fail
  refine D2.mono ?_
  rintro e W3 ⟨rfl, hb⟩
  have BW3 : Hid (Below w.heap.size w W3) := BW2.out.trans (hb.mono BW2.out.size)
  have XW3 : Hid (Box W3 w.heap.size 52 #[.int .i64 k, .int .i64 tb, .int .i64 i, .int .i64 u.1, .int .i64 u.2.1, .string u.2.2, .int .i64 v.1, .int .i64 v.2.1, .string v.2.2, .int .i64 c, .slice sa sn sc, .slice wa wn wc, .int .i64 o, .bool d]) := XW2.out.belowS hb
  clear hb D2 x0 x1 x2 x3 x4 x5 x6 x7 x8 x9 x10 x11 x12 x13
  cases pw
  · go_wp2
    go_ret
    exact ⟨ret_bool (by simp), BW3.out⟩
  obtain ⟨x0, x1, x2, x3, x4, x5, x6, x7, x8, x9, x10, x11, x12, x13⟩ := box14 XW3.out
  have D3 := CO.out W3 BW3.out
  go_wp2_with fail
  refine D3.mono ?_
  rintro e W4 ⟨rfl, hb⟩
  have BW4 : Hid (Below w.heap.size w W4) := BW3.out.trans (hb.mono BW3.out.size)
  have XW4 : Hid (Box W4 w.heap.size 52 #[.int .i64 k, .int .i64 tb, .int .i64 i, .int .i64 u.1, .int .i64 u.2.1, .string u.2.2, .int .i64 v.1, .int .i64 v.2.1, .string v.2.2, .int .i64 c, .slice sa sn sc, .slice wa wn wc, .int .i64 o, .bool d]) := XW3.out.belowS hb
  clear hb D3 x0 x1 x2 x3 x4 x5 x6 x7 x8 x9 x10 x11 x12 x13
  go_wp2
  go_ret
  exact ⟨ret_bool (by simp), BW4.out⟩
set_option maxRecDepth 100000 in
set_option maxHeartbeats 4000000 in
theorem c_iK4 (k tb i : Int) (u v : VV) (c : Int) (sa : Option Addr) (sn sc : Nat) (wa : Option Addr) (wn wc : Nat) (o : Int) (d : Bool) (LS LW : List EN) (w : World) (h1 : u.2.2.size ≤ maxLen) (h2 : v.2.2.size ≤ maxLen) (s2 : RdE w sa sn LS) (hs : sn ≤ 1048576) (s3 : ∀ x ∈ LS, x.t.size ≤ maxLen) (w2 : RdE w wa wn LW) (hw : wn ≤ 1048576) (w3 : ∀ x ∈ LW, x.t.size ≤ maxLen) (f1 : (k == 1) = false) (f2 : (k == 2) = false) (f3 : (k == 3) = false) (f4 : (k == 4) = true) :
    Calls Tryd.prog 42 #[.agg #[.int .i64 k, .int .i64 tb, .int .i64 i, .int .i64 u.1, .int .i64 u.2.1, .string u.2.2, .int .i64 v.1, .int .i64 v.2.1, .string v.2.2, .int .i64 c, .slice sa sn sc, .slice wa wn wc, .int .i64 o, .bool d]] w fun e w' => e = .returned (.bool (inB tb 1 3 && (rowZ i u v && (nsB c sn && ((wn == 0 || okX LW wn) && noB o d))))) ∧ Below w.heap.size w w' := by
  obtain ⟨V, hV⟩ : ∃ V, w.alloc (.cells #[.int .i64 k, .int .i64 tb, .int .i64 i, .int .i64 u.1, .int .i64 u.2.1, .string u.2.2, .int .i64 v.1, .int .i64 v.2.1, .string v.2.2, .int .i64 c, .slice sa sn sc, .slice wa wn wc, .int .i64 o, .bool d] 52) = V := ⟨_, rfl⟩
  have BV : Hid (Below w.heap.size w V) := by unfold Hid; rw [← hV]; exact (Below.refl _ _).alloc (Nat.le_refl _) _
  have X : Hid (Box V w.heap.size 52 #[.int .i64 k, .int .i64 tb, .int .i64 i, .int .i64 u.1, .int .i64 u.2.1, .string u.2.2, .int .i64 v.1, .int .i64 v.2.1, .string v.2.2, .int .i64 c, .slice sa sn sc, .slice wa wn wc, .int .i64 o, .bool d]) := by unfold Hid; rw [← hV]; exact Box.new _ _ _
  have CT : Hid (∀ W, Below w.heap.size w W → Calls Tryd.prog 82 #[.int .i64 tb] W fun e w' => e = .returned (.bool (inB tb 1 3)) ∧ w' = W) := fun W hW => c_isTable tb W
  have CN : Hid (∀ W, Below w.heap.size w W → Calls Tryd.prog 83 #[.agg #[.int .i64 k, .int .i64 tb, .int .i64 i, .int .i64 u.1, .int .i64 u.2.1, .string u.2.2, .int .i64 v.1, .int .i64 v.2.1, .string v.2.2, .int .i64 c, .slice sa sn sc, .slice wa wn wc, .int .i64 o, .bool d]] W fun e w' => e = .returned (.bool (nsB c sn)) ∧ Below W.heap.size W w') := fun W hW => c_noSet k tb i u v c sa sn sc wa wn wc o d W
  have CW : Hid (∀ W, Below w.heap.size w W → Calls Tryd.prog 84 #[.agg #[.slice wa wn wc]] W fun e w' => e = .returned (.bool (wn == 0 || okX LW wn)) ∧ Below W.heap.size W w') := fun W hW => c_isWhere wa wn wc LW W (w2.below hW) hw w3
  have CO : Hid (∀ W, Below w.heap.size w W → Calls Tryd.prog 46 #[.agg #[.int .i64 k, .int .i64 tb, .int .i64 i, .int .i64 u.1, .int .i64 u.2.1, .string u.2.2, .int .i64 v.1, .int .i64 v.2.1, .string v.2.2, .int .i64 c, .slice sa sn sc, .slice wa wn wc, .int .i64 o, .bool d]] W fun e w' => e = .returned (.bool (noB o d)) ∧ Below W.heap.size W w') := fun W hW => c_noOrd k tb i u v c sa sn sc wa wn wc o d W
  have HE : ∀ W, (Op.equalIn 10000 50 (.agg #[.int .i64 i, .int .i64 u.1, .int .i64 u.2.1, .string u.2.2, .int .i64 v.1, .int .i64 v.2.1, .string v.2.2]) (.agg #[.int .i64 0, .int .i64 0, .int .i64 0, .string ⟨#[]⟩, .int .i64 0, .int .i64 0, .string ⟨#[]⟩])).run Tryd.prog W = .ok (rowZ i u v) W := eqZ i u v
  obtain ⟨pt, ept⟩ : ∃ b, inB tb 1 3 = b := ⟨_, rfl⟩
  rw [ept] at CT ⊢
  clear ept
  obtain ⟨rz, erz⟩ : ∃ b, rowZ i u v = b := ⟨_, rfl⟩
  rw [erz] at HE ⊢
  clear erz
  obtain ⟨pn, epn⟩ : ∃ b, nsB c sn = b := ⟨_, rfl⟩
  rw [epn] at CN ⊢
  clear epn
  obtain ⟨po, epo⟩ : ∃ b, noB o d = b := ⟨_, rfl⟩
  rw [epo] at CO ⊢
  clear epo
  obtain ⟨pl, epl⟩ : ∃ b, (wn == 0) = b := ⟨_, rfl⟩
  rw [epl] at CW ⊢
  clear epl
  obtain ⟨px, epx⟩ : ∃ b, okX LW wn = b := ⟨_, rfl⟩
  rw [epx] at CW ⊢
  clear epx
  obtain ⟨pw, epw⟩ : ∃ b, (pl || px) = b := ⟨_, rfl⟩
  rw [epw] at CW ⊢
  clear epw
  clear h1 h2 s2 hs s3 w2 hw w3
  have D0 := CT.out V BV.out
  obtain ⟨x0, x1, x2, x3, x4, x5, x6, x7, x8, x9, x10, x11, x12, x13⟩ := box14 X.out
  go_enter Tryd.func42, Tryd.ntmps42
  go_wp2_with fail
  refine D0.mono ?_
  rintro e W0 ⟨rfl, hw⟩
  rw [hw]
  clear hw D0 CT hV
  cases pt
  · go_wp2
    go_ret
    exact ⟨ret_bool (by simp), BV.out⟩
  cases rz
  · go_wp2
    go_ret
    exact ⟨ret_bool (by simp), BV.out⟩
  clear x0 x1 x2 x3 x4 x5 x6 x7 x8 x9 x10 x11 x12 x13
  obtain ⟨x0, x1, x2, x3, x4, x5, x6, x7, x8, x9, x10, x11, x12, x13⟩ := box14 X.out
  have D0 := CN.out V BV.out
  go_wp2_with fail
  refine D0.mono ?_
  rintro e W1 ⟨rfl, hb⟩
  have BW1 : Hid (Below w.heap.size w W1) := BV.out.trans (hb.mono BV.out.size)
  have XW1 : Hid (Box W1 w.heap.size 52 #[.int .i64 k, .int .i64 tb, .int .i64 i, .int .i64 u.1, .int .i64 u.2.1, .string u.2.2, .int .i64 v.1, .int .i64 v.2.1, .string v.2.2, .int .i64 c, .slice sa sn sc, .slice wa wn wc, .int .i64 o, .bool d]) := X.out.belowS hb
  clear hb D0 x0 x1 x2 x3 x4 x5 x6 x7 x8 x9 x10 x11 x12 x13
  cases pn
  · go_wp2
    go_ret
    exact ⟨ret_bool (by simp), BW1.out⟩
  obtain ⟨x0, x1, x2, x3, x4, x5, x6, x7, x8, x9, x10, x11, x12, x13⟩ := box14 XW1.out
  have D1 := CW.out W1 BW1.out
  go_wp2_with fail
  refine D1.mono ?_
  rintro e W2 ⟨rfl, hb⟩
  have BW2 : Hid (Below w.heap.size w W2) := BW1.out.trans (hb.mono BW1.out.size)
  have XW2 : Hid (Box W2 w.heap.size 52 #[.int .i64 k, .int .i64 tb, .int .i64 i, .int .i64 u.1, .int .i64 u.2.1, .string u.2.2, .int .i64 v.1, .int .i64 v.2.1, .string v.2.2, .int .i64 c, .slice sa sn sc, .slice wa wn wc, .int .i64 o, .bool d]) := XW1.out.belowS hb
  clear hb D1 x0 x1 x2 x3 x4 x5 x6 x7 x8 x9 x10 x11 x12 x13
  cases pw
  · go_wp2
    go_ret
    exact ⟨ret_bool (by simp), BW2.out⟩
  obtain ⟨x0, x1, x2, x3, x4, x5, x6, x7, x8, x9, x10, x11, x12, x13⟩ := box14 XW2.out
  have D2 := CO.out W2 BW2.out
  go_wp2_with fail
  refine D2.mono ?_
  rintro e W3 ⟨rfl, hb⟩
  have BW3 : Hid (Below w.heap.size w W3) := BW2.out.trans (hb.mono BW2.out.size)
  have XW3 : Hid (Box W3 w.heap.size 52 #[.int .i64 k, .int .i64 tb, .int .i64 i, .int .i64 u.1, .int .i64 u.2.1, .string u.2.2, .int .i64 v.1, .int .i64 v.2.1, .string v.2.2, .int .i64 c, .slice sa sn sc, .slice wa wn wc, .int .i64 o, .bool d]) := XW2.out.belowS hb
  clear hb D2 x0 x1 x2 x3 x4 x5 x6 x7 x8 x9 x10 x11 x12 x13
  go_wp2
  go_ret
  exact ⟨ret_bool (by simp), BW3.out⟩
set_option maxRecDepth 100000 in
set_option maxHeartbeats 4000000 in
theorem c_iK5 (k tb i : Int) (u v : VV) (c : Int) (sa : Option Addr) (sn sc : Nat) (wa : Option Addr) (wn wc : Nat) (o : Int) (d : Bool) (LS LW : List EN) (w : World) (h1 : u.2.2.size ≤ maxLen) (h2 : v.2.2.size ≤ maxLen) (s2 : RdE w sa sn LS) (hs : sn ≤ 1048576) (s3 : ∀ x ∈ LS, x.t.size ≤ maxLen) (w2 : RdE w wa wn LW) (hw : wn ≤ 1048576) (w3 : ∀ x ∈ LW, x.t.size ≤ maxLen) (f1 : (k == 1) = false) (f2 : (k == 2) = false) (f3 : (k == 3) = false) (f4 : (k == 4) = false) :
    Calls Tryd.prog 42 #[.agg #[.int .i64 k, .int .i64 tb, .int .i64 i, .int .i64 u.1, .int .i64 u.2.1, .string u.2.2, .int .i64 v.1, .int .i64 v.2.1, .string v.2.2, .int .i64 c, .slice sa sn sc, .slice wa wn wc, .int .i64 o, .bool d]] w fun e w' => e = .returned (.bool (inB tb 1 3 && false)) ∧ Below w.heap.size w w' := by
  obtain ⟨V, hV⟩ : ∃ V, w.alloc (.cells #[.int .i64 k, .int .i64 tb, .int .i64 i, .int .i64 u.1, .int .i64 u.2.1, .string u.2.2, .int .i64 v.1, .int .i64 v.2.1, .string v.2.2, .int .i64 c, .slice sa sn sc, .slice wa wn wc, .int .i64 o, .bool d] 52) = V := ⟨_, rfl⟩
  have BV : Hid (Below w.heap.size w V) := by unfold Hid; rw [← hV]; exact (Below.refl _ _).alloc (Nat.le_refl _) _
  have X : Hid (Box V w.heap.size 52 #[.int .i64 k, .int .i64 tb, .int .i64 i, .int .i64 u.1, .int .i64 u.2.1, .string u.2.2, .int .i64 v.1, .int .i64 v.2.1, .string v.2.2, .int .i64 c, .slice sa sn sc, .slice wa wn wc, .int .i64 o, .bool d]) := by unfold Hid; rw [← hV]; exact Box.new _ _ _
  have CT : Hid (∀ W, Below w.heap.size w W → Calls Tryd.prog 82 #[.int .i64 tb] W fun e w' => e = .returned (.bool (inB tb 1 3)) ∧ w' = W) := fun W hW => c_isTable tb W
  have HE : ∀ W, (Op.equalIn 10000 50 (.agg #[.int .i64 i, .int .i64 u.1, .int .i64 u.2.1, .string u.2.2, .int .i64 v.1, .int .i64 v.2.1, .string v.2.2]) (.agg #[.int .i64 0, .int .i64 0, .int .i64 0, .string ⟨#[]⟩, .int .i64 0, .int .i64 0, .string ⟨#[]⟩])).run Tryd.prog W = .ok (rowZ i u v) W := eqZ i u v
  obtain ⟨pt, ept⟩ : ∃ b, inB tb 1 3 = b := ⟨_, rfl⟩
  rw [ept] at CT ⊢
  clear ept
  obtain ⟨rz, erz⟩ : ∃ b, rowZ i u v = b := ⟨_, rfl⟩
  rw [erz] at HE
  clear erz
  clear h1 h2 s2 hs s3 w2 hw w3
  have D0 := CT.out V BV.out
  obtain ⟨x0, x1, x2, x3, x4, x5, x6, x7, x8, x9, x10, x11, x12, x13⟩ := box14 X.out
  go_enter Tryd.func42, Tryd.ntmps42
  go_wp2_with fail
  refine D0.mono ?_
  rintro e W0 ⟨rfl, hw⟩
  rw [hw]
  clear hw D0 CT hV
  cases pt
  · go_wp2
    go_ret
    exact ⟨ret_bool (by simp), BV.out⟩
  cases rz
  all_goals
    go_wp2
    go_ret
    exact ⟨ret_bool (by simp), BV.out⟩
theorem c_implSt (k tb i : Int) (u v : VV) (c : Int) (sa : Option Addr) (sn sc : Nat) (wa : Option Addr) (wn wc : Nat) (o : Int) (d : Bool) (LS LW : List EN) (w : World) (h1 : u.2.2.size ≤ maxLen) (h2 : v.2.2.size ≤ maxLen) (s2 : RdE w sa sn LS) (hs : sn ≤ 1048576) (s3 : ∀ x ∈ LS, x.t.size ≤ maxLen) (w2 : RdE w wa wn LW) (hw : wn ≤ 1048576) (w3 : ∀ x ∈ LW, x.t.size ≤ maxLen) :
    Calls Tryd.prog 42 #[.agg #[.int .i64 k, .int .i64 tb, .int .i64 i, .int .i64 u.1, .int .i64 u.2.1, .string u.2.2, .int .i64 v.1, .int .i64 v.2.1, .string v.2.2, .int .i64 c, .slice sa sn sc, .slice wa wn wc, .int .i64 o, .bool d]] w fun e w' => e = .returned (.bool (stB k tb (rowZ i u v) (rowB i u v) c sn (okX LS sn) wn (okX LW wn) o d)) ∧ Below w.heap.size w w' := by
  unfold stB
  by_cases k1 : k = 1
  · rw [if_pos k1]
    exact c_iK1 k tb i u v c sa sn sc wa wn wc o d LS LW w h1 h2 s2 hs s3 w2 hw w3 (by simp [k1])
  by_cases k2 : k = 2
  · rw [if_neg k1, if_pos k2]
    exact c_iK2 k tb i u v c sa sn sc wa wn wc o d LS LW w h1 h2 s2 hs s3 w2 hw w3 (by simp [k2]) (by simp [k2])
  by_cases k3 : k = 3
  · rw [if_neg k1, if_neg k2, if_pos k3]
    exact c_iK3 k tb i u v c sa sn sc wa wn wc o d LS LW w h1 h2 s2 hs s3 w2 hw w3 (by simp [k3]) (by simp [k3]) (by simp [k3])
  by_cases k4 : k = 4
  · rw [if_neg k1, if_neg k2, if_neg k3, if_pos k4]
    exact c_iK4 k tb i u v c sa sn sc wa wn wc o d LS LW w h1 h2 s2 hs s3 w2 hw w3 (by simp [k4]) (by simp [k4]) (by simp [k4]) (by simp [k4])
  · rw [if_neg k1, if_neg k2, if_neg k3, if_neg k4]
    exact c_iK5 k tb i u v c sa sn sc wa wn wc o d LS LW w h1 h2 s2 hs s3 w2 hw w3 (by simp [k1]) (by simp [k2]) (by simp [k3]) (by simp [k4])

end Go.Proofs.YtknjglgellhchaaDoor
