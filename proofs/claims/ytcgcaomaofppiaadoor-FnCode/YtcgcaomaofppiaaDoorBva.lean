/-
  The leaves of BinaryValue: what two values make.
-/
import Derived.Test.YtcgcaomaofppiaaDoorCmp
import Derived.Test.YtcgcaomaofppiaaDoorBx
namespace Go.Proofs.YtcgcaomaofppiaaDoor
open Go Go.RowKit

/-- An answer: a value without a word, and a code. -/
structure BR where
  k : Int
  n : Int
  c : Int
def trI (b : Bool) : Int := if b then 1 else 0
def decB (op k n : Int) : Bool := k == 1 && (op == 12 && n == 0 || op == 13 && n != 0)
def opI (op a b : Int) : Int := if op = 6 then a + b else if op = 7 then a - b else if op = 8 then a * b else a.tdiv b
def bndB (v : Int) : BR := if inB v (-1000000000) 1000000000 then ⟨1, v, 0⟩ else ⟨0, 0, 12⟩
def reckB (op a b : Int) : BR := if op = 9 ∧ b = 0 then ⟨0, 0, 11⟩ else bndB (opI op a b)
theorem bnd_yes {v : Int} (h : inB v (-1000000000) 1000000000 = true) : bndB v = ⟨1, v, 0⟩ := by unfold bndB; rw [h]; rfl
theorem bnd_no {v : Int} (h : inB v (-1000000000) 1000000000 = false) : bndB v = ⟨0, 0, 12⟩ := by unfold bndB; rw [h]; rfl
theorem wrapS {v : Int} (h0 : -1000000000000000000 ≤ v) (h1 : v ≤ 1000000000000000000) : wrap64 v = v := by unfold wrap64; omega
theorem mulB {a b : Int} (ha : -1000000000 ≤ a) (ha' : a ≤ 1000000000) (hb : -1000000000 ≤ b) (hb' : b ≤ 1000000000) : -1000000000000000000 ≤ a * b ∧ a * b ≤ 1000000000000000000 := by
  have h : (a * b).natAbs ≤ 1000000000 * 1000000000 := by rw [Int.natAbs_mul]; exact Nat.mul_le_mul (by omega) (by omega)
  omega
theorem divB {a b : Int} (ha : -1000000000 ≤ a) (ha' : a ≤ 1000000000) : -1000000000000000000 ≤ a.tdiv b ∧ a.tdiv b ≤ 1000000000000000000 := by
  have h : (a.tdiv b).natAbs ≤ a.natAbs := by rw [Int.natAbs_tdiv]; exact Nat.div_le_self _ _
  omega
theorem emptyL : (⟨#[]⟩ : ByteArray).toList = [] := by first | rfl | exact (by simp : ByteArray.empty.toList = [])
theorem box3 {w : World} {g : Nat} {t : TypeId} {v0 v1 v2 : Value} (h : Box w g t #[v0, v1, v2]) : w.cell? ⟨g, 0, none⟩ = some v0 ∧ w.cell? ⟨g, 1, none⟩ = some v1 ∧ w.cell? ⟨g, 2, none⟩ = some v2 := ⟨h.cell 0, h.cell 1, h.cell 2⟩
theorem put3_box {w : World} {g : Nat} {t : TypeId} {x0 x1 x2 : Value} (h : Box w g t #[x0, x1, x2]) (v0 v1 v2 : Value) : Box ((((w).setCell ⟨g, 0, none⟩ (v0)).setCell ⟨g, 1, none⟩ (v1)).setCell ⟨g, 2, none⟩ (v2)) g t #[v0, v1, v2] := by
  have k := ((h.set 0 v0).set 1 v1).set 2 v2
  simpa using k
theorem put3_below {a w : World} {g B : Nat} (h : Below B a w) (hg : B ≤ g) (v0 v1 v2 : Value) : Below B a ((((w).setCell ⟨g, 0, none⟩ (v0)).setCell ⟨g, 1, none⟩ (v1)).setCell ⟨g, 2, none⟩ (v2)) := ((h.setCell hg _).setCell hg _).setCell hg _
theorem loadVar3 {w : World} {r : Nat} {v0 v1 v2 : Value} (hb : Box w r 29 #[v0, v1, v2]) : (loadVar 29 ⟨r, 0, none⟩).run Tryd.prog w = .ok (.agg #[v0, v1, v2]) w := by
  obtain ⟨x0, x1, x2⟩ := box3 hb
  simp [go_sem, x0, x1, x2]
theorem ret32 {fn : Func} {p u : Tmp} (h : fn.results = #[.cell p 29, .tmp u]) {R : Ending → World → Prop} {a : Act} {w : World} {r : Nat} {v0 v1 v2 v : Value} (hp : a.tmps.getD p undef = .pointer (some ⟨r, 0, none⟩)) (hu : a.tmps.getD u undef = v) (hd : a.defers = []) (hb : Box w r 29 #[v0, v1, v2]) (hR : R (.returned (.tuple #[.agg #[v0, v1, v2], v])) w) : bodyPost Tryd.prog fn R .ret a w := by
  refine bodyPost_ret ?_ hd hR
  have hp' : a.tmps[p]?.getD undef = .pointer (some ⟨r, 0, none⟩) := by simpa using hp
  have hu' : a.tmps[u]?.getD undef = v := by simpa using hu
  simp only [results, h]
  simp [hp', hu', asAddr, loadVar3 hb]
set_option maxRecDepth 100000 in
set_option maxHeartbeats 2000000 in
theorem c_bin (op : Int) (w : World) : Calls Tryd.prog 81 #[.int .i64 op] w fun e w' => e = .returned (.bool (inB op 6 13)) ∧ w' = w := by
  by_cases h1 : 6 ≤ op <;> by_cases h2 : op ≤ 13
  all_goals
    go_enter Tryd.func81, Tryd.ntmps81
    go_wp2
    go_ret
    exact ⟨ret_bool (by simp [inB, h1, h2]), rfl⟩

set_option maxRecDepth 100000 in
set_option maxHeartbeats 2000000 in
theorem c_has (x k k' : Int) (ga gb : Nat) (w : World) (ha : w.cell? ⟨ga, 0, none⟩ = some (.int .i64 k)) (hb : w.cell? ⟨gb, 0, none⟩ = some (.int .i64 k')) :
    Calls Tryd.prog 88 #[.int .i64 x, .pointer (some ⟨ga, 0, none⟩), .pointer (some ⟨gb, 0, none⟩)] w fun e w' => e = .returned (.bool (k == x || k' == x)) ∧ w' = w := by
  cases h1 : (k == x) <;> cases h2 : (k' == x)
  all_goals
    go_enter Tryd.func88, Tryd.ntmps88
    go_wp2
    go_ret
    exact ⟨rfl, rfl⟩

set_option maxRecDepth 100000 in
set_option maxHeartbeats 2000000 in
theorem c_dec (op k n : Int) (t : ByteArray) (w : World) :
    Calls Tryd.prog 85 #[.int .i64 op, .agg #[.int .i64 k, .int .i64 n, .string t]] w fun e w' => e = .returned (.bool (decB op k n)) ∧ Below w.heap.size w w' := by
  cases h1 : (k == 1) <;> cases h2 : (op == 12) <;> cases h3 : (op == 13) <;> cases h4 : (n == 0)
  all_goals
    have h4' : (n != 0) = !(n == 0) := rfl
    rw [h4] at h4'
    go_enter Tryd.func85, Tryd.ntmps85
    go_wp2
    go_ret
    exact ⟨ret_bool (by unfold decB; rw [h1, h2, h3, h4, h4']; rfl), (Below.refl _ _).alloc (Nat.le_refl _) _⟩

set_option maxRecDepth 100000 in
set_option maxHeartbeats 2000000 in
theorem c_truth (b : Bool) (w : World) :
    Calls Tryd.prog 84 #[.bool b] w fun e w' => e = .returned (.agg #[.int .i64 1, .int .i64 (trI b), .string ⟨#[]⟩]) ∧ Below w.heap.size w w' := by
  cases b
  all_goals
    go_enter Tryd.func84, Tryd.ntmps84
    go_wp2
    refine bodyPost_ret (v := .agg #[.int .i64 1, .int .i64 (trI _), .string ⟨#[]⟩]) (by simp [results, Tryd.results84, go_sem, trI]) rfl ⟨rfl, ?_⟩
    exact (Below.refl _ _).alloc (Nat.le_refl _) _

set_option maxRecDepth 100000 in
set_option maxHeartbeats 2000000 in
theorem c_reck (op a b : Int) (w : World) (h6 : 6 ≤ op) (h9 : op ≤ 9) (a0 : -1000000000 ≤ a) (a1 : a ≤ 1000000000) (b0 : -1000000000 ≤ b) (b1 : b ≤ 1000000000) :
    Calls Tryd.prog 90 #[.int .i64 op, .int .i64 a, .int .i64 b] w fun e w' => e = .returned (.tuple #[.agg #[.int .i64 (reckB op a b).k, .int .i64 (reckB op a b).n, .string ⟨#[]⟩], .int .i64 (reckB op a b).c]) ∧ Below w.heap.size w w' := by
  have hm := mulB a0 a1 b0 b1
  have hd := divB (b := b) a0 a1
  rcases (show op = 6 ∨ op = 7 ∨ op = 8 ∨ op = 9 by omega) with rfl | rfl | rfl | rfl
  · have E : Hid (reckB 6 a b = bndB (a + b)) := by unfold Hid; rfl
    have W : wrap64 (a + b) = a + b := wrapS (by omega) (by omega)
    clear hm hd
    obtain ⟨V0, hV0⟩ : ∃ V, (w.alloc (.cells #[.int .i64 0, .int .i64 0, .string ⟨#[]⟩] 29)).alloc (.cells #[.int .i64 1, .int .i64 (a + b), .string ⟨#[]⟩] 29) = V := ⟨_, rfl⟩
    have B0 : Hid (Below w.heap.size w V0) := by unfold Hid; rw [← hV0]; exact ((Below.refl _ _).alloc (Nat.le_refl _) _).alloc (by simp) _
    have X0 : Hid (Box V0 w.heap.size 29 #[.int .i64 0, .int .i64 0, .string ⟨#[]⟩]) := by unfold Hid; rw [← hV0]; exact (Box.new _ _ _).alloc _
    have Y0 : Hid (Box V0 (w.heap.size + 1) 29 #[.int .i64 1, .int .i64 (a + b), .string ⟨#[]⟩]) := by unfold Hid; rw [← hV0]; exact Box.new2 _ _ _ _
    have C := c_implOK 1 (a + b) ⟨#[]⟩ V0 (Nat.zero_le _)
    rw [val1, emptyL] at C
    have hb9 : True := trivial
    clear hb9
    cases hv : inB (a + b) (-1000000000) 1000000000
    all_goals
      rw [hv] at C
      simp only [Bool.false_and, Bool.true_and, List.isEmpty_nil] at C
      obtain ⟨q0, q1, q2⟩ := box3 Y0.out
      go_enter Tryd.func90, Tryd.ntmps90
      go_wp2_with fail
      refine C.mono ?_
      rintro e w1 ⟨rfl, hb1⟩
      have B1 : Hid (Below w.heap.size w w1) := B0.out.trans (hb1.mono B0.out.size)
      have X1 : Hid (Box w1 w.heap.size 29 #[.int .i64 0, .int .i64 0, .string ⟨#[]⟩]) := X0.out.belowS hb1
      have Y1 := Y0.out.belowS hb1
      have s1 : w.heap.size < w1.heap.size := X1.out.lt
      clear q0 q1 q2 hV0 B0 X0 Y0 hb1
      obtain ⟨q0, q1, q2⟩ := box3 Y1
      obtain ⟨x0, x1, x2⟩ := box3 X1.out
      have t0 := X1.out.thaw 0
      have t1 := X1.out.thaw 1
      have t2 := X1.out.thaw 2
      clear Y1
      go_wp2
      refine ret32 Tryd.results90 rfl rfl rfl (put3_box X1.out _ _ _) ⟨?_, put3_below B1.out (Nat.le_refl _) _ _ _⟩
      rw [E.out]
      first | (rw [bnd_no hv]; rfl) | (rw [bnd_yes hv]; rfl)
  · have E : Hid (reckB 7 a b = bndB (a - b)) := by unfold Hid; rfl
    have W : wrap64 (a - b) = a - b := wrapS (by omega) (by omega)
    clear hm hd
    obtain ⟨V0, hV0⟩ : ∃ V, (w.alloc (.cells #[.int .i64 0, .int .i64 0, .string ⟨#[]⟩] 29)).alloc (.cells #[.int .i64 1, .int .i64 (a - b), .string ⟨#[]⟩] 29) = V := ⟨_, rfl⟩
    have B0 : Hid (Below w.heap.size w V0) := by unfold Hid; rw [← hV0]; exact ((Below.refl _ _).alloc (Nat.le_refl _) _).alloc (by simp) _
    have X0 : Hid (Box V0 w.heap.size 29 #[.int .i64 0, .int .i64 0, .string ⟨#[]⟩]) := by unfold Hid; rw [← hV0]; exact (Box.new _ _ _).alloc _
    have Y0 : Hid (Box V0 (w.heap.size + 1) 29 #[.int .i64 1, .int .i64 (a - b), .string ⟨#[]⟩]) := by unfold Hid; rw [← hV0]; exact Box.new2 _ _ _ _
    have C := c_implOK 1 (a - b) ⟨#[]⟩ V0 (Nat.zero_le _)
    rw [val1, emptyL] at C
    have hb9 : True := trivial
    clear hb9
    cases hv : inB (a - b) (-1000000000) 1000000000
    all_goals
      rw [hv] at C
      simp only [Bool.false_and, Bool.true_and, List.isEmpty_nil] at C
      obtain ⟨q0, q1, q2⟩ := box3 Y0.out
      go_enter Tryd.func90, Tryd.ntmps90
      go_wp2_with fail
      refine C.mono ?_
      rintro e w1 ⟨rfl, hb1⟩
      have B1 : Hid (Below w.heap.size w w1) := B0.out.trans (hb1.mono B0.out.size)
      have X1 : Hid (Box w1 w.heap.size 29 #[.int .i64 0, .int .i64 0, .string ⟨#[]⟩]) := X0.out.belowS hb1
      have Y1 := Y0.out.belowS hb1
      have s1 : w.heap.size < w1.heap.size := X1.out.lt
      clear q0 q1 q2 hV0 B0 X0 Y0 hb1
      obtain ⟨q0, q1, q2⟩ := box3 Y1
      obtain ⟨x0, x1, x2⟩ := box3 X1.out
      have t0 := X1.out.thaw 0
      have t1 := X1.out.thaw 1
      have t2 := X1.out.thaw 2
      clear Y1
      go_wp2
      refine ret32 Tryd.results90 rfl rfl rfl (put3_box X1.out _ _ _) ⟨?_, put3_below B1.out (Nat.le_refl _) _ _ _⟩
      rw [E.out]
      first | (rw [bnd_no hv]; rfl) | (rw [bnd_yes hv]; rfl)
  · have E : Hid (reckB 8 a b = bndB (a * b)) := by unfold Hid; rfl
    have W : wrap64 (a * b) = a * b := wrapS (by omega) (by omega)
    clear hm hd
    obtain ⟨V0, hV0⟩ : ∃ V, (w.alloc (.cells #[.int .i64 0, .int .i64 0, .string ⟨#[]⟩] 29)).alloc (.cells #[.int .i64 1, .int .i64 (a * b), .string ⟨#[]⟩] 29) = V := ⟨_, rfl⟩
    have B0 : Hid (Below w.heap.size w V0) := by unfold Hid; rw [← hV0]; exact ((Below.refl _ _).alloc (Nat.le_refl _) _).alloc (by simp) _
    have X0 : Hid (Box V0 w.heap.size 29 #[.int .i64 0, .int .i64 0, .string ⟨#[]⟩]) := by unfold Hid; rw [← hV0]; exact (Box.new _ _ _).alloc _
    have Y0 : Hid (Box V0 (w.heap.size + 1) 29 #[.int .i64 1, .int .i64 (a * b), .string ⟨#[]⟩]) := by unfold Hid; rw [← hV0]; exact Box.new2 _ _ _ _
    have C := c_implOK 1 (a * b) ⟨#[]⟩ V0 (Nat.zero_le _)
    rw [val1, emptyL] at C
    have hb9 : True := trivial
    clear hb9
    cases hv : inB (a * b) (-1000000000) 1000000000
    all_goals
      rw [hv] at C
      simp only [Bool.false_and, Bool.true_and, List.isEmpty_nil] at C
      obtain ⟨q0, q1, q2⟩ := box3 Y0.out
      go_enter Tryd.func90, Tryd.ntmps90
      go_wp2_with fail
      refine C.mono ?_
      rintro e w1 ⟨rfl, hb1⟩
      have B1 : Hid (Below w.heap.size w w1) := B0.out.trans (hb1.mono B0.out.size)
      have X1 : Hid (Box w1 w.heap.size 29 #[.int .i64 0, .int .i64 0, .string ⟨#[]⟩]) := X0.out.belowS hb1
      have Y1 := Y0.out.belowS hb1
      have s1 : w.heap.size < w1.heap.size := X1.out.lt
      clear q0 q1 q2 hV0 B0 X0 Y0 hb1
      obtain ⟨q0, q1, q2⟩ := box3 Y1
      obtain ⟨x0, x1, x2⟩ := box3 X1.out
      have t0 := X1.out.thaw 0
      have t1 := X1.out.thaw 1
      have t2 := X1.out.thaw 2
      clear Y1
      go_wp2
      refine ret32 Tryd.results90 rfl rfl rfl (put3_box X1.out _ _ _) ⟨?_, put3_below B1.out (Nat.le_refl _) _ _ _⟩
      rw [E.out]
      first | (rw [bnd_no hv]; rfl) | (rw [bnd_yes hv]; rfl)
  by_cases hz : b = 0
  · subst hz
    clear hm hd
    go_enter Tryd.func90, Tryd.ntmps90
    go_wp2
    refine ret32 Tryd.results90 rfl rfl rfl (Box.new _ _ _) ⟨rfl, (Below.refl _ _).alloc (Nat.le_refl _) _⟩
  · have E : Hid (reckB 9 a b = bndB (a.tdiv b)) := by unfold Hid; unfold reckB; rw [if_neg (by simpa using hz)]; rfl
    have W : wrap64 (a.tdiv b) = a.tdiv b := wrapS (by omega) (by omega)
    clear hm hd
    obtain ⟨V0, hV0⟩ : ∃ V, (w.alloc (.cells #[.int .i64 0, .int .i64 0, .string ⟨#[]⟩] 29)).alloc (.cells #[.int .i64 1, .int .i64 (a.tdiv b), .string ⟨#[]⟩] 29) = V := ⟨_, rfl⟩
    have B0 : Hid (Below w.heap.size w V0) := by unfold Hid; rw [← hV0]; exact ((Below.refl _ _).alloc (Nat.le_refl _) _).alloc (by simp) _
    have X0 : Hid (Box V0 w.heap.size 29 #[.int .i64 0, .int .i64 0, .string ⟨#[]⟩]) := by unfold Hid; rw [← hV0]; exact (Box.new _ _ _).alloc _
    have Y0 : Hid (Box V0 (w.heap.size + 1) 29 #[.int .i64 1, .int .i64 (a.tdiv b), .string ⟨#[]⟩]) := by unfold Hid; rw [← hV0]; exact Box.new2 _ _ _ _
    have C := c_implOK 1 (a.tdiv b) ⟨#[]⟩ V0 (Nat.zero_le _)
    rw [val1, emptyL] at C
    have hb9 : (b == 0) = false := by simpa using hz
    skip
    cases hv : inB (a.tdiv b) (-1000000000) 1000000000
    all_goals
      rw [hv] at C
      simp only [Bool.false_and, Bool.true_and, List.isEmpty_nil] at C
      obtain ⟨q0, q1, q2⟩ := box3 Y0.out
      go_enter Tryd.func90, Tryd.ntmps90
      go_wp2_with fail
      refine C.mono ?_
      rintro e w1 ⟨rfl, hb1⟩
      have B1 : Hid (Below w.heap.size w w1) := B0.out.trans (hb1.mono B0.out.size)
      have X1 : Hid (Box w1 w.heap.size 29 #[.int .i64 0, .int .i64 0, .string ⟨#[]⟩]) := X0.out.belowS hb1
      have Y1 := Y0.out.belowS hb1
      have s1 : w.heap.size < w1.heap.size := X1.out.lt
      clear q0 q1 q2 hV0 B0 X0 Y0 hb1
      obtain ⟨q0, q1, q2⟩ := box3 Y1
      obtain ⟨x0, x1, x2⟩ := box3 X1.out
      have t0 := X1.out.thaw 0
      have t1 := X1.out.thaw 1
      have t2 := X1.out.thaw 2
      clear Y1
      go_wp2
      refine ret32 Tryd.results90 rfl rfl rfl (put3_box X1.out _ _ _) ⟨?_, put3_below B1.out (Nat.le_refl _) _ _ _⟩
      rw [E.out]
      first | (rw [bnd_no hv]; rfl) | (rw [bnd_yes hv]; rfl)

end Go.Proofs.YtcgcaomaofppiaaDoor
