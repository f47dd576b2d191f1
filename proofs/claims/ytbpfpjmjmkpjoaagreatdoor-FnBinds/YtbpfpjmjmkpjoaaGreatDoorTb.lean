/-
  Texts of expressions: the program.
-/
import Derived.Test.YtbpfpjmjmkpjoaaGreatDoorTa
import Derived.Deep.QuietTactic
import Derived.BigQuiet
namespace Go.Proofs.YtbpfpjmjmkpjoaaGreatDoor
open Go Go.RowKit
attribute [local go_sem ↓] Go.wp_at_zero Go.wp_at_succ

set_option linter.unusedVariables false
set_option linter.unusedSimpArgs false
theorem ta_con_con (x : Value) (wx : World) : (Instr.typeAssert (.iface 125 x) 79 125 true).run Tryz.prog wx = .ok (.tuple #[x, .bool true]) wx := by kernel_rfl
theorem ta_col_con (x : Value) (wx : World) : (Instr.typeAssert (.iface 128 x) 79 125 true).run Tryz.prog wx = .ok (.tuple #[.agg #[.int .i64 0, .int .i64 0, .string ⟨#[]⟩], .bool false]) wx := by kernel_rfl
theorem ta_col_col (x : Value) (wx : World) : (Instr.typeAssert (.iface 128 x) 79 128 true).run Tryz.prog wx = .ok (.tuple #[x, .bool true]) wx := by kernel_rfl
theorem ta_una_con (x : Value) (wx : World) : (Instr.typeAssert (.iface 130 x) 79 125 true).run Tryz.prog wx = .ok (.tuple #[.agg #[.int .i64 0, .int .i64 0, .string ⟨#[]⟩], .bool false]) wx := by kernel_rfl
theorem ta_una_col (x : Value) (wx : World) : (Instr.typeAssert (.iface 130 x) 79 128 true).run Tryz.prog wx = .ok (.tuple #[.agg #[.int .i64 0], .bool false]) wx := by kernel_rfl
theorem ta_una_una (x : Value) (wx : World) : (Instr.typeAssert (.iface 130 x) 79 130 true).run Tryz.prog wx = .ok (.tuple #[x, .bool true]) wx := by kernel_rfl
theorem ta_bin_con (x : Value) (wx : World) : (Instr.typeAssert (.iface 133 x) 79 125 true).run Tryz.prog wx = .ok (.tuple #[.agg #[.int .i64 0, .int .i64 0, .string ⟨#[]⟩], .bool false]) wx := by kernel_rfl
theorem ta_bin_col (x : Value) (wx : World) : (Instr.typeAssert (.iface 133 x) 79 128 true).run Tryz.prog wx = .ok (.tuple #[.agg #[.int .i64 0], .bool false]) wx := by kernel_rfl
theorem ta_bin_una (x : Value) (wx : World) : (Instr.typeAssert (.iface 133 x) 79 130 true).run Tryz.prog wx = .ok (.tuple #[.agg #[.int .i64 0, .nilIface], .bool false]) wx := by kernel_rfl
theorem ta_bin_bin (x : Value) (wx : World) : (Instr.typeAssert (.iface 133 x) 79 133 true).run Tryz.prog wx = .ok (.tuple #[x, .bool true]) wx := by kernel_rfl
theorem encI (p : PT) : ∃ T v, p.enc = .iface T v := by cases p <;> exact ⟨_, _, rfl⟩
set_option maxRecDepth 100000 in
set_option maxHeartbeats 4000000 in
theorem c_px_con (k n : Int) (t : ByteArray) (hv : valB k n t = true) (ht : t.size ≤ maxLen) (w : World) (T : Tabs w) :
    Calls Tryz.prog 50 #[.iface 125 (.agg #[.int .i64 k, .int .i64 n, .string t])] w fun e w' => e = .returned (.string (vtS k n t)) ∧ Below w.heap.size w w' := by
  have tacon : ∀ wx : World, (Instr.typeAssert (.iface 125 (.agg #[.int .i64 k, .int .i64 n, .string t])) 79 125 true).run Tryz.prog wx = .ok (.tuple #[.agg #[.int .i64 k, .int .i64 n, .string t], .bool true]) wx := fun wx => ta_con_con _ wx
  obtain ⟨V, hV⟩ : ∃ V, w.alloc (.cells #[.int .i64 k, .int .i64 n, .string t] 125) = V := ⟨_, rfl⟩
  have BV : Hid (Below w.heap.size w V) := by unfold Hid; rw [← hV]; exact (Below.refl _ _).alloc (Nat.le_refl _) _
  have X : Hid (Box V w.heap.size 125 #[.int .i64 k, .int .i64 n, .string t]) := by unfold Hid; rw [← hV]; exact Box.new _ _ _
  have C := c_implVT k n t V ht (T.p.below BV.out)
  have x0 : V.cell? ⟨w.heap.size, 0, none⟩ = some (.int .i64 k) := X.out.cell 0
  have x1 : V.cell? ⟨w.heap.size, 1, none⟩ = some (.int .i64 n) := X.out.cell 1
  have x2 : V.cell? ⟨w.heap.size, 2, none⟩ = some (.string t) := X.out.cell 2
  clear T
  go_enter Tryz.func50, Tryz.ntmps50
  go_wp2_with fail
  refine C.mono ?_
  rintro e w1 ⟨rfl, hb⟩
  have B1 : Hid (Below w.heap.size w w1) := BV.out.trans (hb.mono BV.out.size)
  clear hb C hV x0 x1 x2
  go_wp2
  go_ret
  exact ⟨rfl, B1.out⟩
set_option maxRecDepth 100000 in
set_option maxHeartbeats 4000000 in
theorem c_px_col (c : Nat) (hc : c < 3) (w : World) (T : Tabs w) :
    Calls Tryz.prog 50 #[.iface 128 (.agg #[.int .i64 (c : Int)])] w fun e w' => e = .returned (.string (clT (c : Int))) ∧ Below w.heap.size w w' := by
  have tacon : ∀ wx : World, (Instr.typeAssert (.iface 128 (.agg #[.int .i64 (c : Int)])) 79 125 true).run Tryz.prog wx = .ok (.tuple #[.agg #[.int .i64 0, .int .i64 0, .string ⟨#[]⟩], .bool false]) wx := fun wx => ta_col_con _ wx
  have tacol : ∀ wx : World, (Instr.typeAssert (.iface 128 (.agg #[.int .i64 (c : Int)])) 79 128 true).run Tryz.prog wx = .ok (.tuple #[.agg #[.int .i64 (c : Int)], .bool true]) wx := fun wx => ta_col_col _ wx
  obtain ⟨V, hV⟩ : ∃ V, w.alloc (.cells #[.int .i64 (c : Int)] 128) = V := ⟨_, rfl⟩
  have BV : Hid (Below w.heap.size w V) := by unfold Hid; rw [← hV]; exact (Below.refl _ _).alloc (Nat.le_refl _) _
  have X : Hid (Box V w.heap.size 128 #[.int .i64 (c : Int)]) := by unfold Hid; rw [← hV]; exact Box.new _ _ _
  have x0 : V.cell? ⟨w.heap.size, 0, none⟩ = some (.int .i64 (c : Int)) := X.out.cell 0
  have y0 := (T.below BV.out).col c hc
  have g1 : (0 : Int) ≤ (c : Int) := by omega
  have g2 : (c : Int) < 3 := by omega
  obtain ⟨s, hs⟩ : ∃ s, clT (c : Int) = s := ⟨_, rfl⟩
  rw [hs] at y0 ⊢
  clear T hs
  go_enter Tryz.func50, Tryz.ntmps50
  go_wp2
  go_ret
  exact ⟨rfl, BV.out⟩
set_option maxRecDepth 100000 in
set_option maxHeartbeats 4000000 in
theorem c_px_una (op : Int) (h : 3 ≤ op ∧ op ≤ 5) (T9 : TypeId) (y9 : Value) (s : ByteArray) (hs : s.size ≤ 1000000) (IH : ∀ W, Tabs W → Calls Tryz.prog 50 #[.iface T9 y9] W fun e w' => e = .returned (.string s) ∧ Below W.heap.size W w') (w : World) (T : Tabs w) :
    Calls Tryz.prog 50 #[.iface 130 (.agg #[.int .i64 op, .iface T9 y9])] w fun e w' => e = .returned (.string (unT op s)) ∧ Below w.heap.size w w' := by
  have tacon : ∀ wx : World, (Instr.typeAssert (.iface 130 (.agg #[.int .i64 op, .iface T9 y9])) 79 125 true).run Tryz.prog wx = .ok (.tuple #[.agg #[.int .i64 0, .int .i64 0, .string ⟨#[]⟩], .bool false]) wx := fun wx => ta_una_con _ wx
  have tacol : ∀ wx : World, (Instr.typeAssert (.iface 130 (.agg #[.int .i64 op, .iface T9 y9])) 79 128 true).run Tryz.prog wx = .ok (.tuple #[.agg #[.int .i64 0], .bool false]) wx := fun wx => ta_una_col _ wx
  have tauna : ∀ wx : World, (Instr.typeAssert (.iface 130 (.agg #[.int .i64 op, .iface T9 y9])) 79 130 true).run Tryz.prog wx = .ok (.tuple #[.agg #[.int .i64 op, .iface T9 y9], .bool true]) wx := fun wx => ta_una_una _ wx
  obtain ⟨V, hV⟩ : ∃ V, w.alloc (.cells #[.int .i64 op, .iface T9 y9] 130) = V := ⟨_, rfl⟩
  have BV : Hid (Below w.heap.size w V) := by unfold Hid; rw [← hV]; exact (Below.refl _ _).alloc (Nat.le_refl _) _
  have X : Hid (Box V w.heap.size 130 #[.int .i64 op, .iface T9 y9]) := by unfold Hid; rw [← hV]; exact Box.new _ _ _
  have x0 : V.cell? ⟨w.heap.size, 0, none⟩ = some (.int .i64 op) := X.out.cell 0
  have x1 : V.cell? ⟨w.heap.size, 1, none⟩ = some (.iface T9 y9) := X.out.cell 1
  have TV : Hid (Tabs V) := T.below BV.out
  have CP : Hid (∀ r : Out V, Calls Tryz.prog 50 #[.iface T9 y9] r.y fun e w' => e = .returned (.string s) ∧ Below r.y.heap.size r.y w') := fun r => IH r.y (TV.out.below r.p)
  have CU : Hid (∀ r : Out V, Calls Tryz.prog 104 #[.int .i64 op, .string s] r.y fun e w' => e = .returned (.string (unT op s)) ∧ w' = r.y) := fun r => c_unT op s r.y h hs
  have q0 := fun r : Out V => q_cell x0 r
  have q1 := fun r : Out V => q_cell x1 r
  obtain ⟨z, hz⟩ : ∃ z, unT op s = z := ⟨_, rfl⟩
  rw [hz] at CU ⊢
  clear T IH hz x0 x1
  go_enter Tryz.func50, Tryz.ntmps50
  go_wp2_with fail
  clear hV
  haveI nonE := Out.some V
  refine q_begin (by kernel_rfl) (by kernel_rfl) ?_
  repeat (go_big_quiet_step (first | with_reducible exact q_call (CP.out _) | with_reducible exact q_same (CU.out _)))
  refine wpQuiet_nil ?_
  rintro w3 ⟨⟨y', hb3⟩, hy⟩
  have hy' : w3 = y' := hy
  clear hy
  subst hy'
  have B3 : Hid (Below w.heap.size w w3) := BV.out.trans (hb3.mono BV.out.size)
  clear hb3 q0 q1 CP CU
  go_wp2
  go_ret
  exact ⟨rfl, B3.out⟩
set_option maxRecDepth 100000 in
set_option maxHeartbeats 4000000 in
theorem c_px_bin (op : Nat) (h6 : 6 ≤ op) (h13 : op < 14) (T8 : TypeId) (y8 : Value) (T9 : TypeId) (y9 : Value) (s r : ByteArray) (hs : s.size ≤ 1000000) (hr : r.size ≤ 1000000) (IL : ∀ W, Tabs W → Calls Tryz.prog 50 #[.iface T8 y8] W fun e w' => e = .returned (.string s) ∧ Below W.heap.size W w') (IR : ∀ W, Tabs W → Calls Tryz.prog 50 #[.iface T9 y9] W fun e w' => e = .returned (.string r) ∧ Below W.heap.size W w') (w : World) (T : Tabs w) :
    Calls Tryz.prog 50 #[.iface 133 (.agg #[.int .i64 (op : Int), .iface T8 y8, .iface T9 y9])] w fun e w' => e = .returned (.string (biT (op : Int) s r)) ∧ Below w.heap.size w w' := by
  have tacon : ∀ wx : World, (Instr.typeAssert (.iface 133 (.agg #[.int .i64 (op : Int), .iface T8 y8, .iface T9 y9])) 79 125 true).run Tryz.prog wx = .ok (.tuple #[.agg #[.int .i64 0, .int .i64 0, .string ⟨#[]⟩], .bool false]) wx := fun wx => ta_bin_con _ wx
  have tacol : ∀ wx : World, (Instr.typeAssert (.iface 133 (.agg #[.int .i64 (op : Int), .iface T8 y8, .iface T9 y9])) 79 128 true).run Tryz.prog wx = .ok (.tuple #[.agg #[.int .i64 0], .bool false]) wx := fun wx => ta_bin_col _ wx
  have tauna : ∀ wx : World, (Instr.typeAssert (.iface 133 (.agg #[.int .i64 (op : Int), .iface T8 y8, .iface T9 y9])) 79 130 true).run Tryz.prog wx = .ok (.tuple #[.agg #[.int .i64 0, .nilIface], .bool false]) wx := fun wx => ta_bin_una _ wx
  have tabin : ∀ wx : World, (Instr.typeAssert (.iface 133 (.agg #[.int .i64 (op : Int), .iface T8 y8, .iface T9 y9])) 79 133 true).run Tryz.prog wx = .ok (.tuple #[.agg #[.int .i64 (op : Int), .iface T8 y8, .iface T9 y9], .bool true]) wx := fun wx => ta_bin_bin _ wx
  obtain ⟨V, hV⟩ : ∃ V, w.alloc (.cells #[.int .i64 (op : Int), .iface T8 y8, .iface T9 y9] 133) = V := ⟨_, rfl⟩
  have BV : Hid (Below w.heap.size w V) := by unfold Hid; rw [← hV]; exact (Below.refl _ _).alloc (Nat.le_refl _) _
  have X : Hid (Box V w.heap.size 133 #[.int .i64 (op : Int), .iface T8 y8, .iface T9 y9]) := by unfold Hid; rw [← hV]; exact Box.new _ _ _
  have x0 : V.cell? ⟨w.heap.size, 0, none⟩ = some (.int .i64 (op : Int)) := X.out.cell 0
  have x1 : V.cell? ⟨w.heap.size, 1, none⟩ = some (.iface T8 y8) := X.out.cell 1
  have x2 : V.cell? ⟨w.heap.size, 2, none⟩ = some (.iface T9 y9) := X.out.cell 2
  have TV : Hid (Tabs V) := T.below BV.out
  have CL : Hid (∀ r' : Out V, Calls Tryz.prog 50 #[.iface T8 y8] r'.y fun e w' => e = .returned (.string s) ∧ Below r'.y.heap.size r'.y w') := fun r' => IL r'.y (TV.out.below r'.p)
  have CR : Hid (∀ r' : Out V, Calls Tryz.prog 50 #[.iface T9 y9] r'.y fun e w' => e = .returned (.string r) ∧ Below r'.y.heap.size r'.y w') := fun r' => IR r'.y (TV.out.below r'.p)
  have y0 := TV.out.sign op h6 h13
  obtain ⟨sg, hs'⟩ : ∃ sg, sgT (op : Int) = sg := ⟨_, rfl⟩
  have hg : (sgT (op : Int)).size ≤ 3 := sgT_size _
  have E : Hid (biT (op : Int) s r = ⟨#[40]⟩ ++ s ++ ⟨#[32]⟩ ++ sg ++ ⟨#[32]⟩ ++ r ++ ⟨#[41]⟩) := by unfold Hid biT; rw [hs']
  rw [hs'] at y0 hg
  have g1 : (0 : Int) ≤ (op : Int) := by omega
  have g2 : (op : Int) < 14 := by omega
  have q0 := fun r' : Out V => q_cell x0 r'
  have q1 := fun r' : Out V => q_cell x1 r'
  have q2 := fun r' : Out V => q_cell x2 r'
  have q3 := fun r' : Out V => q_cell y0 r'
  clear T IL IR hs' x0 x1 x2 y0 TV
  go_enter Tryz.func50, Tryz.ntmps50
  go_wp2_with fail
  clear hV
  haveI nonE := Out.some V
  refine q_begin (by kernel_rfl) (by kernel_rfl) ?_
  repeat (go_big_quiet_step (first | with_reducible exact q_call (CL.out _) | with_reducible exact q_call (CR.out _)))
  refine wpQuiet_nil ?_
  rintro w3 ⟨⟨y', hb3⟩, hy⟩
  have hy' : w3 = y' := hy
  clear hy
  subst hy'
  have B3 : Hid (Below w.heap.size w w3) := BV.out.trans (hb3.mono BV.out.size)
  clear hb3 q0 q1 q2 q3 CL CR
  go_wp2
  go_ret
  exact ⟨by rw [E.out]; rfl, B3.out⟩
theorem itoa_len (n : Int) (h0 : -1000000000 ≤ n) (h1 : n ≤ 1000000000) : (Lib.itoa n).length ≤ 21 := Lib.itoa_length_le n (by omega) (by omega)
/-- A part whose numbers are in their bounds. -/
def PT.fine : PT → Prop
  | .con k n t => valB k n t = true ∧ t.size ≤ maxLen
  | .col c => 0 ≤ c ∧ c ≤ 2
  | .una op p => 3 ≤ op ∧ op ≤ 5 ∧ p.fine
  | .bin op l r => 6 ≤ op ∧ op ≤ 13 ∧ l.fine ∧ r.fine
theorem txP_size : ∀ p : PT, p.fine → (txP p).size ≤ p.wt
  | .con k n t, h => by
    show (vtS k n t).size ≤ 30
    rcases val_kind h.1 with rfl | ⟨rfl, h0, h1⟩ | ⟨rfl, h0⟩
    · rw [(vt_0 h.1).1]; decide
    · rw [(vt_1 h.1).1]
      have := itoa_len n h0 h1
      show (Lib.itoa n).toArray.size ≤ 30
      simp; omega
    · rw [(vt_2 h.1).1]
      simp only [ByteArray.size_append]
      have : (⟨#[39]⟩ : ByteArray).size = 1 := rfl
      omega
  | .col c, h => by
    have := clT_size c
    show (clT c).size ≤ 30
    omega
  | .una op p, h => by
    have := txP_size p h.2.2
    show (unT op (txP p)).size ≤ p.wt + 30
    unfold unT
    repeat' split
    all_goals
      simp only [ByteArray.size_append]
      simp only [show (⟨#[40, 110, 111, 116, 32]⟩ : ByteArray).size = 5 from rfl, show (⟨#[41]⟩ : ByteArray).size = 1 from rfl, show (⟨#[40]⟩ : ByteArray).size = 1 from rfl, show (⟨#[32, 105, 115, 32, 110, 117, 108, 108, 41]⟩ : ByteArray).size = 9 from rfl, show (⟨#[40, 45, 32, 40]⟩ : ByteArray).size = 4 from rfl, show (⟨#[41, 41]⟩ : ByteArray).size = 2 from rfl, show (⟨#[32]⟩ : ByteArray).size = 1 from rfl]
      omega
  | .bin op l r, h => by
    have h1 := txP_size l h.2.2.1
    have h2 := txP_size r h.2.2.2
    have h3 := sgT_size op
    show (biT op (txP l) (txP r)).size ≤ l.wt + r.wt + 30
    unfold biT
    simp only [ByteArray.size_append]
    simp only [show (⟨#[40, 110, 111, 116, 32]⟩ : ByteArray).size = 5 from rfl, show (⟨#[41]⟩ : ByteArray).size = 1 from rfl, show (⟨#[40]⟩ : ByteArray).size = 1 from rfl, show (⟨#[32, 105, 115, 32, 110, 117, 108, 108, 41]⟩ : ByteArray).size = 9 from rfl, show (⟨#[40, 45, 32, 40]⟩ : ByteArray).size = 4 from rfl, show (⟨#[41, 41]⟩ : ByteArray).size = 2 from rfl, show (⟨#[32]⟩ : ByteArray).size = 1 from rfl]
    omega
theorem c_partText : ∀ (p : PT), p.fine → p.wt ≤ 1000000 → ∀ W, Tabs W → Calls Tryz.prog 50 #[p.enc] W fun e w' => e = .returned (.string (txP p)) ∧ Below W.heap.size W w'
  | .con k n t, h, _, W, T => c_px_con k n t h.1 h.2 W T
  | .col c, h, _, W, T => by
    obtain ⟨m, rfl⟩ : ∃ m : Nat, c = (m : Int) := ⟨c.toNat, by have := h.1; omega⟩
    exact c_px_col m (by have := h.2; omega) W T
  | .una op p, h, hw, W, T => by
    have hw' : p.wt + 30 ≤ 1000000 := hw
    obtain ⟨T9, y9, hy⟩ := encI p
    have IH := c_partText p h.2.2 (by omega)
    have hs := txP_size p h.2.2
    rw [hy] at IH
    unfold PT.enc
    rw [hy]
    exact c_px_una op ⟨h.1, h.2.1⟩ T9 y9 (txP p) (by omega) IH W T
  | .bin op l r, h, hw, W, T => by
    have hw' : l.wt + r.wt + 30 ≤ 1000000 := hw
    have hsl := txP_size l h.2.2.1
    have hsr := txP_size r h.2.2.2
    obtain ⟨T8, y8, hy8⟩ := encI l
    obtain ⟨T9, y9, hy9⟩ := encI r
    have IL := c_partText l h.2.2.1 (by omega)
    have IR := c_partText r h.2.2.2 (by omega)
    rw [hy8] at IL
    rw [hy9] at IR
    obtain ⟨m, rfl⟩ : ∃ m : Nat, op = (m : Int) := ⟨op.toNat, by have := h.1; omega⟩
    unfold PT.enc
    rw [hy8, hy9]
    exact c_px_bin m (by have := h.1; omega) (by have := h.2.1; omega) T8 y8 T9 y9 (txP l) (txP r) (by omega) (by omega) IL IR W T

end Go.Proofs.YtbpfpjmjmkpjoaaGreatDoor
