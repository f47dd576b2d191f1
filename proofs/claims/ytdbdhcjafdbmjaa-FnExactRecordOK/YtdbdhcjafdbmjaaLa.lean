/-
  The walk of the law of RecordOK.
-/
import Derived.Test.YtdbdhcjafdbmjaaRo
import Derived.Test.YtdbdhcjafdbmjaaRn
namespace Go.Proofs.Ytdbdhcjafdbmjaa
open Go Go.RowKit
attribute [local go_sem ↓] Go.wp_at_zero Go.wp_at_succ


set_option maxRecDepth 100000 in
set_option maxHeartbeats 4000000 in
theorem law_FnExactRecordOK (e l t k p n g s : Int) (b a : ByteArray) (w : World) (hbs : b.size ≤ maxLen) (has : a.size ≤ maxLen) :
    Calls Try.prog 3 #[.agg #[.int .i64 e, .int .i64 l, .int .i64 t, .int .i64 k, .int .i64 p, .int .i64 n, .int .i64 g, .int .i64 s, .string b, .string a]] w fun e' w' => e' = .returned (.bool true) ∧ Below w.heap.size w w' := by
  obtain ⟨w1, hV⟩ : ∃ V, w.alloc (.cells #[.int .i64 e, .int .i64 l, .int .i64 t, .int .i64 k, .int .i64 p, .int .i64 n, .int .i64 g, .int .i64 s, .string b, .string a] 23) = V := ⟨_, rfl⟩
  have B1 : Hid (Below w.heap.size w w1) := by unfold Hid; rw [← hV]; exact (Below.refl _ _).alloc (Nat.le_refl _) _
  have X1 : Hid (Box w1 w.heap.size 23 #[.int .i64 e, .int .i64 l, .int .i64 t, .int .i64 k, .int .i64 p, .int .i64 n, .int .i64 g, .int .i64 s, .string b, .string a]) := by unfold Hid; rw [← hV]; exact Box.new _ _ _
  have SZ : Hid (∀ W, Calls Try.prog 5 #[.agg #[.int .i64 e, .int .i64 l, .int .i64 t, .int .i64 k, .int .i64 p, .int .i64 n, .int .i64 g, .int .i64 s, .string b, .string a], .int .i64 1048576] W fun e' w' => (∃ z : Int, e' = .returned (.int .i64 z) ∧ (0 ≤ z → b.size ≤ 1048576 ∧ a.size ≤ 1048576)) ∧ Below W.heap.size W w') := fun W => c_szR e l t k p n g s b a 1048576 W hbs has (by omega) (by omega)
  have TR : Hid (∀ W, Calls Try.prog 7 #[.agg #[.int .i64 e, .int .i64 l, .int .i64 t, .int .i64 k, .int .i64 p, .int .i64 n, .int .i64 g, .int .i64 s, .string b, .string a]] W fun e' w' => e' = .returned (.agg #[.int .i64 e, .int .i64 l, .int .i64 t, .int .i64 k, .int .i64 p, .int .i64 n, .int .i64 g, .int .i64 s, .string b, .string a]) ∧ Below W.heap.size W w') := fun W => c_toR e l t k p n g s b a W
  have CI : Hid (∀ W, Calls Try.prog 8 #[.agg #[.int .i64 e, .int .i64 l, .int .i64 t, .int .i64 k, .int .i64 p, .int .i64 n, .int .i64 g, .int .i64 s, .string b, .string a]] W fun e' w' => e' = .returned (.bool (okLR ⟨e, l, t, k, p, n, g, s, b, a⟩)) ∧ Below W.heap.size W w') := fun W => c_implLR e l t k p n g s b a W hbs has
  have CS0 : Hid (b.size ≤ 1048576 ∧ a.size ≤ 1048576 → ∀ W, Calls Try.prog 6 #[.agg #[.int .i64 e, .int .i64 l, .int .i64 t, .int .i64 k, .int .i64 p, .int .i64 n, .int .i64 g, .int .i64 s, .string b, .string a]] W fun e' w' => e' = .returned (.bool (okLR ⟨e, l, t, k, p, n, g, s, b, a⟩)) ∧ Below W.heap.size W w') := fun hf W => by rw [← okLS_eq]; exact c_specLR e l t k p n g s b a W hf.1 hf.2
  obtain ⟨X, hX⟩ : ∃ X, X = okLR ⟨e, l, t, k, p, n, g, s, b, a⟩ := ⟨_, rfl⟩
  rw [← hX] at CI CS0
  have hxx : (X != X) = false := by simp
  clear hX hbs has
  obtain ⟨v0, v1, v2, v3, v4, v5, v6, v7, v8, v9⟩ := box10 X1.out
  go_enter Try.func3, Try.ntmps3
  go_wp2_with fail
  refine (SZ.out w1).mono ?_
  rintro e' w2 ⟨⟨z, rfl, hz⟩, hb⟩
  have HZ : Hid (0 ≤ z → b.size ≤ 1048576 ∧ a.size ≤ 1048576) := hz
  clear hz SZ hV
  clear v0 v1 v2 v3 v4 v5 v6 v7 v8 v9
  have B2 : Hid (Below w.heap.size w w2) := B1.out.trans (hb.mono B1.out.size)
  have X2 : Hid (Box w2 w.heap.size 23 #[.int .i64 e, .int .i64 l, .int .i64 t, .int .i64 k, .int .i64 p, .int .i64 n, .int .i64 g, .int .i64 s, .string b, .string a]) := X1.out.belowS hb
  have q1_2 : w1.heap.size ≤ w2.heap.size := hb.size
  clear B1 X1 hb 
  by_cases hz : z < 0
  · go_wp2
    go_ret
    exact ⟨rfl, B2.out⟩
  have CS : Hid (∀ W, Calls Try.prog 6 #[.agg #[.int .i64 e, .int .i64 l, .int .i64 t, .int .i64 k, .int .i64 p, .int .i64 n, .int .i64 g, .int .i64 s, .string b, .string a]] W fun e' w' => e' = .returned (.bool X) ∧ Below W.heap.size W w') := CS0.out (HZ.out (by omega))
  clear HZ CS0
  obtain ⟨v0, v1, v2, v3, v4, v5, v6, v7, v8, v9⟩ := box10 X2.out
  go_wp2_with fail
  refine (TR.out w2).mono ?_
  rintro e' w3 ⟨rfl, hb⟩
  have B3 : Hid (Below w.heap.size w w3) := B2.out.trans (hb.mono B2.out.size)
  have X3 : Hid (Box w3 w.heap.size 23 #[.int .i64 e, .int .i64 l, .int .i64 t, .int .i64 k, .int .i64 p, .int .i64 n, .int .i64 g, .int .i64 s, .string b, .string a]) := X2.out.belowS hb
  have q2_3 : w2.heap.size ≤ w3.heap.size := hb.size
  clear B2 X2 hb v0 v1 v2 v3 v4 v5 v6 v7 v8 v9
  go_wp2_with fail
  refine (CS.out w3).mono ?_
  rintro e' w4 ⟨rfl, hb⟩
  have B4 : Hid (Below w.heap.size w w4) := B3.out.trans (hb.mono B3.out.size)
  have X4 : Hid (Box w4 w.heap.size 23 #[.int .i64 e, .int .i64 l, .int .i64 t, .int .i64 k, .int .i64 p, .int .i64 n, .int .i64 g, .int .i64 s, .string b, .string a]) := X3.out.belowS hb
  have q3_4 : w3.heap.size ≤ w4.heap.size := hb.size
  clear B3 X3 hb 
  obtain ⟨v0, v1, v2, v3, v4, v5, v6, v7, v8, v9⟩ := box10 X4.out
  go_wp2_with fail
  refine (TR.out w4).mono ?_
  rintro e' w5 ⟨rfl, hb⟩
  have B5 : Hid (Below w.heap.size w w5) := B4.out.trans (hb.mono B4.out.size)
  have X5 : Hid (Box w5 w.heap.size 23 #[.int .i64 e, .int .i64 l, .int .i64 t, .int .i64 k, .int .i64 p, .int .i64 n, .int .i64 g, .int .i64 s, .string b, .string a]) := X4.out.belowS hb
  have q4_5 : w4.heap.size ≤ w5.heap.size := hb.size
  clear B4 X4 hb v0 v1 v2 v3 v4 v5 v6 v7 v8 v9
  go_wp2_with fail
  refine (CI.out w5).mono ?_
  rintro e' w6 ⟨rfl, hb⟩
  have B6 : Hid (Below w.heap.size w w6) := B5.out.trans (hb.mono B5.out.size)
  have X6 : Hid (Box w6 w.heap.size 23 #[.int .i64 e, .int .i64 l, .int .i64 t, .int .i64 k, .int .i64 p, .int .i64 n, .int .i64 g, .int .i64 s, .string b, .string a]) := X5.out.belowS hb
  have q5_6 : w5.heap.size ≤ w6.heap.size := hb.size
  clear B5 X5 hb 
  go_wp2
  go_ret
  exact ⟨rfl, B6.out⟩

end Go.Proofs.Ytdbdhcjafdbmjaa
