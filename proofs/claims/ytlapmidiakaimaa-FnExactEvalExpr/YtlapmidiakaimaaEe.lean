/-
  EvalExpr of both sides.
-/
import Derived.Test.YtlapmidiakaimaaEd
import Derived.Test.YtlapmidiakaimaaXm
namespace Go.Proofs.Ytlapmidiakaimaa
open Go Go.RowKit
set_option linter.unusedVariables false
set_option linter.unusedSimpArgs false

def evA (L : List EN) (n : Nat) (i : Int) (u v : VV) : EV := match topX L n with | some p => (if rowB i u v then evE p i u v else errE 1) | none => errE 1
theorem row_parts {i : Int} {u v : VV} (h : rowB i u v = true) : inB i 0 1000 = true ∧ okV u = true ∧ okV v = true := by
  unfold rowB at h
  simp only [Bool.and_eq_true] at h
  exact ⟨h.1.1.1.1, h.1.1.1.2, h.1.1.2⟩
theorem top_some {L : List EN} {n : Nat} {p : PT} (h : topX L n = some p) : pF L n n = some (p, 0) := by
  unfold topX at h
  split at h
  · cases h
  · split at h
    · rename_i q e
      split at h
      · cases h
      · rw [e]; simp only [Option.some.injEq] at h; rw [h]
    · cases h
set_option maxRecDepth 100000 in
set_option maxHeartbeats 4000000 in
theorem c_iE_n (L : List EN) (a : Option Addr) (n c : Nat) (i : Int) (u v : VV) (w : World) (hr : RdE w a n L) (hn : n ≤ 1048576) (hs : ∀ x ∈ L, x.t.size ≤ maxLen) (h1 : u.2.2.size ≤ maxLen) (h2 : v.2.2.size ≤ maxLen) (CP : Hid (∀ W, Below w.heap.size w W → Calls Try.prog 64 #[.agg #[.slice a n c]] W fun e w' => e = .returned (.nilIface) ∧ Below W.heap.size W w')) (q : EV) (E : Hid (q = errE 1)) :
    Calls Try.prog 29 #[.agg #[.slice a n c], .agg #[.int .i64 i, .int .i64 u.1, .int .i64 u.2.1, .string u.2.2, .int .i64 v.1, .int .i64 v.2.1, .string v.2.2]] w fun e w' => e = .returned (.tuple #[.agg #[.int .i64 q.k, .int .i64 q.n, .string q.t], .int .i64 q.c]) ∧ Below w.heap.size w w' := by
  obtain ⟨w0, hw0⟩ : ∃ V, ((w.alloc (.cells #[.slice a n c] 38)).alloc (.cells #[.int .i64 i, .int .i64 u.1, .int .i64 u.2.1, .string u.2.2, .int .i64 v.1, .int .i64 v.2.1, .string v.2.2] 35)).alloc (.cells #[.int .i64 0, .int .i64 0, .string ⟨#[]⟩] 33) = V := ⟨_, rfl⟩
  have Bw0 : Hid (Below w.heap.size w w0) := by unfold Hid; rw [← hw0]; exact ((((Below.refl _ _).alloc (Nat.le_refl _) _).alloc (by simp) _).alloc (by simp; omega) _)
  have Ew0 : Hid (Box w0 w.heap.size 38 #[.slice a n c]) := by unfold Hid; rw [← hw0]; exact (((Box.new _ _ _).alloc _).alloc _)
  have Rw0 : Hid (Box w0 (w.heap.size + 1) 35 #[.int .i64 i, .int .i64 u.1, .int .i64 u.2.1, .string u.2.2, .int .i64 v.1, .int .i64 v.2.1, .string v.2.2]) := by unfold Hid; rw [← hw0]; exact ((Box.new2 _ _ _ _).alloc _)
  have Xw0 : Hid (Box w0 (w.heap.size + 2) 33 #[.int .i64 0, .int .i64 0, .string ⟨#[]⟩]) := by unfold Hid; rw [← hw0]; have := Box.new2 (w.alloc (.cells #[.slice a n c] 38)) (.cells #[.int .i64 i, .int .i64 u.1, .int .i64 u.2.1, .string u.2.2, .int .i64 v.1, .int .i64 v.2.1, .string v.2.2] 35) #[.int .i64 0, .int .i64 0, .string ⟨#[]⟩] 33; simpa using this
  have ec0 : w0.cell? ⟨w.heap.size, 0, none⟩ = some (.slice a n c) := Ew0.out.cell 0
  have el := Ew0.out.lt
  have rc0 : w0.cell? ⟨(w.heap.size + 1), 0, none⟩ = some (.int .i64 i) := Rw0.out.cell 0
  have rc1 : w0.cell? ⟨(w.heap.size + 1), 1, none⟩ = some (.int .i64 u.1) := Rw0.out.cell 1
  have rc2 : w0.cell? ⟨(w.heap.size + 1), 2, none⟩ = some (.int .i64 u.2.1) := Rw0.out.cell 2
  have rc3 : w0.cell? ⟨(w.heap.size + 1), 3, none⟩ = some (.string u.2.2) := Rw0.out.cell 3
  have rc4 : w0.cell? ⟨(w.heap.size + 1), 4, none⟩ = some (.int .i64 v.1) := Rw0.out.cell 4
  have rc5 : w0.cell? ⟨(w.heap.size + 1), 5, none⟩ = some (.int .i64 v.2.1) := Rw0.out.cell 5
  have rc6 : w0.cell? ⟨(w.heap.size + 1), 6, none⟩ = some (.string v.2.2) := Rw0.out.cell 6
  have rl := Rw0.out.lt
  have xc0 : w0.cell? ⟨(w.heap.size + 2), 0, none⟩ = some (.int .i64 0) := Xw0.out.cell 0
  have xc1 : w0.cell? ⟨(w.heap.size + 2), 1, none⟩ = some (.int .i64 0) := Xw0.out.cell 1
  have xc2 : w0.cell? ⟨(w.heap.size + 2), 2, none⟩ = some (.string ⟨#[]⟩) := Xw0.out.cell 2
  have xl := Xw0.out.lt
  have xt0 := Xw0.out.thaw 0
  have xt1 := Xw0.out.thaw 1
  have xt2 := Xw0.out.thaw 2
  go_enter Try.func29, Try.ntmps29
  go_wp2_with fail
  refine (CP.out w0 (Bw0.out)).mono ?_
  rintro e w1 ⟨rfl, hb⟩
  have Bw1 : Hid (Below w.heap.size w w1) := Bw0.out.trans (hb.mono Bw0.out.size)
  have Ew1 : Hid (Box w1 w.heap.size 38 #[.slice a n c]) := (Ew0.out).belowS hb
  have Rw1 : Hid (Box w1 (w.heap.size + 1) 35 #[.int .i64 i, .int .i64 u.1, .int .i64 u.2.1, .string u.2.2, .int .i64 v.1, .int .i64 v.2.1, .string v.2.2]) := (Rw0.out).belowS hb
  have Xw1 : Hid (Box w1 (w.heap.size + 2) 33 #[.int .i64 0, .int .i64 0, .string ⟨#[]⟩]) := (Xw0.out).belowS hb
  clear hb
  clear ec0 el rc0 rc1 rc2 rc3 rc4 rc5 rc6 rl xc0 xc1 xc2 xl xt0 xt1 xt2
  have ec0 : w1.cell? ⟨w.heap.size, 0, none⟩ = some (.slice a n c) := Ew1.out.cell 0
  have el := Ew1.out.lt
  have rc0 : w1.cell? ⟨(w.heap.size + 1), 0, none⟩ = some (.int .i64 i) := Rw1.out.cell 0
  have rc1 : w1.cell? ⟨(w.heap.size + 1), 1, none⟩ = some (.int .i64 u.1) := Rw1.out.cell 1
  have rc2 : w1.cell? ⟨(w.heap.size + 1), 2, none⟩ = some (.int .i64 u.2.1) := Rw1.out.cell 2
  have rc3 : w1.cell? ⟨(w.heap.size + 1), 3, none⟩ = some (.string u.2.2) := Rw1.out.cell 3
  have rc4 : w1.cell? ⟨(w.heap.size + 1), 4, none⟩ = some (.int .i64 v.1) := Rw1.out.cell 4
  have rc5 : w1.cell? ⟨(w.heap.size + 1), 5, none⟩ = some (.int .i64 v.2.1) := Rw1.out.cell 5
  have rc6 : w1.cell? ⟨(w.heap.size + 1), 6, none⟩ = some (.string v.2.2) := Rw1.out.cell 6
  have rl := Rw1.out.lt
  have xc0 : w1.cell? ⟨(w.heap.size + 2), 0, none⟩ = some (.int .i64 0) := Xw1.out.cell 0
  have xc1 : w1.cell? ⟨(w.heap.size + 2), 1, none⟩ = some (.int .i64 0) := Xw1.out.cell 1
  have xc2 : w1.cell? ⟨(w.heap.size + 2), 2, none⟩ = some (.string ⟨#[]⟩) := Xw1.out.cell 2
  have xl := Xw1.out.lt
  have xt0 := Xw1.out.thaw 0
  have xt1 := Xw1.out.thaw 1
  have xt2 := Xw1.out.thaw 2
  go_wp2
  refine ret32 Try.results29 rfl rfl rfl (put3_box Xw1.out _ _ _) ⟨?_, put3_below Bw1.out (by omega) _ _ _⟩
  rw [E.out]
  rfl
set_option maxRecDepth 100000 in
set_option maxHeartbeats 4000000 in
theorem c_iE_r (L : List EN) (a : Option Addr) (n c : Nat) (i : Int) (u v : VV) (w : World) (hr : RdE w a n L) (hn : n ≤ 1048576) (hs : ∀ x ∈ L, x.t.size ≤ maxLen) (h1 : u.2.2.size ≤ maxLen) (h2 : v.2.2.size ≤ maxLen) (T9 : TypeId) (y9 : Value) (CP : Hid (∀ W, Below w.heap.size w W → Calls Try.prog 64 #[.agg #[.slice a n c]] W fun e w' => e = .returned (.iface T9 y9) ∧ Below W.heap.size W w')) (rb : rowB i u v = false) (q : EV) (E : Hid (q = errE 1)) :
    Calls Try.prog 29 #[.agg #[.slice a n c], .agg #[.int .i64 i, .int .i64 u.1, .int .i64 u.2.1, .string u.2.2, .int .i64 v.1, .int .i64 v.2.1, .string v.2.2]] w fun e w' => e = .returned (.tuple #[.agg #[.int .i64 q.k, .int .i64 q.n, .string q.t], .int .i64 q.c]) ∧ Below w.heap.size w w' := by
  obtain ⟨w0, hw0⟩ : ∃ V, ((w.alloc (.cells #[.slice a n c] 38)).alloc (.cells #[.int .i64 i, .int .i64 u.1, .int .i64 u.2.1, .string u.2.2, .int .i64 v.1, .int .i64 v.2.1, .string v.2.2] 35)).alloc (.cells #[.int .i64 0, .int .i64 0, .string ⟨#[]⟩] 33) = V := ⟨_, rfl⟩
  have Bw0 : Hid (Below w.heap.size w w0) := by unfold Hid; rw [← hw0]; exact ((((Below.refl _ _).alloc (Nat.le_refl _) _).alloc (by simp) _).alloc (by simp; omega) _)
  have Ew0 : Hid (Box w0 w.heap.size 38 #[.slice a n c]) := by unfold Hid; rw [← hw0]; exact (((Box.new _ _ _).alloc _).alloc _)
  have Rw0 : Hid (Box w0 (w.heap.size + 1) 35 #[.int .i64 i, .int .i64 u.1, .int .i64 u.2.1, .string u.2.2, .int .i64 v.1, .int .i64 v.2.1, .string v.2.2]) := by unfold Hid; rw [← hw0]; exact ((Box.new2 _ _ _ _).alloc _)
  have Xw0 : Hid (Box w0 (w.heap.size + 2) 33 #[.int .i64 0, .int .i64 0, .string ⟨#[]⟩]) := by unfold Hid; rw [← hw0]; have := Box.new2 (w.alloc (.cells #[.slice a n c] 38)) (.cells #[.int .i64 i, .int .i64 u.1, .int .i64 u.2.1, .string u.2.2, .int .i64 v.1, .int .i64 v.2.1, .string v.2.2] 35) #[.int .i64 0, .int .i64 0, .string ⟨#[]⟩] 33; simpa using this
  have ec0 : w0.cell? ⟨w.heap.size, 0, none⟩ = some (.slice a n c) := Ew0.out.cell 0
  have el := Ew0.out.lt
  have rc0 : w0.cell? ⟨(w.heap.size + 1), 0, none⟩ = some (.int .i64 i) := Rw0.out.cell 0
  have rc1 : w0.cell? ⟨(w.heap.size + 1), 1, none⟩ = some (.int .i64 u.1) := Rw0.out.cell 1
  have rc2 : w0.cell? ⟨(w.heap.size + 1), 2, none⟩ = some (.int .i64 u.2.1) := Rw0.out.cell 2
  have rc3 : w0.cell? ⟨(w.heap.size + 1), 3, none⟩ = some (.string u.2.2) := Rw0.out.cell 3
  have rc4 : w0.cell? ⟨(w.heap.size + 1), 4, none⟩ = some (.int .i64 v.1) := Rw0.out.cell 4
  have rc5 : w0.cell? ⟨(w.heap.size + 1), 5, none⟩ = some (.int .i64 v.2.1) := Rw0.out.cell 5
  have rc6 : w0.cell? ⟨(w.heap.size + 1), 6, none⟩ = some (.string v.2.2) := Rw0.out.cell 6
  have rl := Rw0.out.lt
  have xc0 : w0.cell? ⟨(w.heap.size + 2), 0, none⟩ = some (.int .i64 0) := Xw0.out.cell 0
  have xc1 : w0.cell? ⟨(w.heap.size + 2), 1, none⟩ = some (.int .i64 0) := Xw0.out.cell 1
  have xc2 : w0.cell? ⟨(w.heap.size + 2), 2, none⟩ = some (.string ⟨#[]⟩) := Xw0.out.cell 2
  have xl := Xw0.out.lt
  have xt0 := Xw0.out.thaw 0
  have xt1 := Xw0.out.thaw 1
  have xt2 := Xw0.out.thaw 2
  go_enter Try.func29, Try.ntmps29
  go_wp2_with fail
  refine (CP.out w0 (Bw0.out)).mono ?_
  rintro e w1 ⟨rfl, hb⟩
  have Bw1 : Hid (Below w.heap.size w w1) := Bw0.out.trans (hb.mono Bw0.out.size)
  have Ew1 : Hid (Box w1 w.heap.size 38 #[.slice a n c]) := (Ew0.out).belowS hb
  have Rw1 : Hid (Box w1 (w.heap.size + 1) 35 #[.int .i64 i, .int .i64 u.1, .int .i64 u.2.1, .string u.2.2, .int .i64 v.1, .int .i64 v.2.1, .string v.2.2]) := (Rw0.out).belowS hb
  have Xw1 : Hid (Box w1 (w.heap.size + 2) 33 #[.int .i64 0, .int .i64 0, .string ⟨#[]⟩]) := (Xw0.out).belowS hb
  clear hb
  clear ec0 el rc0 rc1 rc2 rc3 rc4 rc5 rc6 rl xc0 xc1 xc2 xl xt0 xt1 xt2
  have ec0 : w1.cell? ⟨w.heap.size, 0, none⟩ = some (.slice a n c) := Ew1.out.cell 0
  have el := Ew1.out.lt
  have rc0 : w1.cell? ⟨(w.heap.size + 1), 0, none⟩ = some (.int .i64 i) := Rw1.out.cell 0
  have rc1 : w1.cell? ⟨(w.heap.size + 1), 1, none⟩ = some (.int .i64 u.1) := Rw1.out.cell 1
  have rc2 : w1.cell? ⟨(w.heap.size + 1), 2, none⟩ = some (.int .i64 u.2.1) := Rw1.out.cell 2
  have rc3 : w1.cell? ⟨(w.heap.size + 1), 3, none⟩ = some (.string u.2.2) := Rw1.out.cell 3
  have rc4 : w1.cell? ⟨(w.heap.size + 1), 4, none⟩ = some (.int .i64 v.1) := Rw1.out.cell 4
  have rc5 : w1.cell? ⟨(w.heap.size + 1), 5, none⟩ = some (.int .i64 v.2.1) := Rw1.out.cell 5
  have rc6 : w1.cell? ⟨(w.heap.size + 1), 6, none⟩ = some (.string v.2.2) := Rw1.out.cell 6
  have rl := Rw1.out.lt
  have xc0 : w1.cell? ⟨(w.heap.size + 2), 0, none⟩ = some (.int .i64 0) := Xw1.out.cell 0
  have xc1 : w1.cell? ⟨(w.heap.size + 2), 1, none⟩ = some (.int .i64 0) := Xw1.out.cell 1
  have xc2 : w1.cell? ⟨(w.heap.size + 2), 2, none⟩ = some (.string ⟨#[]⟩) := Xw1.out.cell 2
  have xl := Xw1.out.lt
  have xt0 := Xw1.out.thaw 0
  have xt1 := Xw1.out.thaw 1
  have xt2 := Xw1.out.thaw 2
  go_wp2_with fail
  refine (c_isRow i u v w1 h1 h2).mono ?_
  rintro e w2 ⟨rfl, hb⟩
  have Bw2 : Hid (Below w.heap.size w w2) := Bw1.out.trans (hb.mono Bw1.out.size)
  have Ew2 : Hid (Box w2 w.heap.size 38 #[.slice a n c]) := (Ew1.out).belowS hb
  have Rw2 : Hid (Box w2 (w.heap.size + 1) 35 #[.int .i64 i, .int .i64 u.1, .int .i64 u.2.1, .string u.2.2, .int .i64 v.1, .int .i64 v.2.1, .string v.2.2]) := (Rw1.out).belowS hb
  have Xw2 : Hid (Box w2 (w.heap.size + 2) 33 #[.int .i64 0, .int .i64 0, .string ⟨#[]⟩]) := (Xw1.out).belowS hb
  clear hb
  rw [rb]
  clear ec0 el rc0 rc1 rc2 rc3 rc4 rc5 rc6 rl xc0 xc1 xc2 xl xt0 xt1 xt2
  have ec0 : w2.cell? ⟨w.heap.size, 0, none⟩ = some (.slice a n c) := Ew2.out.cell 0
  have el := Ew2.out.lt
  have rc0 : w2.cell? ⟨(w.heap.size + 1), 0, none⟩ = some (.int .i64 i) := Rw2.out.cell 0
  have rc1 : w2.cell? ⟨(w.heap.size + 1), 1, none⟩ = some (.int .i64 u.1) := Rw2.out.cell 1
  have rc2 : w2.cell? ⟨(w.heap.size + 1), 2, none⟩ = some (.int .i64 u.2.1) := Rw2.out.cell 2
  have rc3 : w2.cell? ⟨(w.heap.size + 1), 3, none⟩ = some (.string u.2.2) := Rw2.out.cell 3
  have rc4 : w2.cell? ⟨(w.heap.size + 1), 4, none⟩ = some (.int .i64 v.1) := Rw2.out.cell 4
  have rc5 : w2.cell? ⟨(w.heap.size + 1), 5, none⟩ = some (.int .i64 v.2.1) := Rw2.out.cell 5
  have rc6 : w2.cell? ⟨(w.heap.size + 1), 6, none⟩ = some (.string v.2.2) := Rw2.out.cell 6
  have rl := Rw2.out.lt
  have xc0 : w2.cell? ⟨(w.heap.size + 2), 0, none⟩ = some (.int .i64 0) := Xw2.out.cell 0
  have xc1 : w2.cell? ⟨(w.heap.size + 2), 1, none⟩ = some (.int .i64 0) := Xw2.out.cell 1
  have xc2 : w2.cell? ⟨(w.heap.size + 2), 2, none⟩ = some (.string ⟨#[]⟩) := Xw2.out.cell 2
  have xl := Xw2.out.lt
  have xt0 := Xw2.out.thaw 0
  have xt1 := Xw2.out.thaw 1
  have xt2 := Xw2.out.thaw 2
  go_wp2
  refine ret32 Try.results29 rfl rfl rfl (put3_box Xw2.out _ _ _) ⟨?_, put3_below Bw2.out (by omega) _ _ _⟩
  rw [E.out]
  rfl
set_option maxRecDepth 100000 in
set_option maxHeartbeats 4000000 in
theorem c_iE_v (L : List EN) (a : Option Addr) (n c : Nat) (i : Int) (u v : VV) (w : World) (hr : RdE w a n L) (hn : n ≤ 1048576) (hs : ∀ x ∈ L, x.t.size ≤ maxLen) (h1 : u.2.2.size ≤ maxLen) (h2 : v.2.2.size ≤ maxLen) (T9 : TypeId) (y9 : Value) (CP : Hid (∀ W, Below w.heap.size w W → Calls Try.prog 64 #[.agg #[.slice a n c]] W fun e w' => e = .returned (.iface T9 y9) ∧ Below W.heap.size W w')) (rb : rowB i u v = true) (r : EV) (CV : Hid (∀ W, Calls Try.prog 65 #[.iface T9 y9, .agg #[.int .i64 i, .int .i64 u.1, .int .i64 u.2.1, .string u.2.2, .int .i64 v.1, .int .i64 v.2.1, .string v.2.2]] W fun e w' => e = .returned (.tuple #[.agg #[.int .i64 r.k, .int .i64 r.n, .string r.t], .int .i64 r.c]) ∧ Below W.heap.size W w')) (q : EV) (E : Hid (q = r)) :
    Calls Try.prog 29 #[.agg #[.slice a n c], .agg #[.int .i64 i, .int .i64 u.1, .int .i64 u.2.1, .string u.2.2, .int .i64 v.1, .int .i64 v.2.1, .string v.2.2]] w fun e w' => e = .returned (.tuple #[.agg #[.int .i64 q.k, .int .i64 q.n, .string q.t], .int .i64 q.c]) ∧ Below w.heap.size w w' := by
  obtain ⟨w0, hw0⟩ : ∃ V, ((w.alloc (.cells #[.slice a n c] 38)).alloc (.cells #[.int .i64 i, .int .i64 u.1, .int .i64 u.2.1, .string u.2.2, .int .i64 v.1, .int .i64 v.2.1, .string v.2.2] 35)).alloc (.cells #[.int .i64 0, .int .i64 0, .string ⟨#[]⟩] 33) = V := ⟨_, rfl⟩
  have Bw0 : Hid (Below w.heap.size w w0) := by unfold Hid; rw [← hw0]; exact ((((Below.refl _ _).alloc (Nat.le_refl _) _).alloc (by simp) _).alloc (by simp; omega) _)
  have Ew0 : Hid (Box w0 w.heap.size 38 #[.slice a n c]) := by unfold Hid; rw [← hw0]; exact (((Box.new _ _ _).alloc _).alloc _)
  have Rw0 : Hid (Box w0 (w.heap.size + 1) 35 #[.int .i64 i, .int .i64 u.1, .int .i64 u.2.1, .string u.2.2, .int .i64 v.1, .int .i64 v.2.1, .string v.2.2]) := by unfold Hid; rw [← hw0]; exact ((Box.new2 _ _ _ _).alloc _)
  have Xw0 : Hid (Box w0 (w.heap.size + 2) 33 #[.int .i64 0, .int .i64 0, .string ⟨#[]⟩]) := by unfold Hid; rw [← hw0]; have := Box.new2 (w.alloc (.cells #[.slice a n c] 38)) (.cells #[.int .i64 i, .int .i64 u.1, .int .i64 u.2.1, .string u.2.2, .int .i64 v.1, .int .i64 v.2.1, .string v.2.2] 35) #[.int .i64 0, .int .i64 0, .string ⟨#[]⟩] 33; simpa using this
  have ec0 : w0.cell? ⟨w.heap.size, 0, none⟩ = some (.slice a n c) := Ew0.out.cell 0
  have el := Ew0.out.lt
  have rc0 : w0.cell? ⟨(w.heap.size + 1), 0, none⟩ = some (.int .i64 i) := Rw0.out.cell 0
  have rc1 : w0.cell? ⟨(w.heap.size + 1), 1, none⟩ = some (.int .i64 u.1) := Rw0.out.cell 1
  have rc2 : w0.cell? ⟨(w.heap.size + 1), 2, none⟩ = some (.int .i64 u.2.1) := Rw0.out.cell 2
  have rc3 : w0.cell? ⟨(w.heap.size + 1), 3, none⟩ = some (.string u.2.2) := Rw0.out.cell 3
  have rc4 : w0.cell? ⟨(w.heap.size + 1), 4, none⟩ = some (.int .i64 v.1) := Rw0.out.cell 4
  have rc5 : w0.cell? ⟨(w.heap.size + 1), 5, none⟩ = some (.int .i64 v.2.1) := Rw0.out.cell 5
  have rc6 : w0.cell? ⟨(w.heap.size + 1), 6, none⟩ = some (.string v.2.2) := Rw0.out.cell 6
  have rl := Rw0.out.lt
  have xc0 : w0.cell? ⟨(w.heap.size + 2), 0, none⟩ = some (.int .i64 0) := Xw0.out.cell 0
  have xc1 : w0.cell? ⟨(w.heap.size + 2), 1, none⟩ = some (.int .i64 0) := Xw0.out.cell 1
  have xc2 : w0.cell? ⟨(w.heap.size + 2), 2, none⟩ = some (.string ⟨#[]⟩) := Xw0.out.cell 2
  have xl := Xw0.out.lt
  have xt0 := Xw0.out.thaw 0
  have xt1 := Xw0.out.thaw 1
  have xt2 := Xw0.out.thaw 2
  go_enter Try.func29, Try.ntmps29
  go_wp2_with fail
  refine (CP.out w0 (Bw0.out)).mono ?_
  rintro e w1 ⟨rfl, hb⟩
  have Bw1 : Hid (Below w.heap.size w w1) := Bw0.out.trans (hb.mono Bw0.out.size)
  have Ew1 : Hid (Box w1 w.heap.size 38 #[.slice a n c]) := (Ew0.out).belowS hb
  have Rw1 : Hid (Box w1 (w.heap.size + 1) 35 #[.int .i64 i, .int .i64 u.1, .int .i64 u.2.1, .string u.2.2, .int .i64 v.1, .int .i64 v.2.1, .string v.2.2]) := (Rw0.out).belowS hb
  have Xw1 : Hid (Box w1 (w.heap.size + 2) 33 #[.int .i64 0, .int .i64 0, .string ⟨#[]⟩]) := (Xw0.out).belowS hb
  clear hb
  clear ec0 el rc0 rc1 rc2 rc3 rc4 rc5 rc6 rl xc0 xc1 xc2 xl xt0 xt1 xt2
  have ec0 : w1.cell? ⟨w.heap.size, 0, none⟩ = some (.slice a n c) := Ew1.out.cell 0
  have el := Ew1.out.lt
  have rc0 : w1.cell? ⟨(w.heap.size + 1), 0, none⟩ = some (.int .i64 i) := Rw1.out.cell 0
  have rc1 : w1.cell? ⟨(w.heap.size + 1), 1, none⟩ = some (.int .i64 u.1) := Rw1.out.cell 1
  have rc2 : w1.cell? ⟨(w.heap.size + 1), 2, none⟩ = some (.int .i64 u.2.1) := Rw1.out.cell 2
  have rc3 : w1.cell? ⟨(w.heap.size + 1), 3, none⟩ = some (.string u.2.2) := Rw1.out.cell 3
  have rc4 : w1.cell? ⟨(w.heap.size + 1), 4, none⟩ = some (.int .i64 v.1) := Rw1.out.cell 4
  have rc5 : w1.cell? ⟨(w.heap.size + 1), 5, none⟩ = some (.int .i64 v.2.1) := Rw1.out.cell 5
  have rc6 : w1.cell? ⟨(w.heap.size + 1), 6, none⟩ = some (.string v.2.2) := Rw1.out.cell 6
  have rl := Rw1.out.lt
  have xc0 : w1.cell? ⟨(w.heap.size + 2), 0, none⟩ = some (.int .i64 0) := Xw1.out.cell 0
  have xc1 : w1.cell? ⟨(w.heap.size + 2), 1, none⟩ = some (.int .i64 0) := Xw1.out.cell 1
  have xc2 : w1.cell? ⟨(w.heap.size + 2), 2, none⟩ = some (.string ⟨#[]⟩) := Xw1.out.cell 2
  have xl := Xw1.out.lt
  have xt0 := Xw1.out.thaw 0
  have xt1 := Xw1.out.thaw 1
  have xt2 := Xw1.out.thaw 2
  go_wp2_with fail
  refine (c_isRow i u v w1 h1 h2).mono ?_
  rintro e w2 ⟨rfl, hb⟩
  have Bw2 : Hid (Below w.heap.size w w2) := Bw1.out.trans (hb.mono Bw1.out.size)
  have Ew2 : Hid (Box w2 w.heap.size 38 #[.slice a n c]) := (Ew1.out).belowS hb
  have Rw2 : Hid (Box w2 (w.heap.size + 1) 35 #[.int .i64 i, .int .i64 u.1, .int .i64 u.2.1, .string u.2.2, .int .i64 v.1, .int .i64 v.2.1, .string v.2.2]) := (Rw1.out).belowS hb
  have Xw2 : Hid (Box w2 (w.heap.size + 2) 33 #[.int .i64 0, .int .i64 0, .string ⟨#[]⟩]) := (Xw1.out).belowS hb
  clear hb
  rw [rb]
  clear ec0 el rc0 rc1 rc2 rc3 rc4 rc5 rc6 rl xc0 xc1 xc2 xl xt0 xt1 xt2
  have ec0 : w2.cell? ⟨w.heap.size, 0, none⟩ = some (.slice a n c) := Ew2.out.cell 0
  have el := Ew2.out.lt
  have rc0 : w2.cell? ⟨(w.heap.size + 1), 0, none⟩ = some (.int .i64 i) := Rw2.out.cell 0
  have rc1 : w2.cell? ⟨(w.heap.size + 1), 1, none⟩ = some (.int .i64 u.1) := Rw2.out.cell 1
  have rc2 : w2.cell? ⟨(w.heap.size + 1), 2, none⟩ = some (.int .i64 u.2.1) := Rw2.out.cell 2
  have rc3 : w2.cell? ⟨(w.heap.size + 1), 3, none⟩ = some (.string u.2.2) := Rw2.out.cell 3
  have rc4 : w2.cell? ⟨(w.heap.size + 1), 4, none⟩ = some (.int .i64 v.1) := Rw2.out.cell 4
  have rc5 : w2.cell? ⟨(w.heap.size + 1), 5, none⟩ = some (.int .i64 v.2.1) := Rw2.out.cell 5
  have rc6 : w2.cell? ⟨(w.heap.size + 1), 6, none⟩ = some (.string v.2.2) := Rw2.out.cell 6
  have rl := Rw2.out.lt
  have xc0 : w2.cell? ⟨(w.heap.size + 2), 0, none⟩ = some (.int .i64 0) := Xw2.out.cell 0
  have xc1 : w2.cell? ⟨(w.heap.size + 2), 1, none⟩ = some (.int .i64 0) := Xw2.out.cell 1
  have xc2 : w2.cell? ⟨(w.heap.size + 2), 2, none⟩ = some (.string ⟨#[]⟩) := Xw2.out.cell 2
  have xl := Xw2.out.lt
  have xt0 := Xw2.out.thaw 0
  have xt1 := Xw2.out.thaw 1
  have xt2 := Xw2.out.thaw 2
  go_wp2_with fail
  refine (CV.out w2).mono ?_
  rintro e w3 ⟨rfl, hb⟩
  have Bw3 : Hid (Below w.heap.size w w3) := Bw2.out.trans (hb.mono Bw2.out.size)
  have Ew3 : Hid (Box w3 w.heap.size 38 #[.slice a n c]) := (Ew2.out).belowS hb
  have Rw3 : Hid (Box w3 (w.heap.size + 1) 35 #[.int .i64 i, .int .i64 u.1, .int .i64 u.2.1, .string u.2.2, .int .i64 v.1, .int .i64 v.2.1, .string v.2.2]) := (Rw2.out).belowS hb
  have Xw3 : Hid (Box w3 (w.heap.size + 2) 33 #[.int .i64 0, .int .i64 0, .string ⟨#[]⟩]) := (Xw2.out).belowS hb
  clear hb
  clear ec0 el rc0 rc1 rc2 rc3 rc4 rc5 rc6 rl xc0 xc1 xc2 xl xt0 xt1 xt2
  have xc0 : w3.cell? ⟨(w.heap.size + 2), 0, none⟩ = some (.int .i64 0) := Xw3.out.cell 0
  have xc1 : w3.cell? ⟨(w.heap.size + 2), 1, none⟩ = some (.int .i64 0) := Xw3.out.cell 1
  have xc2 : w3.cell? ⟨(w.heap.size + 2), 2, none⟩ = some (.string ⟨#[]⟩) := Xw3.out.cell 2
  have xl := Xw3.out.lt
  have xt0 := Xw3.out.thaw 0
  have xt1 := Xw3.out.thaw 1
  have xt2 := Xw3.out.thaw 2
  go_wp2
  refine ret32 Try.results29 rfl rfl rfl (put3_box Xw3.out _ _ _) ⟨?_, put3_below Bw3.out (by omega) _ _ _⟩
  rw [E.out]
  rfl
theorem c_implEV (L : List EN) (a : Option Addr) (n c : Nat) (i : Int) (u v : VV) (w : World) (hr : RdE w a n L) (hn : n ≤ 1048576) (hs : ∀ x ∈ L, x.t.size ≤ maxLen) (h1 : u.2.2.size ≤ maxLen) (h2 : v.2.2.size ≤ maxLen) : Calls Try.prog 29 #[.agg #[.slice a n c], .agg #[.int .i64 i, .int .i64 u.1, .int .i64 u.2.1, .string u.2.2, .int .i64 v.1, .int .i64 v.2.1, .string v.2.2]] w fun e w' => e = .returned (.tuple #[.agg #[.int .i64 (evA L n i u v).k, .int .i64 (evA L n i u v).n, .string (evA L n i u v).t], .int .i64 (evA L n i u v).c]) ∧ Below w.heap.size w w' := by
  have CP : Hid (∀ W, Below w.heap.size w W → Calls Try.prog 64 #[.agg #[.slice a n c]] W fun e w' => e = .returned (encT (topX L n)) ∧ Below W.heap.size W w') := fun W hW => c_partOf L a n c W (hr.below hW) hn hs
  cases e : topX L n with
  | none =>
    rw [e] at CP
    exact c_iE_n L a n c i u v w hr hn hs h1 h2 CP _ (by unfold Hid evA; rw [e])
  | some p =>
    rw [e] at CP
    obtain ⟨T9, y9, hy⟩ := encI p
    simp only [encT] at CP
    rw [hy] at CP
    cases rb : rowB i u v
    · exact c_iE_r L a n c i u v w hr hn hs h1 h2 T9 y9 CP rb _ (by unfold Hid evA; rw [e]; simp only [rb]; rfl)
    · obtain ⟨r0, r1, r2⟩ := row_parts rb
      have CV : Hid (∀ W, Calls Try.prog 65 #[p.enc, .agg #[.int .i64 i, .int .i64 u.1, .int .i64 u.2.1, .string u.2.2, .int .i64 v.1, .int .i64 v.2.1, .string v.2.2]] W fun e w' => e = .returned (.tuple #[.agg #[.int .i64 (evE p i u v).k, .int .i64 (evE p i u v).n, .string (evE p i u v).t], .int .i64 (evE p i u v).c]) ∧ Below W.heap.size W w') := fun W => c_pv i u v r0 r1 r2 p (pF_ok L n n p 0 (top_some e)) W
      rw [hy] at CV
      exact c_iE_v L a n c i u v w hr hn hs h1 h2 T9 y9 CP rb (evE p i u v) CV _ (by unfold Hid evA; rw [e]; simp only [rb]; rfl)
set_option maxRecDepth 100000 in
set_option maxHeartbeats 4000000 in
theorem c_sE_n (L : List EN) (a : Option Addr) (n c : Nat) (i : Int) (u v : VV) (w : World) (hr : RdE w a n L) (hn : n ≤ 1048576) (hs : ∀ x ∈ L, x.t.size ≤ maxLen) (h1 : u.2.2.size ≤ maxLen) (h2 : v.2.2.size ≤ maxLen) (CO : Hid (∀ W, Below w.heap.size w W → Calls Try.prog 37 #[.agg #[.slice a n c]] W fun e w' => e = .returned (.bool false) ∧ Below W.heap.size W w')) (q : EV) (E : Hid (q = errE 1)) :
    Calls Try.prog 26 #[.agg #[.slice a n c], .agg #[.int .i64 i, .int .i64 u.1, .int .i64 u.2.1, .string u.2.2, .int .i64 v.1, .int .i64 v.2.1, .string v.2.2]] w fun e w' => e = .returned (.tuple #[.agg #[.int .i64 q.k, .int .i64 q.n, .string q.t], .int .i64 q.c]) ∧ Below w.heap.size w w' := by
  obtain ⟨w0, hw0⟩ : ∃ V, ((w.alloc (.cells #[.slice a n c] 38)).alloc (.cells #[.int .i64 i, .int .i64 u.1, .int .i64 u.2.1, .string u.2.2, .int .i64 v.1, .int .i64 v.2.1, .string v.2.2] 35)).alloc (.cells #[.int .i64 0, .int .i64 0, .string ⟨#[]⟩] 33) = V := ⟨_, rfl⟩
  have Bw0 : Hid (Below w.heap.size w w0) := by unfold Hid; rw [← hw0]; exact ((((Below.refl _ _).alloc (Nat.le_refl _) _).alloc (by simp) _).alloc (by simp; omega) _)
  have Ew0 : Hid (Box w0 w.heap.size 38 #[.slice a n c]) := by unfold Hid; rw [← hw0]; exact (((Box.new _ _ _).alloc _).alloc _)
  have Rw0 : Hid (Box w0 (w.heap.size + 1) 35 #[.int .i64 i, .int .i64 u.1, .int .i64 u.2.1, .string u.2.2, .int .i64 v.1, .int .i64 v.2.1, .string v.2.2]) := by unfold Hid; rw [← hw0]; exact ((Box.new2 _ _ _ _).alloc _)
  have Xw0 : Hid (Box w0 (w.heap.size + 2) 33 #[.int .i64 0, .int .i64 0, .string ⟨#[]⟩]) := by unfold Hid; rw [← hw0]; have := Box.new2 (w.alloc (.cells #[.slice a n c] 38)) (.cells #[.int .i64 i, .int .i64 u.1, .int .i64 u.2.1, .string u.2.2, .int .i64 v.1, .int .i64 v.2.1, .string v.2.2] 35) #[.int .i64 0, .int .i64 0, .string ⟨#[]⟩] 33; simpa using this
  have ec0 : w0.cell? ⟨w.heap.size, 0, none⟩ = some (.slice a n c) := Ew0.out.cell 0
  have el := Ew0.out.lt
  have rc0 : w0.cell? ⟨(w.heap.size + 1), 0, none⟩ = some (.int .i64 i) := Rw0.out.cell 0
  have rc1 : w0.cell? ⟨(w.heap.size + 1), 1, none⟩ = some (.int .i64 u.1) := Rw0.out.cell 1
  have rc2 : w0.cell? ⟨(w.heap.size + 1), 2, none⟩ = some (.int .i64 u.2.1) := Rw0.out.cell 2
  have rc3 : w0.cell? ⟨(w.heap.size + 1), 3, none⟩ = some (.string u.2.2) := Rw0.out.cell 3
  have rc4 : w0.cell? ⟨(w.heap.size + 1), 4, none⟩ = some (.int .i64 v.1) := Rw0.out.cell 4
  have rc5 : w0.cell? ⟨(w.heap.size + 1), 5, none⟩ = some (.int .i64 v.2.1) := Rw0.out.cell 5
  have rc6 : w0.cell? ⟨(w.heap.size + 1), 6, none⟩ = some (.string v.2.2) := Rw0.out.cell 6
  have rl := Rw0.out.lt
  have xc0 : w0.cell? ⟨(w.heap.size + 2), 0, none⟩ = some (.int .i64 0) := Xw0.out.cell 0
  have xc1 : w0.cell? ⟨(w.heap.size + 2), 1, none⟩ = some (.int .i64 0) := Xw0.out.cell 1
  have xc2 : w0.cell? ⟨(w.heap.size + 2), 2, none⟩ = some (.string ⟨#[]⟩) := Xw0.out.cell 2
  have xl := Xw0.out.lt
  have xt0 := Xw0.out.thaw 0
  have xt1 := Xw0.out.thaw 1
  have xt2 := Xw0.out.thaw 2
  go_enter Try.func26, Try.ntmps26
  go_wp2_with fail
  refine (CO.out w0 (Bw0.out)).mono ?_
  rintro e w1 ⟨rfl, hb⟩
  have Bw1 : Hid (Below w.heap.size w w1) := Bw0.out.trans (hb.mono Bw0.out.size)
  have Ew1 : Hid (Box w1 w.heap.size 38 #[.slice a n c]) := (Ew0.out).belowS hb
  have Rw1 : Hid (Box w1 (w.heap.size + 1) 35 #[.int .i64 i, .int .i64 u.1, .int .i64 u.2.1, .string u.2.2, .int .i64 v.1, .int .i64 v.2.1, .string v.2.2]) := (Rw0.out).belowS hb
  have Xw1 : Hid (Box w1 (w.heap.size + 2) 33 #[.int .i64 0, .int .i64 0, .string ⟨#[]⟩]) := (Xw0.out).belowS hb
  clear hb
  clear ec0 el rc0 rc1 rc2 rc3 rc4 rc5 rc6 rl xc0 xc1 xc2 xl xt0 xt1 xt2
  have ec0 : w1.cell? ⟨w.heap.size, 0, none⟩ = some (.slice a n c) := Ew1.out.cell 0
  have el := Ew1.out.lt
  have rc0 : w1.cell? ⟨(w.heap.size + 1), 0, none⟩ = some (.int .i64 i) := Rw1.out.cell 0
  have rc1 : w1.cell? ⟨(w.heap.size + 1), 1, none⟩ = some (.int .i64 u.1) := Rw1.out.cell 1
  have rc2 : w1.cell? ⟨(w.heap.size + 1), 2, none⟩ = some (.int .i64 u.2.1) := Rw1.out.cell 2
  have rc3 : w1.cell? ⟨(w.heap.size + 1), 3, none⟩ = some (.string u.2.2) := Rw1.out.cell 3
  have rc4 : w1.cell? ⟨(w.heap.size + 1), 4, none⟩ = some (.int .i64 v.1) := Rw1.out.cell 4
  have rc5 : w1.cell? ⟨(w.heap.size + 1), 5, none⟩ = some (.int .i64 v.2.1) := Rw1.out.cell 5
  have rc6 : w1.cell? ⟨(w.heap.size + 1), 6, none⟩ = some (.string v.2.2) := Rw1.out.cell 6
  have rl := Rw1.out.lt
  have xc0 : w1.cell? ⟨(w.heap.size + 2), 0, none⟩ = some (.int .i64 0) := Xw1.out.cell 0
  have xc1 : w1.cell? ⟨(w.heap.size + 2), 1, none⟩ = some (.int .i64 0) := Xw1.out.cell 1
  have xc2 : w1.cell? ⟨(w.heap.size + 2), 2, none⟩ = some (.string ⟨#[]⟩) := Xw1.out.cell 2
  have xl := Xw1.out.lt
  have xt0 := Xw1.out.thaw 0
  have xt1 := Xw1.out.thaw 1
  have xt2 := Xw1.out.thaw 2
  go_wp2
  refine ret32 Try.results26 rfl rfl rfl (put3_box Xw1.out _ _ _) ⟨?_, put3_below Bw1.out (by omega) _ _ _⟩
  rw [E.out]
  rfl
set_option maxRecDepth 100000 in
set_option maxHeartbeats 4000000 in
theorem c_sE_r (L : List EN) (a : Option Addr) (n c : Nat) (i : Int) (u v : VV) (w : World) (hr : RdE w a n L) (hn : n ≤ 1048576) (hs : ∀ x ∈ L, x.t.size ≤ maxLen) (h1 : u.2.2.size ≤ maxLen) (h2 : v.2.2.size ≤ maxLen) (CO : Hid (∀ W, Below w.heap.size w W → Calls Try.prog 37 #[.agg #[.slice a n c]] W fun e w' => e = .returned (.bool true) ∧ Below W.heap.size W w')) (rb : rowB i u v = false) (q : EV) (E : Hid (q = errE 1)) :
    Calls Try.prog 26 #[.agg #[.slice a n c], .agg #[.int .i64 i, .int .i64 u.1, .int .i64 u.2.1, .string u.2.2, .int .i64 v.1, .int .i64 v.2.1, .string v.2.2]] w fun e w' => e = .returned (.tuple #[.agg #[.int .i64 q.k, .int .i64 q.n, .string q.t], .int .i64 q.c]) ∧ Below w.heap.size w w' := by
  obtain ⟨w0, hw0⟩ : ∃ V, ((w.alloc (.cells #[.slice a n c] 38)).alloc (.cells #[.int .i64 i, .int .i64 u.1, .int .i64 u.2.1, .string u.2.2, .int .i64 v.1, .int .i64 v.2.1, .string v.2.2] 35)).alloc (.cells #[.int .i64 0, .int .i64 0, .string ⟨#[]⟩] 33) = V := ⟨_, rfl⟩
  have Bw0 : Hid (Below w.heap.size w w0) := by unfold Hid; rw [← hw0]; exact ((((Below.refl _ _).alloc (Nat.le_refl _) _).alloc (by simp) _).alloc (by simp; omega) _)
  have Ew0 : Hid (Box w0 w.heap.size 38 #[.slice a n c]) := by unfold Hid; rw [← hw0]; exact (((Box.new _ _ _).alloc _).alloc _)
  have Rw0 : Hid (Box w0 (w.heap.size + 1) 35 #[.int .i64 i, .int .i64 u.1, .int .i64 u.2.1, .string u.2.2, .int .i64 v.1, .int .i64 v.2.1, .string v.2.2]) := by unfold Hid; rw [← hw0]; exact ((Box.new2 _ _ _ _).alloc _)
  have Xw0 : Hid (Box w0 (w.heap.size + 2) 33 #[.int .i64 0, .int .i64 0, .string ⟨#[]⟩]) := by unfold Hid; rw [← hw0]; have := Box.new2 (w.alloc (.cells #[.slice a n c] 38)) (.cells #[.int .i64 i, .int .i64 u.1, .int .i64 u.2.1, .string u.2.2, .int .i64 v.1, .int .i64 v.2.1, .string v.2.2] 35) #[.int .i64 0, .int .i64 0, .string ⟨#[]⟩] 33; simpa using this
  have ec0 : w0.cell? ⟨w.heap.size, 0, none⟩ = some (.slice a n c) := Ew0.out.cell 0
  have el := Ew0.out.lt
  have rc0 : w0.cell? ⟨(w.heap.size + 1), 0, none⟩ = some (.int .i64 i) := Rw0.out.cell 0
  have rc1 : w0.cell? ⟨(w.heap.size + 1), 1, none⟩ = some (.int .i64 u.1) := Rw0.out.cell 1
  have rc2 : w0.cell? ⟨(w.heap.size + 1), 2, none⟩ = some (.int .i64 u.2.1) := Rw0.out.cell 2
  have rc3 : w0.cell? ⟨(w.heap.size + 1), 3, none⟩ = some (.string u.2.2) := Rw0.out.cell 3
  have rc4 : w0.cell? ⟨(w.heap.size + 1), 4, none⟩ = some (.int .i64 v.1) := Rw0.out.cell 4
  have rc5 : w0.cell? ⟨(w.heap.size + 1), 5, none⟩ = some (.int .i64 v.2.1) := Rw0.out.cell 5
  have rc6 : w0.cell? ⟨(w.heap.size + 1), 6, none⟩ = some (.string v.2.2) := Rw0.out.cell 6
  have rl := Rw0.out.lt
  have xc0 : w0.cell? ⟨(w.heap.size + 2), 0, none⟩ = some (.int .i64 0) := Xw0.out.cell 0
  have xc1 : w0.cell? ⟨(w.heap.size + 2), 1, none⟩ = some (.int .i64 0) := Xw0.out.cell 1
  have xc2 : w0.cell? ⟨(w.heap.size + 2), 2, none⟩ = some (.string ⟨#[]⟩) := Xw0.out.cell 2
  have xl := Xw0.out.lt
  have xt0 := Xw0.out.thaw 0
  have xt1 := Xw0.out.thaw 1
  have xt2 := Xw0.out.thaw 2
  go_enter Try.func26, Try.ntmps26
  go_wp2_with fail
  refine (CO.out w0 (Bw0.out)).mono ?_
  rintro e w1 ⟨rfl, hb⟩
  have Bw1 : Hid (Below w.heap.size w w1) := Bw0.out.trans (hb.mono Bw0.out.size)
  have Ew1 : Hid (Box w1 w.heap.size 38 #[.slice a n c]) := (Ew0.out).belowS hb
  have Rw1 : Hid (Box w1 (w.heap.size + 1) 35 #[.int .i64 i, .int .i64 u.1, .int .i64 u.2.1, .string u.2.2, .int .i64 v.1, .int .i64 v.2.1, .string v.2.2]) := (Rw0.out).belowS hb
  have Xw1 : Hid (Box w1 (w.heap.size + 2) 33 #[.int .i64 0, .int .i64 0, .string ⟨#[]⟩]) := (Xw0.out).belowS hb
  clear hb
  clear ec0 el rc0 rc1 rc2 rc3 rc4 rc5 rc6 rl xc0 xc1 xc2 xl xt0 xt1 xt2
  have ec0 : w1.cell? ⟨w.heap.size, 0, none⟩ = some (.slice a n c) := Ew1.out.cell 0
  have el := Ew1.out.lt
  have rc0 : w1.cell? ⟨(w.heap.size + 1), 0, none⟩ = some (.int .i64 i) := Rw1.out.cell 0
  have rc1 : w1.cell? ⟨(w.heap.size + 1), 1, none⟩ = some (.int .i64 u.1) := Rw1.out.cell 1
  have rc2 : w1.cell? ⟨(w.heap.size + 1), 2, none⟩ = some (.int .i64 u.2.1) := Rw1.out.cell 2
  have rc3 : w1.cell? ⟨(w.heap.size + 1), 3, none⟩ = some (.string u.2.2) := Rw1.out.cell 3
  have rc4 : w1.cell? ⟨(w.heap.size + 1), 4, none⟩ = some (.int .i64 v.1) := Rw1.out.cell 4
  have rc5 : w1.cell? ⟨(w.heap.size + 1), 5, none⟩ = some (.int .i64 v.2.1) := Rw1.out.cell 5
  have rc6 : w1.cell? ⟨(w.heap.size + 1), 6, none⟩ = some (.string v.2.2) := Rw1.out.cell 6
  have rl := Rw1.out.lt
  have xc0 : w1.cell? ⟨(w.heap.size + 2), 0, none⟩ = some (.int .i64 0) := Xw1.out.cell 0
  have xc1 : w1.cell? ⟨(w.heap.size + 2), 1, none⟩ = some (.int .i64 0) := Xw1.out.cell 1
  have xc2 : w1.cell? ⟨(w.heap.size + 2), 2, none⟩ = some (.string ⟨#[]⟩) := Xw1.out.cell 2
  have xl := Xw1.out.lt
  have xt0 := Xw1.out.thaw 0
  have xt1 := Xw1.out.thaw 1
  have xt2 := Xw1.out.thaw 2
  go_wp2_with fail
  refine (c_lRow i u v w1 h1 h2).mono ?_
  rintro e w2 ⟨rfl, hb⟩
  have Bw2 : Hid (Below w.heap.size w w2) := Bw1.out.trans (hb.mono Bw1.out.size)
  have Ew2 : Hid (Box w2 w.heap.size 38 #[.slice a n c]) := (Ew1.out).belowS hb
  have Rw2 : Hid (Box w2 (w.heap.size + 1) 35 #[.int .i64 i, .int .i64 u.1, .int .i64 u.2.1, .string u.2.2, .int .i64 v.1, .int .i64 v.2.1, .string v.2.2]) := (Rw1.out).belowS hb
  have Xw2 : Hid (Box w2 (w.heap.size + 2) 33 #[.int .i64 0, .int .i64 0, .string ⟨#[]⟩]) := (Xw1.out).belowS hb
  clear hb
  rw [rb]
  clear ec0 el rc0 rc1 rc2 rc3 rc4 rc5 rc6 rl xc0 xc1 xc2 xl xt0 xt1 xt2
  have ec0 : w2.cell? ⟨w.heap.size, 0, none⟩ = some (.slice a n c) := Ew2.out.cell 0
  have el := Ew2.out.lt
  have rc0 : w2.cell? ⟨(w.heap.size + 1), 0, none⟩ = some (.int .i64 i) := Rw2.out.cell 0
  have rc1 : w2.cell? ⟨(w.heap.size + 1), 1, none⟩ = some (.int .i64 u.1) := Rw2.out.cell 1
  have rc2 : w2.cell? ⟨(w.heap.size + 1), 2, none⟩ = some (.int .i64 u.2.1) := Rw2.out.cell 2
  have rc3 : w2.cell? ⟨(w.heap.size + 1), 3, none⟩ = some (.string u.2.2) := Rw2.out.cell 3
  have rc4 : w2.cell? ⟨(w.heap.size + 1), 4, none⟩ = some (.int .i64 v.1) := Rw2.out.cell 4
  have rc5 : w2.cell? ⟨(w.heap.size + 1), 5, none⟩ = some (.int .i64 v.2.1) := Rw2.out.cell 5
  have rc6 : w2.cell? ⟨(w.heap.size + 1), 6, none⟩ = some (.string v.2.2) := Rw2.out.cell 6
  have rl := Rw2.out.lt
  have xc0 : w2.cell? ⟨(w.heap.size + 2), 0, none⟩ = some (.int .i64 0) := Xw2.out.cell 0
  have xc1 : w2.cell? ⟨(w.heap.size + 2), 1, none⟩ = some (.int .i64 0) := Xw2.out.cell 1
  have xc2 : w2.cell? ⟨(w.heap.size + 2), 2, none⟩ = some (.string ⟨#[]⟩) := Xw2.out.cell 2
  have xl := Xw2.out.lt
  have xt0 := Xw2.out.thaw 0
  have xt1 := Xw2.out.thaw 1
  have xt2 := Xw2.out.thaw 2
  go_wp2
  refine ret32 Try.results26 rfl rfl rfl (put3_box Xw2.out _ _ _) ⟨?_, put3_below Bw2.out (by omega) _ _ _⟩
  rw [E.out]
  rfl
set_option maxRecDepth 100000 in
set_option maxHeartbeats 4000000 in
theorem c_sE_v (L : List EN) (a : Option Addr) (n c : Nat) (i : Int) (u v : VV) (w : World) (hr : RdE w a n L) (hn : n ≤ 1048576) (hs : ∀ x ∈ L, x.t.size ≤ maxLen) (h1 : u.2.2.size ≤ maxLen) (h2 : v.2.2.size ≤ maxLen) (CO : Hid (∀ W, Below w.heap.size w W → Calls Try.prog 37 #[.agg #[.slice a n c]] W fun e w' => e = .returned (.bool true) ∧ Below W.heap.size W w')) (rb : rowB i u v = true) (r : EV) (CV : Hid (∀ W, Below w.heap.size w W → Calls Try.prog 61 #[.agg #[.slice a n c], .int .i64 ((n : Int) - 1), .agg #[.int .i64 i, .int .i64 u.1, .int .i64 u.2.1, .string u.2.2, .int .i64 v.1, .int .i64 v.2.1, .string v.2.2]] W fun e w' => e = .returned (.tuple #[.agg #[.int .i64 r.k, .int .i64 r.n, .string r.t], .int .i64 r.c]) ∧ Below W.heap.size W w')) (q : EV) (E : Hid (q = r)) :
    Calls Try.prog 26 #[.agg #[.slice a n c], .agg #[.int .i64 i, .int .i64 u.1, .int .i64 u.2.1, .string u.2.2, .int .i64 v.1, .int .i64 v.2.1, .string v.2.2]] w fun e w' => e = .returned (.tuple #[.agg #[.int .i64 q.k, .int .i64 q.n, .string q.t], .int .i64 q.c]) ∧ Below w.heap.size w w' := by
  obtain ⟨w0, hw0⟩ : ∃ V, ((w.alloc (.cells #[.slice a n c] 38)).alloc (.cells #[.int .i64 i, .int .i64 u.1, .int .i64 u.2.1, .string u.2.2, .int .i64 v.1, .int .i64 v.2.1, .string v.2.2] 35)).alloc (.cells #[.int .i64 0, .int .i64 0, .string ⟨#[]⟩] 33) = V := ⟨_, rfl⟩
  have Bw0 : Hid (Below w.heap.size w w0) := by unfold Hid; rw [← hw0]; exact ((((Below.refl _ _).alloc (Nat.le_refl _) _).alloc (by simp) _).alloc (by simp; omega) _)
  have Ew0 : Hid (Box w0 w.heap.size 38 #[.slice a n c]) := by unfold Hid; rw [← hw0]; exact (((Box.new _ _ _).alloc _).alloc _)
  have Rw0 : Hid (Box w0 (w.heap.size + 1) 35 #[.int .i64 i, .int .i64 u.1, .int .i64 u.2.1, .string u.2.2, .int .i64 v.1, .int .i64 v.2.1, .string v.2.2]) := by unfold Hid; rw [← hw0]; exact ((Box.new2 _ _ _ _).alloc _)
  have Xw0 : Hid (Box w0 (w.heap.size + 2) 33 #[.int .i64 0, .int .i64 0, .string ⟨#[]⟩]) := by unfold Hid; rw [← hw0]; have := Box.new2 (w.alloc (.cells #[.slice a n c] 38)) (.cells #[.int .i64 i, .int .i64 u.1, .int .i64 u.2.1, .string u.2.2, .int .i64 v.1, .int .i64 v.2.1, .string v.2.2] 35) #[.int .i64 0, .int .i64 0, .string ⟨#[]⟩] 33; simpa using this
  have ec0 : w0.cell? ⟨w.heap.size, 0, none⟩ = some (.slice a n c) := Ew0.out.cell 0
  have el := Ew0.out.lt
  have rc0 : w0.cell? ⟨(w.heap.size + 1), 0, none⟩ = some (.int .i64 i) := Rw0.out.cell 0
  have rc1 : w0.cell? ⟨(w.heap.size + 1), 1, none⟩ = some (.int .i64 u.1) := Rw0.out.cell 1
  have rc2 : w0.cell? ⟨(w.heap.size + 1), 2, none⟩ = some (.int .i64 u.2.1) := Rw0.out.cell 2
  have rc3 : w0.cell? ⟨(w.heap.size + 1), 3, none⟩ = some (.string u.2.2) := Rw0.out.cell 3
  have rc4 : w0.cell? ⟨(w.heap.size + 1), 4, none⟩ = some (.int .i64 v.1) := Rw0.out.cell 4
  have rc5 : w0.cell? ⟨(w.heap.size + 1), 5, none⟩ = some (.int .i64 v.2.1) := Rw0.out.cell 5
  have rc6 : w0.cell? ⟨(w.heap.size + 1), 6, none⟩ = some (.string v.2.2) := Rw0.out.cell 6
  have rl := Rw0.out.lt
  have xc0 : w0.cell? ⟨(w.heap.size + 2), 0, none⟩ = some (.int .i64 0) := Xw0.out.cell 0
  have xc1 : w0.cell? ⟨(w.heap.size + 2), 1, none⟩ = some (.int .i64 0) := Xw0.out.cell 1
  have xc2 : w0.cell? ⟨(w.heap.size + 2), 2, none⟩ = some (.string ⟨#[]⟩) := Xw0.out.cell 2
  have xl := Xw0.out.lt
  have xt0 := Xw0.out.thaw 0
  have xt1 := Xw0.out.thaw 1
  have xt2 := Xw0.out.thaw 2
  go_enter Try.func26, Try.ntmps26
  go_wp2_with fail
  refine (CO.out w0 (Bw0.out)).mono ?_
  rintro e w1 ⟨rfl, hb⟩
  have Bw1 : Hid (Below w.heap.size w w1) := Bw0.out.trans (hb.mono Bw0.out.size)
  have Ew1 : Hid (Box w1 w.heap.size 38 #[.slice a n c]) := (Ew0.out).belowS hb
  have Rw1 : Hid (Box w1 (w.heap.size + 1) 35 #[.int .i64 i, .int .i64 u.1, .int .i64 u.2.1, .string u.2.2, .int .i64 v.1, .int .i64 v.2.1, .string v.2.2]) := (Rw0.out).belowS hb
  have Xw1 : Hid (Box w1 (w.heap.size + 2) 33 #[.int .i64 0, .int .i64 0, .string ⟨#[]⟩]) := (Xw0.out).belowS hb
  clear hb
  clear ec0 el rc0 rc1 rc2 rc3 rc4 rc5 rc6 rl xc0 xc1 xc2 xl xt0 xt1 xt2
  have ec0 : w1.cell? ⟨w.heap.size, 0, none⟩ = some (.slice a n c) := Ew1.out.cell 0
  have el := Ew1.out.lt
  have rc0 : w1.cell? ⟨(w.heap.size + 1), 0, none⟩ = some (.int .i64 i) := Rw1.out.cell 0
  have rc1 : w1.cell? ⟨(w.heap.size + 1), 1, none⟩ = some (.int .i64 u.1) := Rw1.out.cell 1
  have rc2 : w1.cell? ⟨(w.heap.size + 1), 2, none⟩ = some (.int .i64 u.2.1) := Rw1.out.cell 2
  have rc3 : w1.cell? ⟨(w.heap.size + 1), 3, none⟩ = some (.string u.2.2) := Rw1.out.cell 3
  have rc4 : w1.cell? ⟨(w.heap.size + 1), 4, none⟩ = some (.int .i64 v.1) := Rw1.out.cell 4
  have rc5 : w1.cell? ⟨(w.heap.size + 1), 5, none⟩ = some (.int .i64 v.2.1) := Rw1.out.cell 5
  have rc6 : w1.cell? ⟨(w.heap.size + 1), 6, none⟩ = some (.string v.2.2) := Rw1.out.cell 6
  have rl := Rw1.out.lt
  have xc0 : w1.cell? ⟨(w.heap.size + 2), 0, none⟩ = some (.int .i64 0) := Xw1.out.cell 0
  have xc1 : w1.cell? ⟨(w.heap.size + 2), 1, none⟩ = some (.int .i64 0) := Xw1.out.cell 1
  have xc2 : w1.cell? ⟨(w.heap.size + 2), 2, none⟩ = some (.string ⟨#[]⟩) := Xw1.out.cell 2
  have xl := Xw1.out.lt
  have xt0 := Xw1.out.thaw 0
  have xt1 := Xw1.out.thaw 1
  have xt2 := Xw1.out.thaw 2
  go_wp2_with fail
  refine (c_lRow i u v w1 h1 h2).mono ?_
  rintro e w2 ⟨rfl, hb⟩
  have Bw2 : Hid (Below w.heap.size w w2) := Bw1.out.trans (hb.mono Bw1.out.size)
  have Ew2 : Hid (Box w2 w.heap.size 38 #[.slice a n c]) := (Ew1.out).belowS hb
  have Rw2 : Hid (Box w2 (w.heap.size + 1) 35 #[.int .i64 i, .int .i64 u.1, .int .i64 u.2.1, .string u.2.2, .int .i64 v.1, .int .i64 v.2.1, .string v.2.2]) := (Rw1.out).belowS hb
  have Xw2 : Hid (Box w2 (w.heap.size + 2) 33 #[.int .i64 0, .int .i64 0, .string ⟨#[]⟩]) := (Xw1.out).belowS hb
  clear hb
  rw [rb]
  clear ec0 el rc0 rc1 rc2 rc3 rc4 rc5 rc6 rl xc0 xc1 xc2 xl xt0 xt1 xt2
  have ec0 : w2.cell? ⟨w.heap.size, 0, none⟩ = some (.slice a n c) := Ew2.out.cell 0
  have el := Ew2.out.lt
  have rc0 : w2.cell? ⟨(w.heap.size + 1), 0, none⟩ = some (.int .i64 i) := Rw2.out.cell 0
  have rc1 : w2.cell? ⟨(w.heap.size + 1), 1, none⟩ = some (.int .i64 u.1) := Rw2.out.cell 1
  have rc2 : w2.cell? ⟨(w.heap.size + 1), 2, none⟩ = some (.int .i64 u.2.1) := Rw2.out.cell 2
  have rc3 : w2.cell? ⟨(w.heap.size + 1), 3, none⟩ = some (.string u.2.2) := Rw2.out.cell 3
  have rc4 : w2.cell? ⟨(w.heap.size + 1), 4, none⟩ = some (.int .i64 v.1) := Rw2.out.cell 4
  have rc5 : w2.cell? ⟨(w.heap.size + 1), 5, none⟩ = some (.int .i64 v.2.1) := Rw2.out.cell 5
  have rc6 : w2.cell? ⟨(w.heap.size + 1), 6, none⟩ = some (.string v.2.2) := Rw2.out.cell 6
  have rl := Rw2.out.lt
  have xc0 : w2.cell? ⟨(w.heap.size + 2), 0, none⟩ = some (.int .i64 0) := Xw2.out.cell 0
  have xc1 : w2.cell? ⟨(w.heap.size + 2), 1, none⟩ = some (.int .i64 0) := Xw2.out.cell 1
  have xc2 : w2.cell? ⟨(w.heap.size + 2), 2, none⟩ = some (.string ⟨#[]⟩) := Xw2.out.cell 2
  have xl := Xw2.out.lt
  have xt0 := Xw2.out.thaw 0
  have xt1 := Xw2.out.thaw 1
  have xt2 := Xw2.out.thaw 2
  go_wp2_with fail
  refine (CV.out w2 (Bw2.out)).mono ?_
  rintro e w3 ⟨rfl, hb⟩
  have Bw3 : Hid (Below w.heap.size w w3) := Bw2.out.trans (hb.mono Bw2.out.size)
  have Ew3 : Hid (Box w3 w.heap.size 38 #[.slice a n c]) := (Ew2.out).belowS hb
  have Rw3 : Hid (Box w3 (w.heap.size + 1) 35 #[.int .i64 i, .int .i64 u.1, .int .i64 u.2.1, .string u.2.2, .int .i64 v.1, .int .i64 v.2.1, .string v.2.2]) := (Rw2.out).belowS hb
  have Xw3 : Hid (Box w3 (w.heap.size + 2) 33 #[.int .i64 0, .int .i64 0, .string ⟨#[]⟩]) := (Xw2.out).belowS hb
  clear hb
  clear ec0 el rc0 rc1 rc2 rc3 rc4 rc5 rc6 rl xc0 xc1 xc2 xl xt0 xt1 xt2
  have xc0 : w3.cell? ⟨(w.heap.size + 2), 0, none⟩ = some (.int .i64 0) := Xw3.out.cell 0
  have xc1 : w3.cell? ⟨(w.heap.size + 2), 1, none⟩ = some (.int .i64 0) := Xw3.out.cell 1
  have xc2 : w3.cell? ⟨(w.heap.size + 2), 2, none⟩ = some (.string ⟨#[]⟩) := Xw3.out.cell 2
  have xl := Xw3.out.lt
  have xt0 := Xw3.out.thaw 0
  have xt1 := Xw3.out.thaw 1
  have xt2 := Xw3.out.thaw 2
  go_wp2
  refine ret32 Try.results26 rfl rfl rfl (put3_box Xw3.out _ _ _) ⟨?_, put3_below Bw3.out (by omega) _ _ _⟩
  rw [E.out]
  rfl
theorem c_specEV (L : List EN) (a : Option Addr) (n c : Nat) (i : Int) (u v : VV) (w : World) (hr : RdE w a n L) (hn : n ≤ 1048576) (hs : ∀ x ∈ L, x.t.size ≤ maxLen) (h1 : u.2.2.size ≤ maxLen) (h2 : v.2.2.size ≤ maxLen) : Calls Try.prog 26 #[.agg #[.slice a n c], .agg #[.int .i64 i, .int .i64 u.1, .int .i64 u.2.1, .string u.2.2, .int .i64 v.1, .int .i64 v.2.1, .string v.2.2]] w fun e w' => e = .returned (.tuple #[.agg #[.int .i64 (evA L n i u v).k, .int .i64 (evA L n i u v).n, .string (evA L n i u v).t], .int .i64 (evA L n i u v).c]) ∧ Below w.heap.size w w' := by
  have CO : Hid (∀ W, Below w.heap.size w W → Calls Try.prog 37 #[.agg #[.slice a n c]] W fun e w' => e = .returned (.bool (topX L n).isSome) ∧ Below W.heap.size W w') := fun W hW => by rw [top_ok]; exact c_specX L a n c W (hr.below hW) hn hs
  cases e : topX L n with
  | none =>
    rw [e] at CO
    exact c_sE_n L a n c i u v w hr hn hs h1 h2 CO _ (by unfold Hid evA; rw [e])
  | some p =>
    rw [e] at CO
    cases rb : rowB i u v
    · exact c_sE_r L a n c i u v w hr hn hs h1 h2 CO rb _ (by unfold Hid evA; rw [e]; simp only [rb]; rfl)
    · obtain ⟨r0, r1, r2⟩ := row_parts rb
      have hp := top_some e
      have CV : Hid (∀ W, Below w.heap.size w W → Calls Try.prog 61 #[.agg #[.slice a n c], .int .i64 ((n : Int) - 1), .agg #[.int .i64 i, .int .i64 u.1, .int .i64 u.2.1, .string u.2.2, .int .i64 v.1, .int .i64 v.2.1, .string v.2.2]] W fun e w' => e = .returned (.tuple #[.agg #[.int .i64 (evE p i u v).k, .int .i64 (evE p i u v).n, .string (evE p i u v).t], .int .i64 (evE p i u v).c]) ∧ Below W.heap.size W w') := fun W hW => by
        have hn0 : 0 < n := by have := pF_lt L n n p 0 hp; omega
        obtain ⟨j, rfl⟩ : ∃ j, n = j + 1 := ⟨n - 1, by omega⟩
        rw [show ((j + 1 : Nat) : Int) - 1 = (j : Int) by omega]
        exact c_ev L a (j + 1) c i u v hn r0 r1 r2 (j + 1) j p 0 W hp (by omega) (hr.below hW)
      exact c_sE_v L a n c i u v w hr hn hs h1 h2 CO rb (evE p i u v) CV _ (by unfold Hid evA; rw [e]; simp only [rb]; rfl)

end Go.Proofs.Ytlapmidiakaimaa
