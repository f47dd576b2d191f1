/-
  What expressions mean: the program.
-/
import Derived.Test.YtcgcaomaofppiaaDoorEa
namespace Go.Proofs.YtcgcaomaofppiaaDoor
open Go Go.RowKit
set_option linter.unusedVariables false
set_option linter.unusedSimpArgs false

theorem ta_con_con (x : Value) (wx : World) : (Instr.typeAssert (.iface 115 x) 72 115 true).run Tryd.prog wx = .ok (.tuple #[x, .bool true]) wx := by kernel_rfl
theorem ta_col_con (x : Value) (wx : World) : (Instr.typeAssert (.iface 112 x) 72 115 true).run Tryd.prog wx = .ok (.tuple #[.agg #[.int .i64 0, .int .i64 0, .string ⟨#[]⟩], .bool false]) wx := by kernel_rfl
theorem ta_col_col (x : Value) (wx : World) : (Instr.typeAssert (.iface 112 x) 72 112 true).run Tryd.prog wx = .ok (.tuple #[x, .bool true]) wx := by kernel_rfl
theorem ta_una_con (x : Value) (wx : World) : (Instr.typeAssert (.iface 109 x) 72 115 true).run Tryd.prog wx = .ok (.tuple #[.agg #[.int .i64 0, .int .i64 0, .string ⟨#[]⟩], .bool false]) wx := by kernel_rfl
theorem ta_una_col (x : Value) (wx : World) : (Instr.typeAssert (.iface 109 x) 72 112 true).run Tryd.prog wx = .ok (.tuple #[.agg #[.int .i64 0], .bool false]) wx := by kernel_rfl
theorem ta_una_una (x : Value) (wx : World) : (Instr.typeAssert (.iface 109 x) 72 109 true).run Tryd.prog wx = .ok (.tuple #[x, .bool true]) wx := by kernel_rfl
theorem ta_bin_con (x : Value) (wx : World) : (Instr.typeAssert (.iface 105 x) 72 115 true).run Tryd.prog wx = .ok (.tuple #[.agg #[.int .i64 0, .int .i64 0, .string ⟨#[]⟩], .bool false]) wx := by kernel_rfl
theorem ta_bin_col (x : Value) (wx : World) : (Instr.typeAssert (.iface 105 x) 72 112 true).run Tryd.prog wx = .ok (.tuple #[.agg #[.int .i64 0], .bool false]) wx := by kernel_rfl
theorem ta_bin_una (x : Value) (wx : World) : (Instr.typeAssert (.iface 105 x) 72 109 true).run Tryd.prog wx = .ok (.tuple #[.agg #[.int .i64 0, .nilIface], .bool false]) wx := by kernel_rfl
theorem ta_bin_bin (x : Value) (wx : World) : (Instr.typeAssert (.iface 105 x) 72 105 true).run Tryd.prog wx = .ok (.tuple #[x, .bool true]) wx := by kernel_rfl
theorem encI (p : PT) : ∃ T v, p.enc = .iface T v := by cases p <;> exact ⟨_, _, rfl⟩
set_option maxRecDepth 100000 in
set_option maxHeartbeats 4000000 in
theorem c_pv_con (i : Int) (u v : VV) (w : World) (k n : Int) (t : ByteArray) (q : EV) (E : Hid (q = ⟨k, n, t, 0⟩)) :
    Calls Tryd.prog 35 #[.iface 115 (.agg #[.int .i64 k, .int .i64 n, .string t]), .agg #[.int .i64 i, .int .i64 u.1, .int .i64 u.2.1, .string u.2.2, .int .i64 v.1, .int .i64 v.2.1, .string v.2.2]] w fun e w' => e = .returned (.tuple #[.agg #[.int .i64 q.k, .int .i64 q.n, .string q.t], .int .i64 q.c]) ∧ Below w.heap.size w w' := by
  obtain ⟨w0, hw0⟩ : ∃ V, (w.alloc (.cells #[.int .i64 i, .int .i64 u.1, .int .i64 u.2.1, .string u.2.2, .int .i64 v.1, .int .i64 v.2.1, .string v.2.2] 35)).alloc (.cells #[.int .i64 0, .int .i64 0, .string ⟨#[]⟩] 29) = V := ⟨_, rfl⟩
  have Bw0 : Hid (Below w.heap.size w w0) := by unfold Hid; rw [← hw0]; exact (((Below.refl _ _).alloc (Nat.le_refl _) _).alloc (by simp) _)
  have Rw0 : Hid (Box w0 w.heap.size 35 #[.int .i64 i, .int .i64 u.1, .int .i64 u.2.1, .string u.2.2, .int .i64 v.1, .int .i64 v.2.1, .string v.2.2]) := by unfold Hid; rw [← hw0]; exact ((Box.new _ _ _).alloc _)
  have Xw0 : Hid (Box w0 (w.heap.size + 1) 29 #[.int .i64 0, .int .i64 0, .string ⟨#[]⟩]) := by unfold Hid; rw [← hw0]; exact (Box.new2 _ _ _ _)
  have rc0 : w0.cell? ⟨w.heap.size, 0, none⟩ = some (.int .i64 i) := Rw0.out.cell 0
  have rc1 : w0.cell? ⟨w.heap.size, 1, none⟩ = some (.int .i64 u.1) := Rw0.out.cell 1
  have rc2 : w0.cell? ⟨w.heap.size, 2, none⟩ = some (.int .i64 u.2.1) := Rw0.out.cell 2
  have rc3 : w0.cell? ⟨w.heap.size, 3, none⟩ = some (.string u.2.2) := Rw0.out.cell 3
  have rc4 : w0.cell? ⟨w.heap.size, 4, none⟩ = some (.int .i64 v.1) := Rw0.out.cell 4
  have rc5 : w0.cell? ⟨w.heap.size, 5, none⟩ = some (.int .i64 v.2.1) := Rw0.out.cell 5
  have rc6 : w0.cell? ⟨w.heap.size, 6, none⟩ = some (.string v.2.2) := Rw0.out.cell 6
  have rl := Rw0.out.lt
  have xc0 : w0.cell? ⟨(w.heap.size + 1), 0, none⟩ = some (.int .i64 0) := Xw0.out.cell 0
  have xc1 : w0.cell? ⟨(w.heap.size + 1), 1, none⟩ = some (.int .i64 0) := Xw0.out.cell 1
  have xc2 : w0.cell? ⟨(w.heap.size + 1), 2, none⟩ = some (.string ⟨#[]⟩) := Xw0.out.cell 2
  have xl := Xw0.out.lt
  have xt0 := Xw0.out.thaw 0
  have xt1 := Xw0.out.thaw 1
  have xt2 := Xw0.out.thaw 2
  have tacon : ∀ wx : World, (Instr.typeAssert (.iface 115 (.agg #[.int .i64 k, .int .i64 n, .string t])) 72 115 true).run Tryd.prog wx = .ok (.tuple #[.agg #[.int .i64 k, .int .i64 n, .string t], .bool true]) wx := fun wx => ta_con_con _ wx
  go_enter Tryd.func35, Tryd.ntmps35
  go_wp2
  have hbl9 : ∀ v0 v1 v2, Below w.heap.size w ((((w0).setCell ⟨(w.heap.size + 1), 0, none⟩ (v0)).setCell ⟨(w.heap.size + 1), 1, none⟩ (v1)).setCell ⟨(w.heap.size + 1), 2, none⟩ (v2)) := fun v0 v1 v2 => put3_below Bw0.out (by omega) v0 v1 v2
  refine ret32 Tryd.results35 rfl rfl rfl ((put3_box Xw0.out _ _ _).alloc _) ⟨?_, (hbl9 _ _ _).alloc (hbl9 _ _ _).size _⟩
  rw [E.out]
  rfl
set_option maxRecDepth 100000 in
set_option maxHeartbeats 4000000 in
theorem c_pv_col (i : Int) (u v : VV) (w : World) (c : Int) (h : inB c 0 2 = true) (q : EV) (E : Hid (q = ⟨(colE c i u v).k, (colE c i u v).n, (colE c i u v).t, 0⟩)) :
    Calls Tryd.prog 35 #[.iface 112 (.agg #[.int .i64 c]), .agg #[.int .i64 i, .int .i64 u.1, .int .i64 u.2.1, .string u.2.2, .int .i64 v.1, .int .i64 v.2.1, .string v.2.2]] w fun e w' => e = .returned (.tuple #[.agg #[.int .i64 q.k, .int .i64 q.n, .string q.t], .int .i64 q.c]) ∧ Below w.heap.size w w' := by
  obtain ⟨w0, hw0⟩ : ∃ V, (w.alloc (.cells #[.int .i64 i, .int .i64 u.1, .int .i64 u.2.1, .string u.2.2, .int .i64 v.1, .int .i64 v.2.1, .string v.2.2] 35)).alloc (.cells #[.int .i64 0, .int .i64 0, .string ⟨#[]⟩] 29) = V := ⟨_, rfl⟩
  have Bw0 : Hid (Below w.heap.size w w0) := by unfold Hid; rw [← hw0]; exact (((Below.refl _ _).alloc (Nat.le_refl _) _).alloc (by simp) _)
  have Rw0 : Hid (Box w0 w.heap.size 35 #[.int .i64 i, .int .i64 u.1, .int .i64 u.2.1, .string u.2.2, .int .i64 v.1, .int .i64 v.2.1, .string v.2.2]) := by unfold Hid; rw [← hw0]; exact ((Box.new _ _ _).alloc _)
  have Xw0 : Hid (Box w0 (w.heap.size + 1) 29 #[.int .i64 0, .int .i64 0, .string ⟨#[]⟩]) := by unfold Hid; rw [← hw0]; exact (Box.new2 _ _ _ _)
  have rc0 : w0.cell? ⟨w.heap.size, 0, none⟩ = some (.int .i64 i) := Rw0.out.cell 0
  have rc1 : w0.cell? ⟨w.heap.size, 1, none⟩ = some (.int .i64 u.1) := Rw0.out.cell 1
  have rc2 : w0.cell? ⟨w.heap.size, 2, none⟩ = some (.int .i64 u.2.1) := Rw0.out.cell 2
  have rc3 : w0.cell? ⟨w.heap.size, 3, none⟩ = some (.string u.2.2) := Rw0.out.cell 3
  have rc4 : w0.cell? ⟨w.heap.size, 4, none⟩ = some (.int .i64 v.1) := Rw0.out.cell 4
  have rc5 : w0.cell? ⟨w.heap.size, 5, none⟩ = some (.int .i64 v.2.1) := Rw0.out.cell 5
  have rc6 : w0.cell? ⟨w.heap.size, 6, none⟩ = some (.string v.2.2) := Rw0.out.cell 6
  have rl := Rw0.out.lt
  have xc0 : w0.cell? ⟨(w.heap.size + 1), 0, none⟩ = some (.int .i64 0) := Xw0.out.cell 0
  have xc1 : w0.cell? ⟨(w.heap.size + 1), 1, none⟩ = some (.int .i64 0) := Xw0.out.cell 1
  have xc2 : w0.cell? ⟨(w.heap.size + 1), 2, none⟩ = some (.string ⟨#[]⟩) := Xw0.out.cell 2
  have xl := Xw0.out.lt
  have xt0 := Xw0.out.thaw 0
  have xt1 := Xw0.out.thaw 1
  have xt2 := Xw0.out.thaw 2
  have tacon : ∀ wx : World, (Instr.typeAssert (.iface 112 (.agg #[.int .i64 c])) 72 115 true).run Tryd.prog wx = .ok (.tuple #[.agg #[.int .i64 0, .int .i64 0, .string ⟨#[]⟩], .bool false]) wx := fun wx => ta_col_con _ wx
  have tacol : ∀ wx : World, (Instr.typeAssert (.iface 112 (.agg #[.int .i64 c])) 72 112 true).run Tryd.prog wx = .ok (.tuple #[.agg #[.int .i64 c], .bool true]) wx := fun wx => ta_col_col _ wx
  go_enter Tryd.func35, Tryd.ntmps35
  go_wp2_with fail
  refine (c_colV c i u v (w0.alloc (.cells #[.int .i64 c] 112)) h).mono ?_
  rintro e w1 ⟨rfl, hb⟩
  have Bw1 : Hid (Below w.heap.size w w1) := (Bw0.out.alloc Bw0.out.size (.cells #[.int .i64 c] 112)).trans (hb.mono (Bw0.out.alloc Bw0.out.size (.cells #[.int .i64 c] 112)).size)
  have Rw1 : Hid (Box w1 w.heap.size 35 #[.int .i64 i, .int .i64 u.1, .int .i64 u.2.1, .string u.2.2, .int .i64 v.1, .int .i64 v.2.1, .string v.2.2]) := (Rw0.out.alloc _).belowS hb
  have Xw1 : Hid (Box w1 (w.heap.size + 1) 29 #[.int .i64 0, .int .i64 0, .string ⟨#[]⟩]) := (Xw0.out.alloc _).belowS hb
  have Uw1 : Hid (Box w1 w0.heap.size 112 #[.int .i64 c]) := (Box.new w0 #[.int .i64 c] 112).belowS hb
  clear hb
  clear rc0 rc1 rc2 rc3 rc4 rc5 rc6 rl xc0 xc1 xc2 xl xt0 xt1 xt2
  have xc0 : w1.cell? ⟨(w.heap.size + 1), 0, none⟩ = some (.int .i64 0) := Xw1.out.cell 0
  have xc1 : w1.cell? ⟨(w.heap.size + 1), 1, none⟩ = some (.int .i64 0) := Xw1.out.cell 1
  have xc2 : w1.cell? ⟨(w.heap.size + 1), 2, none⟩ = some (.string ⟨#[]⟩) := Xw1.out.cell 2
  have xl := Xw1.out.lt
  have xt0 := Xw1.out.thaw 0
  have xt1 := Xw1.out.thaw 1
  have xt2 := Xw1.out.thaw 2
  go_wp2
  refine ret32 Tryd.results35 rfl rfl rfl (put3_box Xw1.out _ _ _) ⟨?_, put3_below Bw1.out (by omega) _ _ _⟩
  rw [E.out]
  rfl
set_option maxRecDepth 100000 in
set_option maxHeartbeats 4000000 in
theorem c_pv_unaE (i : Int) (u v : VV) (w : World) (op : Int) (p : PT) (r : EV) (IH : Hid (∀ W, Calls Tryd.prog 35 #[p.enc, .agg #[.int .i64 i, .int .i64 u.1, .int .i64 u.2.1, .string u.2.2, .int .i64 v.1, .int .i64 v.2.1, .string v.2.2]] W fun e w' => e = .returned (.tuple #[.agg #[.int .i64 r.k, .int .i64 r.n, .string r.t], .int .i64 r.c]) ∧ Below W.heap.size W w')) (cf : (r.c != 0) = true) (vr : valB r.k r.n r.t = true) (q : EV) (E : Hid (q = errE r.c)) :
    Calls Tryd.prog 35 #[.iface 109 (.agg #[.int .i64 op, p.enc]), .agg #[.int .i64 i, .int .i64 u.1, .int .i64 u.2.1, .string u.2.2, .int .i64 v.1, .int .i64 v.2.1, .string v.2.2]] w fun e w' => e = .returned (.tuple #[.agg #[.int .i64 q.k, .int .i64 q.n, .string q.t], .int .i64 q.c]) ∧ Below w.heap.size w w' := by
  obtain ⟨T9, y9, hy9⟩ := encI p
  rw [hy9] at IH ⊢
  clear hy9
  obtain ⟨w0, hw0⟩ : ∃ V, (w.alloc (.cells #[.int .i64 i, .int .i64 u.1, .int .i64 u.2.1, .string u.2.2, .int .i64 v.1, .int .i64 v.2.1, .string v.2.2] 35)).alloc (.cells #[.int .i64 0, .int .i64 0, .string ⟨#[]⟩] 29) = V := ⟨_, rfl⟩
  have Bw0 : Hid (Below w.heap.size w w0) := by unfold Hid; rw [← hw0]; exact (((Below.refl _ _).alloc (Nat.le_refl _) _).alloc (by simp) _)
  have Rw0 : Hid (Box w0 w.heap.size 35 #[.int .i64 i, .int .i64 u.1, .int .i64 u.2.1, .string u.2.2, .int .i64 v.1, .int .i64 v.2.1, .string v.2.2]) := by unfold Hid; rw [← hw0]; exact ((Box.new _ _ _).alloc _)
  have Xw0 : Hid (Box w0 (w.heap.size + 1) 29 #[.int .i64 0, .int .i64 0, .string ⟨#[]⟩]) := by unfold Hid; rw [← hw0]; exact (Box.new2 _ _ _ _)
  have rc0 : w0.cell? ⟨w.heap.size, 0, none⟩ = some (.int .i64 i) := Rw0.out.cell 0
  have rc1 : w0.cell? ⟨w.heap.size, 1, none⟩ = some (.int .i64 u.1) := Rw0.out.cell 1
  have rc2 : w0.cell? ⟨w.heap.size, 2, none⟩ = some (.int .i64 u.2.1) := Rw0.out.cell 2
  have rc3 : w0.cell? ⟨w.heap.size, 3, none⟩ = some (.string u.2.2) := Rw0.out.cell 3
  have rc4 : w0.cell? ⟨w.heap.size, 4, none⟩ = some (.int .i64 v.1) := Rw0.out.cell 4
  have rc5 : w0.cell? ⟨w.heap.size, 5, none⟩ = some (.int .i64 v.2.1) := Rw0.out.cell 5
  have rc6 : w0.cell? ⟨w.heap.size, 6, none⟩ = some (.string v.2.2) := Rw0.out.cell 6
  have rl := Rw0.out.lt
  have xc0 : w0.cell? ⟨(w.heap.size + 1), 0, none⟩ = some (.int .i64 0) := Xw0.out.cell 0
  have xc1 : w0.cell? ⟨(w.heap.size + 1), 1, none⟩ = some (.int .i64 0) := Xw0.out.cell 1
  have xc2 : w0.cell? ⟨(w.heap.size + 1), 2, none⟩ = some (.string ⟨#[]⟩) := Xw0.out.cell 2
  have xl := Xw0.out.lt
  have xt0 := Xw0.out.thaw 0
  have xt1 := Xw0.out.thaw 1
  have xt2 := Xw0.out.thaw 2
  have tacon : ∀ wx : World, (Instr.typeAssert (.iface 109 (.agg #[.int .i64 op, .iface T9 y9])) 72 115 true).run Tryd.prog wx = .ok (.tuple #[.agg #[.int .i64 0, .int .i64 0, .string ⟨#[]⟩], .bool false]) wx := fun wx => ta_una_con _ wx
  have tacol : ∀ wx : World, (Instr.typeAssert (.iface 109 (.agg #[.int .i64 op, .iface T9 y9])) 72 112 true).run Tryd.prog wx = .ok (.tuple #[.agg #[.int .i64 0], .bool false]) wx := fun wx => ta_una_col _ wx
  have tauna : ∀ wx : World, (Instr.typeAssert (.iface 109 (.agg #[.int .i64 op, .iface T9 y9])) 72 109 true).run Tryd.prog wx = .ok (.tuple #[.agg #[.int .i64 op, .iface T9 y9], .bool true]) wx := fun wx => ta_una_una _ wx
  go_enter Tryd.func35, Tryd.ntmps35
  go_wp2_with fail
  refine (IH.out (w0.alloc (.cells #[.int .i64 op, .iface T9 y9] 109))).mono ?_
  rintro e w1 ⟨rfl, hb⟩
  have Bw1 : Hid (Below w.heap.size w w1) := (Bw0.out.alloc Bw0.out.size (.cells #[.int .i64 op, .iface T9 y9] 109)).trans (hb.mono (Bw0.out.alloc Bw0.out.size (.cells #[.int .i64 op, .iface T9 y9] 109)).size)
  have Rw1 : Hid (Box w1 w.heap.size 35 #[.int .i64 i, .int .i64 u.1, .int .i64 u.2.1, .string u.2.2, .int .i64 v.1, .int .i64 v.2.1, .string v.2.2]) := (Rw0.out.alloc _).belowS hb
  have Xw1 : Hid (Box w1 (w.heap.size + 1) 29 #[.int .i64 0, .int .i64 0, .string ⟨#[]⟩]) := (Xw0.out.alloc _).belowS hb
  have Uw1 : Hid (Box w1 w0.heap.size 109 #[.int .i64 op, .iface T9 y9]) := (Box.new w0 #[.int .i64 op, .iface T9 y9] 109).belowS hb
  clear hb
  clear rc0 rc1 rc2 rc3 rc4 rc5 rc6 rl xc0 xc1 xc2 xl xt0 xt1 xt2
  have rc0 : w1.cell? ⟨w.heap.size, 0, none⟩ = some (.int .i64 i) := Rw1.out.cell 0
  have rc1 : w1.cell? ⟨w.heap.size, 1, none⟩ = some (.int .i64 u.1) := Rw1.out.cell 1
  have rc2 : w1.cell? ⟨w.heap.size, 2, none⟩ = some (.int .i64 u.2.1) := Rw1.out.cell 2
  have rc3 : w1.cell? ⟨w.heap.size, 3, none⟩ = some (.string u.2.2) := Rw1.out.cell 3
  have rc4 : w1.cell? ⟨w.heap.size, 4, none⟩ = some (.int .i64 v.1) := Rw1.out.cell 4
  have rc5 : w1.cell? ⟨w.heap.size, 5, none⟩ = some (.int .i64 v.2.1) := Rw1.out.cell 5
  have rc6 : w1.cell? ⟨w.heap.size, 6, none⟩ = some (.string v.2.2) := Rw1.out.cell 6
  have rl := Rw1.out.lt
  have xc0 : w1.cell? ⟨(w.heap.size + 1), 0, none⟩ = some (.int .i64 0) := Xw1.out.cell 0
  have xc1 : w1.cell? ⟨(w.heap.size + 1), 1, none⟩ = some (.int .i64 0) := Xw1.out.cell 1
  have xc2 : w1.cell? ⟨(w.heap.size + 1), 2, none⟩ = some (.string ⟨#[]⟩) := Xw1.out.cell 2
  have xl := Xw1.out.lt
  have xt0 := Xw1.out.thaw 0
  have xt1 := Xw1.out.thaw 1
  have xt2 := Xw1.out.thaw 2
  have uc0 : w1.cell? ⟨w0.heap.size, 0, none⟩ = some (.int .i64 op) := Uw1.out.cell 0
  have uc1 : w1.cell? ⟨w0.heap.size, 1, none⟩ = some (.iface T9 y9) := Uw1.out.cell 1
  have ul := Uw1.out.lt
  go_wp2
  have hbl9 : ∀ v0 v1 v2, Below w.heap.size w ((((w1).setCell ⟨(w.heap.size + 1), 0, none⟩ (v0)).setCell ⟨(w.heap.size + 1), 1, none⟩ (v1)).setCell ⟨(w.heap.size + 1), 2, none⟩ (v2)) := fun v0 v1 v2 => put3_below Bw1.out (by omega) v0 v1 v2
  refine ret32 Tryd.results35 rfl rfl rfl ((put3_box Xw1.out _ _ _).alloc _) ⟨?_, (hbl9 _ _ _).alloc (hbl9 _ _ _).size _⟩
  rw [E.out]
  rfl
set_option maxRecDepth 100000 in
set_option maxHeartbeats 4000000 in
theorem c_pv_una (i : Int) (u v : VV) (w : World) (op : Int) (p : PT) (r : EV) (IH : Hid (∀ W, Calls Tryd.prog 35 #[p.enc, .agg #[.int .i64 i, .int .i64 u.1, .int .i64 u.2.1, .string u.2.2, .int .i64 v.1, .int .i64 v.2.1, .string v.2.2]] W fun e w' => e = .returned (.tuple #[.agg #[.int .i64 r.k, .int .i64 r.n, .string r.t], .int .i64 r.c]) ∧ Below W.heap.size W w')) (cf : (r.c != 0) = false) (vr : valB r.k r.n r.t = true) (q : EV) (E : Hid (q = unaE op r.k r.n)) :
    Calls Tryd.prog 35 #[.iface 109 (.agg #[.int .i64 op, p.enc]), .agg #[.int .i64 i, .int .i64 u.1, .int .i64 u.2.1, .string u.2.2, .int .i64 v.1, .int .i64 v.2.1, .string v.2.2]] w fun e w' => e = .returned (.tuple #[.agg #[.int .i64 q.k, .int .i64 q.n, .string q.t], .int .i64 q.c]) ∧ Below w.heap.size w w' := by
  obtain ⟨T9, y9, hy9⟩ := encI p
  rw [hy9] at IH ⊢
  clear hy9
  obtain ⟨w0, hw0⟩ : ∃ V, (w.alloc (.cells #[.int .i64 i, .int .i64 u.1, .int .i64 u.2.1, .string u.2.2, .int .i64 v.1, .int .i64 v.2.1, .string v.2.2] 35)).alloc (.cells #[.int .i64 0, .int .i64 0, .string ⟨#[]⟩] 29) = V := ⟨_, rfl⟩
  have Bw0 : Hid (Below w.heap.size w w0) := by unfold Hid; rw [← hw0]; exact (((Below.refl _ _).alloc (Nat.le_refl _) _).alloc (by simp) _)
  have Rw0 : Hid (Box w0 w.heap.size 35 #[.int .i64 i, .int .i64 u.1, .int .i64 u.2.1, .string u.2.2, .int .i64 v.1, .int .i64 v.2.1, .string v.2.2]) := by unfold Hid; rw [← hw0]; exact ((Box.new _ _ _).alloc _)
  have Xw0 : Hid (Box w0 (w.heap.size + 1) 29 #[.int .i64 0, .int .i64 0, .string ⟨#[]⟩]) := by unfold Hid; rw [← hw0]; exact (Box.new2 _ _ _ _)
  have rc0 : w0.cell? ⟨w.heap.size, 0, none⟩ = some (.int .i64 i) := Rw0.out.cell 0
  have rc1 : w0.cell? ⟨w.heap.size, 1, none⟩ = some (.int .i64 u.1) := Rw0.out.cell 1
  have rc2 : w0.cell? ⟨w.heap.size, 2, none⟩ = some (.int .i64 u.2.1) := Rw0.out.cell 2
  have rc3 : w0.cell? ⟨w.heap.size, 3, none⟩ = some (.string u.2.2) := Rw0.out.cell 3
  have rc4 : w0.cell? ⟨w.heap.size, 4, none⟩ = some (.int .i64 v.1) := Rw0.out.cell 4
  have rc5 : w0.cell? ⟨w.heap.size, 5, none⟩ = some (.int .i64 v.2.1) := Rw0.out.cell 5
  have rc6 : w0.cell? ⟨w.heap.size, 6, none⟩ = some (.string v.2.2) := Rw0.out.cell 6
  have rl := Rw0.out.lt
  have xc0 : w0.cell? ⟨(w.heap.size + 1), 0, none⟩ = some (.int .i64 0) := Xw0.out.cell 0
  have xc1 : w0.cell? ⟨(w.heap.size + 1), 1, none⟩ = some (.int .i64 0) := Xw0.out.cell 1
  have xc2 : w0.cell? ⟨(w.heap.size + 1), 2, none⟩ = some (.string ⟨#[]⟩) := Xw0.out.cell 2
  have xl := Xw0.out.lt
  have xt0 := Xw0.out.thaw 0
  have xt1 := Xw0.out.thaw 1
  have xt2 := Xw0.out.thaw 2
  have tacon : ∀ wx : World, (Instr.typeAssert (.iface 109 (.agg #[.int .i64 op, .iface T9 y9])) 72 115 true).run Tryd.prog wx = .ok (.tuple #[.agg #[.int .i64 0, .int .i64 0, .string ⟨#[]⟩], .bool false]) wx := fun wx => ta_una_con _ wx
  have tacol : ∀ wx : World, (Instr.typeAssert (.iface 109 (.agg #[.int .i64 op, .iface T9 y9])) 72 112 true).run Tryd.prog wx = .ok (.tuple #[.agg #[.int .i64 0], .bool false]) wx := fun wx => ta_una_col _ wx
  have tauna : ∀ wx : World, (Instr.typeAssert (.iface 109 (.agg #[.int .i64 op, .iface T9 y9])) 72 109 true).run Tryd.prog wx = .ok (.tuple #[.agg #[.int .i64 op, .iface T9 y9], .bool true]) wx := fun wx => ta_una_una _ wx
  go_enter Tryd.func35, Tryd.ntmps35
  go_wp2_with fail
  refine (IH.out (w0.alloc (.cells #[.int .i64 op, .iface T9 y9] 109))).mono ?_
  rintro e w1 ⟨rfl, hb⟩
  have Bw1 : Hid (Below w.heap.size w w1) := (Bw0.out.alloc Bw0.out.size (.cells #[.int .i64 op, .iface T9 y9] 109)).trans (hb.mono (Bw0.out.alloc Bw0.out.size (.cells #[.int .i64 op, .iface T9 y9] 109)).size)
  have Rw1 : Hid (Box w1 w.heap.size 35 #[.int .i64 i, .int .i64 u.1, .int .i64 u.2.1, .string u.2.2, .int .i64 v.1, .int .i64 v.2.1, .string v.2.2]) := (Rw0.out.alloc _).belowS hb
  have Xw1 : Hid (Box w1 (w.heap.size + 1) 29 #[.int .i64 0, .int .i64 0, .string ⟨#[]⟩]) := (Xw0.out.alloc _).belowS hb
  have Uw1 : Hid (Box w1 w0.heap.size 109 #[.int .i64 op, .iface T9 y9]) := (Box.new w0 #[.int .i64 op, .iface T9 y9] 109).belowS hb
  clear hb
  clear rc0 rc1 rc2 rc3 rc4 rc5 rc6 rl xc0 xc1 xc2 xl xt0 xt1 xt2
  have rc0 : w1.cell? ⟨w.heap.size, 0, none⟩ = some (.int .i64 i) := Rw1.out.cell 0
  have rc1 : w1.cell? ⟨w.heap.size, 1, none⟩ = some (.int .i64 u.1) := Rw1.out.cell 1
  have rc2 : w1.cell? ⟨w.heap.size, 2, none⟩ = some (.int .i64 u.2.1) := Rw1.out.cell 2
  have rc3 : w1.cell? ⟨w.heap.size, 3, none⟩ = some (.string u.2.2) := Rw1.out.cell 3
  have rc4 : w1.cell? ⟨w.heap.size, 4, none⟩ = some (.int .i64 v.1) := Rw1.out.cell 4
  have rc5 : w1.cell? ⟨w.heap.size, 5, none⟩ = some (.int .i64 v.2.1) := Rw1.out.cell 5
  have rc6 : w1.cell? ⟨w.heap.size, 6, none⟩ = some (.string v.2.2) := Rw1.out.cell 6
  have rl := Rw1.out.lt
  have xc0 : w1.cell? ⟨(w.heap.size + 1), 0, none⟩ = some (.int .i64 0) := Xw1.out.cell 0
  have xc1 : w1.cell? ⟨(w.heap.size + 1), 1, none⟩ = some (.int .i64 0) := Xw1.out.cell 1
  have xc2 : w1.cell? ⟨(w.heap.size + 1), 2, none⟩ = some (.string ⟨#[]⟩) := Xw1.out.cell 2
  have xl := Xw1.out.lt
  have xt0 := Xw1.out.thaw 0
  have xt1 := Xw1.out.thaw 1
  have xt2 := Xw1.out.thaw 2
  have uc0 : w1.cell? ⟨w0.heap.size, 0, none⟩ = some (.int .i64 op) := Uw1.out.cell 0
  have uc1 : w1.cell? ⟨w0.heap.size, 1, none⟩ = some (.iface T9 y9) := Uw1.out.cell 1
  have ul := Uw1.out.lt
  go_wp2_with fail
  refine (c_uI op r.k r.n r.t (w1.alloc (.cells #[.int .i64 r.k, .int .i64 r.n, .string r.t] 29)) vr).mono ?_
  rintro e w2 ⟨rfl, hb⟩
  have Bw2 : Hid (Below w.heap.size w w2) := (Bw1.out.alloc Bw1.out.size (.cells #[.int .i64 r.k, .int .i64 r.n, .string r.t] 29)).trans (hb.mono (Bw1.out.alloc Bw1.out.size (.cells #[.int .i64 r.k, .int .i64 r.n, .string r.t] 29)).size)
  have Rw2 : Hid (Box w2 w.heap.size 35 #[.int .i64 i, .int .i64 u.1, .int .i64 u.2.1, .string u.2.2, .int .i64 v.1, .int .i64 v.2.1, .string v.2.2]) := (Rw1.out.alloc _).belowS hb
  have Xw2 : Hid (Box w2 (w.heap.size + 1) 29 #[.int .i64 0, .int .i64 0, .string ⟨#[]⟩]) := (Xw1.out.alloc _).belowS hb
  have Uw2 : Hid (Box w2 w0.heap.size 109 #[.int .i64 op, .iface T9 y9]) := (Uw1.out.alloc _).belowS hb
  have Yw2 : Hid (Box w2 w1.heap.size 29 #[.int .i64 r.k, .int .i64 r.n, .string r.t]) := (Box.new w1 #[.int .i64 r.k, .int .i64 r.n, .string r.t] 29).belowS hb
  clear hb
  clear rc0 rc1 rc2 rc3 rc4 rc5 rc6 rl xc0 xc1 xc2 xl xt0 xt1 xt2 uc0 uc1 ul
  have xc0 : w2.cell? ⟨(w.heap.size + 1), 0, none⟩ = some (.int .i64 0) := Xw2.out.cell 0
  have xc1 : w2.cell? ⟨(w.heap.size + 1), 1, none⟩ = some (.int .i64 0) := Xw2.out.cell 1
  have xc2 : w2.cell? ⟨(w.heap.size + 1), 2, none⟩ = some (.string ⟨#[]⟩) := Xw2.out.cell 2
  have xl := Xw2.out.lt
  have xt0 := Xw2.out.thaw 0
  have xt1 := Xw2.out.thaw 1
  have xt2 := Xw2.out.thaw 2
  go_wp2
  refine ret32 Tryd.results35 rfl rfl rfl (put3_box Xw2.out _ _ _) ⟨?_, put3_below Bw2.out (by omega) _ _ _⟩
  rw [E.out]
  rfl
set_option maxRecDepth 100000 in
set_option maxHeartbeats 4000000 in
theorem c_pv_bin (i : Int) (u v : VV) (w : World) (op : Int) (l r : PT) (q : EV) (CJ : Hid (∀ W, Calls Tryd.prog 64 #[.agg #[.int .i64 op, l.enc, r.enc], .agg #[.int .i64 i, .int .i64 u.1, .int .i64 u.2.1, .string u.2.2, .int .i64 v.1, .int .i64 v.2.1, .string v.2.2]] W fun e w' => e = .returned (.tuple #[.agg #[.int .i64 q.k, .int .i64 q.n, .string q.t], .int .i64 q.c]) ∧ Below W.heap.size W w')) :
    Calls Tryd.prog 35 #[.iface 105 (.agg #[.int .i64 op, l.enc, r.enc]), .agg #[.int .i64 i, .int .i64 u.1, .int .i64 u.2.1, .string u.2.2, .int .i64 v.1, .int .i64 v.2.1, .string v.2.2]] w fun e w' => e = .returned (.tuple #[.agg #[.int .i64 q.k, .int .i64 q.n, .string q.t], .int .i64 q.c]) ∧ Below w.heap.size w w' := by
  obtain ⟨T8, y8, hy8⟩ := encI l
  obtain ⟨T9, y9, hy9⟩ := encI r
  rw [hy8, hy9] at CJ ⊢
  clear hy8 hy9
  obtain ⟨w0, hw0⟩ : ∃ V, (w.alloc (.cells #[.int .i64 i, .int .i64 u.1, .int .i64 u.2.1, .string u.2.2, .int .i64 v.1, .int .i64 v.2.1, .string v.2.2] 35)).alloc (.cells #[.int .i64 0, .int .i64 0, .string ⟨#[]⟩] 29) = V := ⟨_, rfl⟩
  have Bw0 : Hid (Below w.heap.size w w0) := by unfold Hid; rw [← hw0]; exact (((Below.refl _ _).alloc (Nat.le_refl _) _).alloc (by simp) _)
  have Rw0 : Hid (Box w0 w.heap.size 35 #[.int .i64 i, .int .i64 u.1, .int .i64 u.2.1, .string u.2.2, .int .i64 v.1, .int .i64 v.2.1, .string v.2.2]) := by unfold Hid; rw [← hw0]; exact ((Box.new _ _ _).alloc _)
  have Xw0 : Hid (Box w0 (w.heap.size + 1) 29 #[.int .i64 0, .int .i64 0, .string ⟨#[]⟩]) := by unfold Hid; rw [← hw0]; exact (Box.new2 _ _ _ _)
  have rc0 : w0.cell? ⟨w.heap.size, 0, none⟩ = some (.int .i64 i) := Rw0.out.cell 0
  have rc1 : w0.cell? ⟨w.heap.size, 1, none⟩ = some (.int .i64 u.1) := Rw0.out.cell 1
  have rc2 : w0.cell? ⟨w.heap.size, 2, none⟩ = some (.int .i64 u.2.1) := Rw0.out.cell 2
  have rc3 : w0.cell? ⟨w.heap.size, 3, none⟩ = some (.string u.2.2) := Rw0.out.cell 3
  have rc4 : w0.cell? ⟨w.heap.size, 4, none⟩ = some (.int .i64 v.1) := Rw0.out.cell 4
  have rc5 : w0.cell? ⟨w.heap.size, 5, none⟩ = some (.int .i64 v.2.1) := Rw0.out.cell 5
  have rc6 : w0.cell? ⟨w.heap.size, 6, none⟩ = some (.string v.2.2) := Rw0.out.cell 6
  have rl := Rw0.out.lt
  have xc0 : w0.cell? ⟨(w.heap.size + 1), 0, none⟩ = some (.int .i64 0) := Xw0.out.cell 0
  have xc1 : w0.cell? ⟨(w.heap.size + 1), 1, none⟩ = some (.int .i64 0) := Xw0.out.cell 1
  have xc2 : w0.cell? ⟨(w.heap.size + 1), 2, none⟩ = some (.string ⟨#[]⟩) := Xw0.out.cell 2
  have xl := Xw0.out.lt
  have xt0 := Xw0.out.thaw 0
  have xt1 := Xw0.out.thaw 1
  have xt2 := Xw0.out.thaw 2
  have tacon : ∀ wx : World, (Instr.typeAssert (.iface 105 (.agg #[.int .i64 op, .iface T8 y8, .iface T9 y9])) 72 115 true).run Tryd.prog wx = .ok (.tuple #[.agg #[.int .i64 0, .int .i64 0, .string ⟨#[]⟩], .bool false]) wx := fun wx => ta_bin_con _ wx
  have tacol : ∀ wx : World, (Instr.typeAssert (.iface 105 (.agg #[.int .i64 op, .iface T8 y8, .iface T9 y9])) 72 112 true).run Tryd.prog wx = .ok (.tuple #[.agg #[.int .i64 0], .bool false]) wx := fun wx => ta_bin_col _ wx
  have tauna : ∀ wx : World, (Instr.typeAssert (.iface 105 (.agg #[.int .i64 op, .iface T8 y8, .iface T9 y9])) 72 109 true).run Tryd.prog wx = .ok (.tuple #[.agg #[.int .i64 0, .nilIface], .bool false]) wx := fun wx => ta_bin_una _ wx
  have tabin : ∀ wx : World, (Instr.typeAssert (.iface 105 (.agg #[.int .i64 op, .iface T8 y8, .iface T9 y9])) 72 105 true).run Tryd.prog wx = .ok (.tuple #[.agg #[.int .i64 op, .iface T8 y8, .iface T9 y9], .bool true]) wx := fun wx => ta_bin_bin _ wx
  go_enter Tryd.func35, Tryd.ntmps35
  go_wp2_with fail
  refine (CJ.out (w0.alloc (.cells #[.int .i64 op, .iface T8 y8, .iface T9 y9] 105))).mono ?_
  rintro e w1 ⟨rfl, hb⟩
  have Bw1 : Hid (Below w.heap.size w w1) := (Bw0.out.alloc Bw0.out.size (.cells #[.int .i64 op, .iface T8 y8, .iface T9 y9] 105)).trans (hb.mono (Bw0.out.alloc Bw0.out.size (.cells #[.int .i64 op, .iface T8 y8, .iface T9 y9] 105)).size)
  have Rw1 : Hid (Box w1 w.heap.size 35 #[.int .i64 i, .int .i64 u.1, .int .i64 u.2.1, .string u.2.2, .int .i64 v.1, .int .i64 v.2.1, .string v.2.2]) := (Rw0.out.alloc _).belowS hb
  have Xw1 : Hid (Box w1 (w.heap.size + 1) 29 #[.int .i64 0, .int .i64 0, .string ⟨#[]⟩]) := (Xw0.out.alloc _).belowS hb
  have Uw1 : Hid (Box w1 w0.heap.size 105 #[.int .i64 op, .iface T8 y8, .iface T9 y9]) := (Box.new w0 #[.int .i64 op, .iface T8 y8, .iface T9 y9] 105).belowS hb
  clear hb
  clear rc0 rc1 rc2 rc3 rc4 rc5 rc6 rl xc0 xc1 xc2 xl xt0 xt1 xt2
  have xc0 : w1.cell? ⟨(w.heap.size + 1), 0, none⟩ = some (.int .i64 0) := Xw1.out.cell 0
  have xc1 : w1.cell? ⟨(w.heap.size + 1), 1, none⟩ = some (.int .i64 0) := Xw1.out.cell 1
  have xc2 : w1.cell? ⟨(w.heap.size + 1), 2, none⟩ = some (.string ⟨#[]⟩) := Xw1.out.cell 2
  have xl := Xw1.out.lt
  have xt0 := Xw1.out.thaw 0
  have xt1 := Xw1.out.thaw 1
  have xt2 := Xw1.out.thaw 2
  go_wp2
  refine ret32 Tryd.results35 rfl rfl rfl (put3_box Xw1.out _ _ _) ⟨?_, put3_below Bw1.out (by omega) _ _ _⟩
  rfl
set_option maxRecDepth 100000 in
set_option maxHeartbeats 4000000 in
theorem c_jv_a (i : Int) (u v : VV) (w : World) (op : Int) (l r : PT) (a : EV) (IL : Hid (∀ W, Calls Tryd.prog 35 #[l.enc, .agg #[.int .i64 i, .int .i64 u.1, .int .i64 u.2.1, .string u.2.2, .int .i64 v.1, .int .i64 v.2.1, .string v.2.2]] W fun e w' => e = .returned (.tuple #[.agg #[.int .i64 a.k, .int .i64 a.n, .string a.t], .int .i64 a.c]) ∧ Below W.heap.size W w')) (ca : (a.c != 0) = true) (q : EV) (E : Hid (q = errE a.c)) :
    Calls Tryd.prog 64 #[.agg #[.int .i64 op, l.enc, r.enc], .agg #[.int .i64 i, .int .i64 u.1, .int .i64 u.2.1, .string u.2.2, .int .i64 v.1, .int .i64 v.2.1, .string v.2.2]] w fun e w' => e = .returned (.tuple #[.agg #[.int .i64 q.k, .int .i64 q.n, .string q.t], .int .i64 q.c]) ∧ Below w.heap.size w w' := by
  obtain ⟨w0, hw0⟩ : ∃ V, ((w.alloc (.cells #[.int .i64 op, l.enc, r.enc] 105)).alloc (.cells #[.int .i64 i, .int .i64 u.1, .int .i64 u.2.1, .string u.2.2, .int .i64 v.1, .int .i64 v.2.1, .string v.2.2] 35)).alloc (.cells #[.int .i64 0, .int .i64 0, .string ⟨#[]⟩] 29) = V := ⟨_, rfl⟩
  have Bw0 : Hid (Below w.heap.size w w0) := by unfold Hid; rw [← hw0]; exact ((((Below.refl _ _).alloc (Nat.le_refl _) _).alloc (by simp) _).alloc (by simp; omega) _)
  have Pw0 : Hid (Box w0 w.heap.size 105 #[.int .i64 op, l.enc, r.enc]) := by unfold Hid; rw [← hw0]; exact (((Box.new _ _ _).alloc _).alloc _)
  have Rw0 : Hid (Box w0 (w.heap.size + 1) 35 #[.int .i64 i, .int .i64 u.1, .int .i64 u.2.1, .string u.2.2, .int .i64 v.1, .int .i64 v.2.1, .string v.2.2]) := by unfold Hid; rw [← hw0]; exact ((Box.new2 _ _ _ _).alloc _)
  have Xw0 : Hid (Box w0 (w.heap.size + 2) 29 #[.int .i64 0, .int .i64 0, .string ⟨#[]⟩]) := by unfold Hid; rw [← hw0]; have := Box.new2 (w.alloc (.cells #[.int .i64 op, l.enc, r.enc] 105)) (.cells #[.int .i64 i, .int .i64 u.1, .int .i64 u.2.1, .string u.2.2, .int .i64 v.1, .int .i64 v.2.1, .string v.2.2] 35) #[.int .i64 0, .int .i64 0, .string ⟨#[]⟩] 29; simpa using this
  have pc0 : w0.cell? ⟨w.heap.size, 0, none⟩ = some (.int .i64 op) := Pw0.out.cell 0
  have pc1 : w0.cell? ⟨w.heap.size, 1, none⟩ = some (l.enc) := Pw0.out.cell 1
  have pc2 : w0.cell? ⟨w.heap.size, 2, none⟩ = some (r.enc) := Pw0.out.cell 2
  have pl := Pw0.out.lt
  have rc0 : w0.cell? ⟨(w.heap.size + 1), 0, none⟩ = some (.int .i64 i) := Rw0.out.cell 0
  have rc1 : w0.cell? ⟨(w.heap.size + 1), 1, none⟩ = some (.int .i64 u.1) := Rw0.out.cell 1
  have rc2 : w0.cell? ⟨(w.heap.size + 1), 2, none⟩ = some (.int .i64 u.2.1) := Rw0.out.cell 2
  have rc3 : w0.cell? ⟨(w.heap.size + 1), 3, none⟩ = some (.string u.2.2) := Rw0.out.cell 3
  have rc4 : w0.cell? ⟨(w.heap.size + 1), 4, none⟩ = some (.int .i64 v.1) := Rw0.out.cell 4
  have rc5 : w0.cell? ⟨(w.heap.size + 1), 5, none⟩ = some (.int .i64 v.2.1) := Rw0.out.cell 5
  have rc6 : w0.cell? ⟨(w.heap.size + 1), 6, none⟩ = some (.string v.2.2) := Rw0.out.cell 6
  have rl := Rw0.out.lt
  have xc0 : w0.cell? ⟨(w.heap.size + 2), 0, none⟩ = some (.int .i64 0) := Xw0.out.cell 0
  have xc1 : w0.cell? ⟨(w.heap.size + 2), 1, none⟩ = some (.int .i64 0) := Xw0.out.cell 1
  have xc2 : w0.cell? ⟨(w.heap.size + 2), 2, none⟩ = some (.string ⟨#[]⟩) := Xw0.out.cell 2
  have xl := Xw0.out.lt
  have xt0 := Xw0.out.thaw 0
  have xt1 := Xw0.out.thaw 1
  have xt2 := Xw0.out.thaw 2
  go_enter Tryd.func64, Tryd.ntmps64
  go_wp2_with fail
  refine (IL.out w0).mono ?_
  rintro e w1 ⟨rfl, hb⟩
  have Bw1 : Hid (Below w.heap.size w w1) := Bw0.out.trans (hb.mono Bw0.out.size)
  have Pw1 : Hid (Box w1 w.heap.size 105 #[.int .i64 op, l.enc, r.enc]) := (Pw0.out).belowS hb
  have Rw1 : Hid (Box w1 (w.heap.size + 1) 35 #[.int .i64 i, .int .i64 u.1, .int .i64 u.2.1, .string u.2.2, .int .i64 v.1, .int .i64 v.2.1, .string v.2.2]) := (Rw0.out).belowS hb
  have Xw1 : Hid (Box w1 (w.heap.size + 2) 29 #[.int .i64 0, .int .i64 0, .string ⟨#[]⟩]) := (Xw0.out).belowS hb
  clear hb
  clear pc0 pc1 pc2 pl rc0 rc1 rc2 rc3 rc4 rc5 rc6 rl xc0 xc1 xc2 xl xt0 xt1 xt2
  have pc0 : w1.cell? ⟨w.heap.size, 0, none⟩ = some (.int .i64 op) := Pw1.out.cell 0
  have pc1 : w1.cell? ⟨w.heap.size, 1, none⟩ = some (l.enc) := Pw1.out.cell 1
  have pc2 : w1.cell? ⟨w.heap.size, 2, none⟩ = some (r.enc) := Pw1.out.cell 2
  have pl := Pw1.out.lt
  have rc0 : w1.cell? ⟨(w.heap.size + 1), 0, none⟩ = some (.int .i64 i) := Rw1.out.cell 0
  have rc1 : w1.cell? ⟨(w.heap.size + 1), 1, none⟩ = some (.int .i64 u.1) := Rw1.out.cell 1
  have rc2 : w1.cell? ⟨(w.heap.size + 1), 2, none⟩ = some (.int .i64 u.2.1) := Rw1.out.cell 2
  have rc3 : w1.cell? ⟨(w.heap.size + 1), 3, none⟩ = some (.string u.2.2) := Rw1.out.cell 3
  have rc4 : w1.cell? ⟨(w.heap.size + 1), 4, none⟩ = some (.int .i64 v.1) := Rw1.out.cell 4
  have rc5 : w1.cell? ⟨(w.heap.size + 1), 5, none⟩ = some (.int .i64 v.2.1) := Rw1.out.cell 5
  have rc6 : w1.cell? ⟨(w.heap.size + 1), 6, none⟩ = some (.string v.2.2) := Rw1.out.cell 6
  have rl := Rw1.out.lt
  have xc0 : w1.cell? ⟨(w.heap.size + 2), 0, none⟩ = some (.int .i64 0) := Xw1.out.cell 0
  have xc1 : w1.cell? ⟨(w.heap.size + 2), 1, none⟩ = some (.int .i64 0) := Xw1.out.cell 1
  have xc2 : w1.cell? ⟨(w.heap.size + 2), 2, none⟩ = some (.string ⟨#[]⟩) := Xw1.out.cell 2
  have xl := Xw1.out.lt
  have xt0 := Xw1.out.thaw 0
  have xt1 := Xw1.out.thaw 1
  have xt2 := Xw1.out.thaw 2
  go_wp2
  have hbl9 : ∀ v0 v1 v2, Below w.heap.size w ((((w1).setCell ⟨(w.heap.size + 2), 0, none⟩ (v0)).setCell ⟨(w.heap.size + 2), 1, none⟩ (v1)).setCell ⟨(w.heap.size + 2), 2, none⟩ (v2)) := fun v0 v1 v2 => put3_below Bw1.out (by omega) v0 v1 v2
  refine ret32 Tryd.results64 rfl rfl rfl ((put3_box Xw1.out _ _ _).alloc _) ⟨?_, (hbl9 _ _ _).alloc (hbl9 _ _ _).size _⟩
  rw [E.out]
  rfl
set_option maxRecDepth 100000 in
set_option maxHeartbeats 4000000 in
theorem c_jv_d (i : Int) (u v : VV) (w : World) (op : Int) (l r : PT) (a : EV) (IL : Hid (∀ W, Calls Tryd.prog 35 #[l.enc, .agg #[.int .i64 i, .int .i64 u.1, .int .i64 u.2.1, .string u.2.2, .int .i64 v.1, .int .i64 v.2.1, .string v.2.2]] W fun e w' => e = .returned (.tuple #[.agg #[.int .i64 a.k, .int .i64 a.n, .string a.t], .int .i64 a.c]) ∧ Below W.heap.size W w')) (ca : (a.c != 0) = false) (dd : decB op a.k a.n = true) (q : EV) (E : Hid (q = numE (trI (op == 13)))) :
    Calls Tryd.prog 64 #[.agg #[.int .i64 op, l.enc, r.enc], .agg #[.int .i64 i, .int .i64 u.1, .int .i64 u.2.1, .string u.2.2, .int .i64 v.1, .int .i64 v.2.1, .string v.2.2]] w fun e w' => e = .returned (.tuple #[.agg #[.int .i64 q.k, .int .i64 q.n, .string q.t], .int .i64 q.c]) ∧ Below w.heap.size w w' := by
  obtain ⟨w0, hw0⟩ : ∃ V, ((w.alloc (.cells #[.int .i64 op, l.enc, r.enc] 105)).alloc (.cells #[.int .i64 i, .int .i64 u.1, .int .i64 u.2.1, .string u.2.2, .int .i64 v.1, .int .i64 v.2.1, .string v.2.2] 35)).alloc (.cells #[.int .i64 0, .int .i64 0, .string ⟨#[]⟩] 29) = V := ⟨_, rfl⟩
  have Bw0 : Hid (Below w.heap.size w w0) := by unfold Hid; rw [← hw0]; exact ((((Below.refl _ _).alloc (Nat.le_refl _) _).alloc (by simp) _).alloc (by simp; omega) _)
  have Pw0 : Hid (Box w0 w.heap.size 105 #[.int .i64 op, l.enc, r.enc]) := by unfold Hid; rw [← hw0]; exact (((Box.new _ _ _).alloc _).alloc _)
  have Rw0 : Hid (Box w0 (w.heap.size + 1) 35 #[.int .i64 i, .int .i64 u.1, .int .i64 u.2.1, .string u.2.2, .int .i64 v.1, .int .i64 v.2.1, .string v.2.2]) := by unfold Hid; rw [← hw0]; exact ((Box.new2 _ _ _ _).alloc _)
  have Xw0 : Hid (Box w0 (w.heap.size + 2) 29 #[.int .i64 0, .int .i64 0, .string ⟨#[]⟩]) := by unfold Hid; rw [← hw0]; have := Box.new2 (w.alloc (.cells #[.int .i64 op, l.enc, r.enc] 105)) (.cells #[.int .i64 i, .int .i64 u.1, .int .i64 u.2.1, .string u.2.2, .int .i64 v.1, .int .i64 v.2.1, .string v.2.2] 35) #[.int .i64 0, .int .i64 0, .string ⟨#[]⟩] 29; simpa using this
  have pc0 : w0.cell? ⟨w.heap.size, 0, none⟩ = some (.int .i64 op) := Pw0.out.cell 0
  have pc1 : w0.cell? ⟨w.heap.size, 1, none⟩ = some (l.enc) := Pw0.out.cell 1
  have pc2 : w0.cell? ⟨w.heap.size, 2, none⟩ = some (r.enc) := Pw0.out.cell 2
  have pl := Pw0.out.lt
  have rc0 : w0.cell? ⟨(w.heap.size + 1), 0, none⟩ = some (.int .i64 i) := Rw0.out.cell 0
  have rc1 : w0.cell? ⟨(w.heap.size + 1), 1, none⟩ = some (.int .i64 u.1) := Rw0.out.cell 1
  have rc2 : w0.cell? ⟨(w.heap.size + 1), 2, none⟩ = some (.int .i64 u.2.1) := Rw0.out.cell 2
  have rc3 : w0.cell? ⟨(w.heap.size + 1), 3, none⟩ = some (.string u.2.2) := Rw0.out.cell 3
  have rc4 : w0.cell? ⟨(w.heap.size + 1), 4, none⟩ = some (.int .i64 v.1) := Rw0.out.cell 4
  have rc5 : w0.cell? ⟨(w.heap.size + 1), 5, none⟩ = some (.int .i64 v.2.1) := Rw0.out.cell 5
  have rc6 : w0.cell? ⟨(w.heap.size + 1), 6, none⟩ = some (.string v.2.2) := Rw0.out.cell 6
  have rl := Rw0.out.lt
  have xc0 : w0.cell? ⟨(w.heap.size + 2), 0, none⟩ = some (.int .i64 0) := Xw0.out.cell 0
  have xc1 : w0.cell? ⟨(w.heap.size + 2), 1, none⟩ = some (.int .i64 0) := Xw0.out.cell 1
  have xc2 : w0.cell? ⟨(w.heap.size + 2), 2, none⟩ = some (.string ⟨#[]⟩) := Xw0.out.cell 2
  have xl := Xw0.out.lt
  have xt0 := Xw0.out.thaw 0
  have xt1 := Xw0.out.thaw 1
  have xt2 := Xw0.out.thaw 2
  go_enter Tryd.func64, Tryd.ntmps64
  go_wp2_with fail
  refine (IL.out w0).mono ?_
  rintro e w1 ⟨rfl, hb⟩
  have Bw1 : Hid (Below w.heap.size w w1) := Bw0.out.trans (hb.mono Bw0.out.size)
  have Pw1 : Hid (Box w1 w.heap.size 105 #[.int .i64 op, l.enc, r.enc]) := (Pw0.out).belowS hb
  have Rw1 : Hid (Box w1 (w.heap.size + 1) 35 #[.int .i64 i, .int .i64 u.1, .int .i64 u.2.1, .string u.2.2, .int .i64 v.1, .int .i64 v.2.1, .string v.2.2]) := (Rw0.out).belowS hb
  have Xw1 : Hid (Box w1 (w.heap.size + 2) 29 #[.int .i64 0, .int .i64 0, .string ⟨#[]⟩]) := (Xw0.out).belowS hb
  clear hb
  clear pc0 pc1 pc2 pl rc0 rc1 rc2 rc3 rc4 rc5 rc6 rl xc0 xc1 xc2 xl xt0 xt1 xt2
  have pc0 : w1.cell? ⟨w.heap.size, 0, none⟩ = some (.int .i64 op) := Pw1.out.cell 0
  have pc1 : w1.cell? ⟨w.heap.size, 1, none⟩ = some (l.enc) := Pw1.out.cell 1
  have pc2 : w1.cell? ⟨w.heap.size, 2, none⟩ = some (r.enc) := Pw1.out.cell 2
  have pl := Pw1.out.lt
  have rc0 : w1.cell? ⟨(w.heap.size + 1), 0, none⟩ = some (.int .i64 i) := Rw1.out.cell 0
  have rc1 : w1.cell? ⟨(w.heap.size + 1), 1, none⟩ = some (.int .i64 u.1) := Rw1.out.cell 1
  have rc2 : w1.cell? ⟨(w.heap.size + 1), 2, none⟩ = some (.int .i64 u.2.1) := Rw1.out.cell 2
  have rc3 : w1.cell? ⟨(w.heap.size + 1), 3, none⟩ = some (.string u.2.2) := Rw1.out.cell 3
  have rc4 : w1.cell? ⟨(w.heap.size + 1), 4, none⟩ = some (.int .i64 v.1) := Rw1.out.cell 4
  have rc5 : w1.cell? ⟨(w.heap.size + 1), 5, none⟩ = some (.int .i64 v.2.1) := Rw1.out.cell 5
  have rc6 : w1.cell? ⟨(w.heap.size + 1), 6, none⟩ = some (.string v.2.2) := Rw1.out.cell 6
  have rl := Rw1.out.lt
  have xc0 : w1.cell? ⟨(w.heap.size + 2), 0, none⟩ = some (.int .i64 0) := Xw1.out.cell 0
  have xc1 : w1.cell? ⟨(w.heap.size + 2), 1, none⟩ = some (.int .i64 0) := Xw1.out.cell 1
  have xc2 : w1.cell? ⟨(w.heap.size + 2), 2, none⟩ = some (.string ⟨#[]⟩) := Xw1.out.cell 2
  have xl := Xw1.out.lt
  have xt0 := Xw1.out.thaw 0
  have xt1 := Xw1.out.thaw 1
  have xt2 := Xw1.out.thaw 2
  go_wp2_with fail
  refine (c_dec op a.k a.n a.t (w1.alloc (.cells #[.int .i64 a.k, .int .i64 a.n, .string a.t] 29))).mono ?_
  rintro e w2 ⟨rfl, hb⟩
  have Bw2 : Hid (Below w.heap.size w w2) := (Bw1.out.alloc Bw1.out.size (.cells #[.int .i64 a.k, .int .i64 a.n, .string a.t] 29)).trans (hb.mono (Bw1.out.alloc Bw1.out.size (.cells #[.int .i64 a.k, .int .i64 a.n, .string a.t] 29)).size)
  have Pw2 : Hid (Box w2 w.heap.size 105 #[.int .i64 op, l.enc, r.enc]) := (Pw1.out.alloc _).belowS hb
  have Rw2 : Hid (Box w2 (w.heap.size + 1) 35 #[.int .i64 i, .int .i64 u.1, .int .i64 u.2.1, .string u.2.2, .int .i64 v.1, .int .i64 v.2.1, .string v.2.2]) := (Rw1.out.alloc _).belowS hb
  have Xw2 : Hid (Box w2 (w.heap.size + 2) 29 #[.int .i64 0, .int .i64 0, .string ⟨#[]⟩]) := (Xw1.out.alloc _).belowS hb
  have Yw2 : Hid (Box w2 w1.heap.size 29 #[.int .i64 a.k, .int .i64 a.n, .string a.t]) := (Box.new w1 #[.int .i64 a.k, .int .i64 a.n, .string a.t] 29).belowS hb
  clear hb
  clear pc0 pc1 pc2 pl rc0 rc1 rc2 rc3 rc4 rc5 rc6 rl xc0 xc1 xc2 xl xt0 xt1 xt2
  have pc0 : w2.cell? ⟨w.heap.size, 0, none⟩ = some (.int .i64 op) := Pw2.out.cell 0
  have pc1 : w2.cell? ⟨w.heap.size, 1, none⟩ = some (l.enc) := Pw2.out.cell 1
  have pc2 : w2.cell? ⟨w.heap.size, 2, none⟩ = some (r.enc) := Pw2.out.cell 2
  have pl := Pw2.out.lt
  have rc0 : w2.cell? ⟨(w.heap.size + 1), 0, none⟩ = some (.int .i64 i) := Rw2.out.cell 0
  have rc1 : w2.cell? ⟨(w.heap.size + 1), 1, none⟩ = some (.int .i64 u.1) := Rw2.out.cell 1
  have rc2 : w2.cell? ⟨(w.heap.size + 1), 2, none⟩ = some (.int .i64 u.2.1) := Rw2.out.cell 2
  have rc3 : w2.cell? ⟨(w.heap.size + 1), 3, none⟩ = some (.string u.2.2) := Rw2.out.cell 3
  have rc4 : w2.cell? ⟨(w.heap.size + 1), 4, none⟩ = some (.int .i64 v.1) := Rw2.out.cell 4
  have rc5 : w2.cell? ⟨(w.heap.size + 1), 5, none⟩ = some (.int .i64 v.2.1) := Rw2.out.cell 5
  have rc6 : w2.cell? ⟨(w.heap.size + 1), 6, none⟩ = some (.string v.2.2) := Rw2.out.cell 6
  have rl := Rw2.out.lt
  have xc0 : w2.cell? ⟨(w.heap.size + 2), 0, none⟩ = some (.int .i64 0) := Xw2.out.cell 0
  have xc1 : w2.cell? ⟨(w.heap.size + 2), 1, none⟩ = some (.int .i64 0) := Xw2.out.cell 1
  have xc2 : w2.cell? ⟨(w.heap.size + 2), 2, none⟩ = some (.string ⟨#[]⟩) := Xw2.out.cell 2
  have xl := Xw2.out.lt
  have xt0 := Xw2.out.thaw 0
  have xt1 := Xw2.out.thaw 1
  have xt2 := Xw2.out.thaw 2
  go_wp2_with fail
  refine (c_truth (op == 13) w2).mono ?_
  rintro e w3 ⟨rfl, hb⟩
  have Bw3 : Hid (Below w.heap.size w w3) := Bw2.out.trans (hb.mono Bw2.out.size)
  have Pw3 : Hid (Box w3 w.heap.size 105 #[.int .i64 op, l.enc, r.enc]) := (Pw2.out).belowS hb
  have Rw3 : Hid (Box w3 (w.heap.size + 1) 35 #[.int .i64 i, .int .i64 u.1, .int .i64 u.2.1, .string u.2.2, .int .i64 v.1, .int .i64 v.2.1, .string v.2.2]) := (Rw2.out).belowS hb
  have Xw3 : Hid (Box w3 (w.heap.size + 2) 29 #[.int .i64 0, .int .i64 0, .string ⟨#[]⟩]) := (Xw2.out).belowS hb
  have Yw3 : Hid (Box w3 w1.heap.size 29 #[.int .i64 a.k, .int .i64 a.n, .string a.t]) := (Yw2.out).belowS hb
  clear hb
  clear pc0 pc1 pc2 pl rc0 rc1 rc2 rc3 rc4 rc5 rc6 rl xc0 xc1 xc2 xl xt0 xt1 xt2
  have xc0 : w3.cell? ⟨(w.heap.size + 2), 0, none⟩ = some (.int .i64 0) := Xw3.out.cell 0
  have xc1 : w3.cell? ⟨(w.heap.size + 2), 1, none⟩ = some (.int .i64 0) := Xw3.out.cell 1
  have xc2 : w3.cell? ⟨(w.heap.size + 2), 2, none⟩ = some (.string ⟨#[]⟩) := Xw3.out.cell 2
  have xl := Xw3.out.lt
  have xt0 := Xw3.out.thaw 0
  have xt1 := Xw3.out.thaw 1
  have xt2 := Xw3.out.thaw 2
  go_wp2
  refine ret32 Tryd.results64 rfl rfl rfl (put3_box Xw3.out _ _ _) ⟨?_, put3_below Bw3.out (by omega) _ _ _⟩
  rw [E.out]
  rfl
set_option maxRecDepth 100000 in
set_option maxHeartbeats 4000000 in
theorem c_jv_b (i : Int) (u v : VV) (w : World) (op : Int) (l r : PT) (a : EV) (IL : Hid (∀ W, Calls Tryd.prog 35 #[l.enc, .agg #[.int .i64 i, .int .i64 u.1, .int .i64 u.2.1, .string u.2.2, .int .i64 v.1, .int .i64 v.2.1, .string v.2.2]] W fun e w' => e = .returned (.tuple #[.agg #[.int .i64 a.k, .int .i64 a.n, .string a.t], .int .i64 a.c]) ∧ Below W.heap.size W w')) (ca : (a.c != 0) = false) (dd : decB op a.k a.n = false) (b : EV) (IR : Hid (∀ W, Calls Tryd.prog 35 #[r.enc, .agg #[.int .i64 i, .int .i64 u.1, .int .i64 u.2.1, .string u.2.2, .int .i64 v.1, .int .i64 v.2.1, .string v.2.2]] W fun e w' => e = .returned (.tuple #[.agg #[.int .i64 b.k, .int .i64 b.n, .string b.t], .int .i64 b.c]) ∧ Below W.heap.size W w')) (cb : (b.c != 0) = true) (q : EV) (E : Hid (q = errE b.c)) :
    Calls Tryd.prog 64 #[.agg #[.int .i64 op, l.enc, r.enc], .agg #[.int .i64 i, .int .i64 u.1, .int .i64 u.2.1, .string u.2.2, .int .i64 v.1, .int .i64 v.2.1, .string v.2.2]] w fun e w' => e = .returned (.tuple #[.agg #[.int .i64 q.k, .int .i64 q.n, .string q.t], .int .i64 q.c]) ∧ Below w.heap.size w w' := by
  obtain ⟨w0, hw0⟩ : ∃ V, ((w.alloc (.cells #[.int .i64 op, l.enc, r.enc] 105)).alloc (.cells #[.int .i64 i, .int .i64 u.1, .int .i64 u.2.1, .string u.2.2, .int .i64 v.1, .int .i64 v.2.1, .string v.2.2] 35)).alloc (.cells #[.int .i64 0, .int .i64 0, .string ⟨#[]⟩] 29) = V := ⟨_, rfl⟩
  have Bw0 : Hid (Below w.heap.size w w0) := by unfold Hid; rw [← hw0]; exact ((((Below.refl _ _).alloc (Nat.le_refl _) _).alloc (by simp) _).alloc (by simp; omega) _)
  have Pw0 : Hid (Box w0 w.heap.size 105 #[.int .i64 op, l.enc, r.enc]) := by unfold Hid; rw [← hw0]; exact (((Box.new _ _ _).alloc _).alloc _)
  have Rw0 : Hid (Box w0 (w.heap.size + 1) 35 #[.int .i64 i, .int .i64 u.1, .int .i64 u.2.1, .string u.2.2, .int .i64 v.1, .int .i64 v.2.1, .string v.2.2]) := by unfold Hid; rw [← hw0]; exact ((Box.new2 _ _ _ _).alloc _)
  have Xw0 : Hid (Box w0 (w.heap.size + 2) 29 #[.int .i64 0, .int .i64 0, .string ⟨#[]⟩]) := by unfold Hid; rw [← hw0]; have := Box.new2 (w.alloc (.cells #[.int .i64 op, l.enc, r.enc] 105)) (.cells #[.int .i64 i, .int .i64 u.1, .int .i64 u.2.1, .string u.2.2, .int .i64 v.1, .int .i64 v.2.1, .string v.2.2] 35) #[.int .i64 0, .int .i64 0, .string ⟨#[]⟩] 29; simpa using this
  have pc0 : w0.cell? ⟨w.heap.size, 0, none⟩ = some (.int .i64 op) := Pw0.out.cell 0
  have pc1 : w0.cell? ⟨w.heap.size, 1, none⟩ = some (l.enc) := Pw0.out.cell 1
  have pc2 : w0.cell? ⟨w.heap.size, 2, none⟩ = some (r.enc) := Pw0.out.cell 2
  have pl := Pw0.out.lt
  have rc0 : w0.cell? ⟨(w.heap.size + 1), 0, none⟩ = some (.int .i64 i) := Rw0.out.cell 0
  have rc1 : w0.cell? ⟨(w.heap.size + 1), 1, none⟩ = some (.int .i64 u.1) := Rw0.out.cell 1
  have rc2 : w0.cell? ⟨(w.heap.size + 1), 2, none⟩ = some (.int .i64 u.2.1) := Rw0.out.cell 2
  have rc3 : w0.cell? ⟨(w.heap.size + 1), 3, none⟩ = some (.string u.2.2) := Rw0.out.cell 3
  have rc4 : w0.cell? ⟨(w.heap.size + 1), 4, none⟩ = some (.int .i64 v.1) := Rw0.out.cell 4
  have rc5 : w0.cell? ⟨(w.heap.size + 1), 5, none⟩ = some (.int .i64 v.2.1) := Rw0.out.cell 5
  have rc6 : w0.cell? ⟨(w.heap.size + 1), 6, none⟩ = some (.string v.2.2) := Rw0.out.cell 6
  have rl := Rw0.out.lt
  have xc0 : w0.cell? ⟨(w.heap.size + 2), 0, none⟩ = some (.int .i64 0) := Xw0.out.cell 0
  have xc1 : w0.cell? ⟨(w.heap.size + 2), 1, none⟩ = some (.int .i64 0) := Xw0.out.cell 1
  have xc2 : w0.cell? ⟨(w.heap.size + 2), 2, none⟩ = some (.string ⟨#[]⟩) := Xw0.out.cell 2
  have xl := Xw0.out.lt
  have xt0 := Xw0.out.thaw 0
  have xt1 := Xw0.out.thaw 1
  have xt2 := Xw0.out.thaw 2
  go_enter Tryd.func64, Tryd.ntmps64
  go_wp2_with fail
  refine (IL.out w0).mono ?_
  rintro e w1 ⟨rfl, hb⟩
  have Bw1 : Hid (Below w.heap.size w w1) := Bw0.out.trans (hb.mono Bw0.out.size)
  have Pw1 : Hid (Box w1 w.heap.size 105 #[.int .i64 op, l.enc, r.enc]) := (Pw0.out).belowS hb
  have Rw1 : Hid (Box w1 (w.heap.size + 1) 35 #[.int .i64 i, .int .i64 u.1, .int .i64 u.2.1, .string u.2.2, .int .i64 v.1, .int .i64 v.2.1, .string v.2.2]) := (Rw0.out).belowS hb
  have Xw1 : Hid (Box w1 (w.heap.size + 2) 29 #[.int .i64 0, .int .i64 0, .string ⟨#[]⟩]) := (Xw0.out).belowS hb
  clear hb
  clear pc0 pc1 pc2 pl rc0 rc1 rc2 rc3 rc4 rc5 rc6 rl xc0 xc1 xc2 xl xt0 xt1 xt2
  have pc0 : w1.cell? ⟨w.heap.size, 0, none⟩ = some (.int .i64 op) := Pw1.out.cell 0
  have pc1 : w1.cell? ⟨w.heap.size, 1, none⟩ = some (l.enc) := Pw1.out.cell 1
  have pc2 : w1.cell? ⟨w.heap.size, 2, none⟩ = some (r.enc) := Pw1.out.cell 2
  have pl := Pw1.out.lt
  have rc0 : w1.cell? ⟨(w.heap.size + 1), 0, none⟩ = some (.int .i64 i) := Rw1.out.cell 0
  have rc1 : w1.cell? ⟨(w.heap.size + 1), 1, none⟩ = some (.int .i64 u.1) := Rw1.out.cell 1
  have rc2 : w1.cell? ⟨(w.heap.size + 1), 2, none⟩ = some (.int .i64 u.2.1) := Rw1.out.cell 2
  have rc3 : w1.cell? ⟨(w.heap.size + 1), 3, none⟩ = some (.string u.2.2) := Rw1.out.cell 3
  have rc4 : w1.cell? ⟨(w.heap.size + 1), 4, none⟩ = some (.int .i64 v.1) := Rw1.out.cell 4
  have rc5 : w1.cell? ⟨(w.heap.size + 1), 5, none⟩ = some (.int .i64 v.2.1) := Rw1.out.cell 5
  have rc6 : w1.cell? ⟨(w.heap.size + 1), 6, none⟩ = some (.string v.2.2) := Rw1.out.cell 6
  have rl := Rw1.out.lt
  have xc0 : w1.cell? ⟨(w.heap.size + 2), 0, none⟩ = some (.int .i64 0) := Xw1.out.cell 0
  have xc1 : w1.cell? ⟨(w.heap.size + 2), 1, none⟩ = some (.int .i64 0) := Xw1.out.cell 1
  have xc2 : w1.cell? ⟨(w.heap.size + 2), 2, none⟩ = some (.string ⟨#[]⟩) := Xw1.out.cell 2
  have xl := Xw1.out.lt
  have xt0 := Xw1.out.thaw 0
  have xt1 := Xw1.out.thaw 1
  have xt2 := Xw1.out.thaw 2
  go_wp2_with fail
  refine (c_dec op a.k a.n a.t (w1.alloc (.cells #[.int .i64 a.k, .int .i64 a.n, .string a.t] 29))).mono ?_
  rintro e w2 ⟨rfl, hb⟩
  have Bw2 : Hid (Below w.heap.size w w2) := (Bw1.out.alloc Bw1.out.size (.cells #[.int .i64 a.k, .int .i64 a.n, .string a.t] 29)).trans (hb.mono (Bw1.out.alloc Bw1.out.size (.cells #[.int .i64 a.k, .int .i64 a.n, .string a.t] 29)).size)
  have Pw2 : Hid (Box w2 w.heap.size 105 #[.int .i64 op, l.enc, r.enc]) := (Pw1.out.alloc _).belowS hb
  have Rw2 : Hid (Box w2 (w.heap.size + 1) 35 #[.int .i64 i, .int .i64 u.1, .int .i64 u.2.1, .string u.2.2, .int .i64 v.1, .int .i64 v.2.1, .string v.2.2]) := (Rw1.out.alloc _).belowS hb
  have Xw2 : Hid (Box w2 (w.heap.size + 2) 29 #[.int .i64 0, .int .i64 0, .string ⟨#[]⟩]) := (Xw1.out.alloc _).belowS hb
  have Yw2 : Hid (Box w2 w1.heap.size 29 #[.int .i64 a.k, .int .i64 a.n, .string a.t]) := (Box.new w1 #[.int .i64 a.k, .int .i64 a.n, .string a.t] 29).belowS hb
  clear hb
  clear pc0 pc1 pc2 pl rc0 rc1 rc2 rc3 rc4 rc5 rc6 rl xc0 xc1 xc2 xl xt0 xt1 xt2
  have pc0 : w2.cell? ⟨w.heap.size, 0, none⟩ = some (.int .i64 op) := Pw2.out.cell 0
  have pc1 : w2.cell? ⟨w.heap.size, 1, none⟩ = some (l.enc) := Pw2.out.cell 1
  have pc2 : w2.cell? ⟨w.heap.size, 2, none⟩ = some (r.enc) := Pw2.out.cell 2
  have pl := Pw2.out.lt
  have rc0 : w2.cell? ⟨(w.heap.size + 1), 0, none⟩ = some (.int .i64 i) := Rw2.out.cell 0
  have rc1 : w2.cell? ⟨(w.heap.size + 1), 1, none⟩ = some (.int .i64 u.1) := Rw2.out.cell 1
  have rc2 : w2.cell? ⟨(w.heap.size + 1), 2, none⟩ = some (.int .i64 u.2.1) := Rw2.out.cell 2
  have rc3 : w2.cell? ⟨(w.heap.size + 1), 3, none⟩ = some (.string u.2.2) := Rw2.out.cell 3
  have rc4 : w2.cell? ⟨(w.heap.size + 1), 4, none⟩ = some (.int .i64 v.1) := Rw2.out.cell 4
  have rc5 : w2.cell? ⟨(w.heap.size + 1), 5, none⟩ = some (.int .i64 v.2.1) := Rw2.out.cell 5
  have rc6 : w2.cell? ⟨(w.heap.size + 1), 6, none⟩ = some (.string v.2.2) := Rw2.out.cell 6
  have rl := Rw2.out.lt
  have xc0 : w2.cell? ⟨(w.heap.size + 2), 0, none⟩ = some (.int .i64 0) := Xw2.out.cell 0
  have xc1 : w2.cell? ⟨(w.heap.size + 2), 1, none⟩ = some (.int .i64 0) := Xw2.out.cell 1
  have xc2 : w2.cell? ⟨(w.heap.size + 2), 2, none⟩ = some (.string ⟨#[]⟩) := Xw2.out.cell 2
  have xl := Xw2.out.lt
  have xt0 := Xw2.out.thaw 0
  have xt1 := Xw2.out.thaw 1
  have xt2 := Xw2.out.thaw 2
  have yc0 : w2.cell? ⟨w1.heap.size, 0, none⟩ = some (.int .i64 a.k) := Yw2.out.cell 0
  have yc1 : w2.cell? ⟨w1.heap.size, 1, none⟩ = some (.int .i64 a.n) := Yw2.out.cell 1
  have yc2 : w2.cell? ⟨w1.heap.size, 2, none⟩ = some (.string a.t) := Yw2.out.cell 2
  have yl := Yw2.out.lt
  go_wp2_with fail
  refine (IR.out w2).mono ?_
  rintro e w3 ⟨rfl, hb⟩
  have Bw3 : Hid (Below w.heap.size w w3) := Bw2.out.trans (hb.mono Bw2.out.size)
  have Pw3 : Hid (Box w3 w.heap.size 105 #[.int .i64 op, l.enc, r.enc]) := (Pw2.out).belowS hb
  have Rw3 : Hid (Box w3 (w.heap.size + 1) 35 #[.int .i64 i, .int .i64 u.1, .int .i64 u.2.1, .string u.2.2, .int .i64 v.1, .int .i64 v.2.1, .string v.2.2]) := (Rw2.out).belowS hb
  have Xw3 : Hid (Box w3 (w.heap.size + 2) 29 #[.int .i64 0, .int .i64 0, .string ⟨#[]⟩]) := (Xw2.out).belowS hb
  have Yw3 : Hid (Box w3 w1.heap.size 29 #[.int .i64 a.k, .int .i64 a.n, .string a.t]) := (Yw2.out).belowS hb
  clear hb
  clear pc0 pc1 pc2 pl rc0 rc1 rc2 rc3 rc4 rc5 rc6 rl xc0 xc1 xc2 xl xt0 xt1 xt2 yc0 yc1 yc2 yl
  have pc0 : w3.cell? ⟨w.heap.size, 0, none⟩ = some (.int .i64 op) := Pw3.out.cell 0
  have pc1 : w3.cell? ⟨w.heap.size, 1, none⟩ = some (l.enc) := Pw3.out.cell 1
  have pc2 : w3.cell? ⟨w.heap.size, 2, none⟩ = some (r.enc) := Pw3.out.cell 2
  have pl := Pw3.out.lt
  have rc0 : w3.cell? ⟨(w.heap.size + 1), 0, none⟩ = some (.int .i64 i) := Rw3.out.cell 0
  have rc1 : w3.cell? ⟨(w.heap.size + 1), 1, none⟩ = some (.int .i64 u.1) := Rw3.out.cell 1
  have rc2 : w3.cell? ⟨(w.heap.size + 1), 2, none⟩ = some (.int .i64 u.2.1) := Rw3.out.cell 2
  have rc3 : w3.cell? ⟨(w.heap.size + 1), 3, none⟩ = some (.string u.2.2) := Rw3.out.cell 3
  have rc4 : w3.cell? ⟨(w.heap.size + 1), 4, none⟩ = some (.int .i64 v.1) := Rw3.out.cell 4
  have rc5 : w3.cell? ⟨(w.heap.size + 1), 5, none⟩ = some (.int .i64 v.2.1) := Rw3.out.cell 5
  have rc6 : w3.cell? ⟨(w.heap.size + 1), 6, none⟩ = some (.string v.2.2) := Rw3.out.cell 6
  have rl := Rw3.out.lt
  have xc0 : w3.cell? ⟨(w.heap.size + 2), 0, none⟩ = some (.int .i64 0) := Xw3.out.cell 0
  have xc1 : w3.cell? ⟨(w.heap.size + 2), 1, none⟩ = some (.int .i64 0) := Xw3.out.cell 1
  have xc2 : w3.cell? ⟨(w.heap.size + 2), 2, none⟩ = some (.string ⟨#[]⟩) := Xw3.out.cell 2
  have xl := Xw3.out.lt
  have xt0 := Xw3.out.thaw 0
  have xt1 := Xw3.out.thaw 1
  have xt2 := Xw3.out.thaw 2
  have yc0 : w3.cell? ⟨w1.heap.size, 0, none⟩ = some (.int .i64 a.k) := Yw3.out.cell 0
  have yc1 : w3.cell? ⟨w1.heap.size, 1, none⟩ = some (.int .i64 a.n) := Yw3.out.cell 1
  have yc2 : w3.cell? ⟨w1.heap.size, 2, none⟩ = some (.string a.t) := Yw3.out.cell 2
  have yl := Yw3.out.lt
  go_wp2
  have hbl9 : ∀ v0 v1 v2, Below w.heap.size w ((((w3).setCell ⟨(w.heap.size + 2), 0, none⟩ (v0)).setCell ⟨(w.heap.size + 2), 1, none⟩ (v1)).setCell ⟨(w.heap.size + 2), 2, none⟩ (v2)) := fun v0 v1 v2 => put3_below Bw3.out (by omega) v0 v1 v2
  refine ret32 Tryd.results64 rfl rfl rfl ((put3_box Xw3.out _ _ _).alloc _) ⟨?_, (hbl9 _ _ _).alloc (hbl9 _ _ _).size _⟩
  rw [E.out]
  rfl
set_option maxRecDepth 100000 in
set_option maxHeartbeats 4000000 in
theorem c_jv_v (i : Int) (u v : VV) (w : World) (op : Int) (l r : PT) (a : EV) (IL : Hid (∀ W, Calls Tryd.prog 35 #[l.enc, .agg #[.int .i64 i, .int .i64 u.1, .int .i64 u.2.1, .string u.2.2, .int .i64 v.1, .int .i64 v.2.1, .string v.2.2]] W fun e w' => e = .returned (.tuple #[.agg #[.int .i64 a.k, .int .i64 a.n, .string a.t], .int .i64 a.c]) ∧ Below W.heap.size W w')) (ca : (a.c != 0) = false) (dd : decB op a.k a.n = false) (b : EV) (IR : Hid (∀ W, Calls Tryd.prog 35 #[r.enc, .agg #[.int .i64 i, .int .i64 u.1, .int .i64 u.2.1, .string u.2.2, .int .i64 v.1, .int .i64 v.2.1, .string v.2.2]] W fun e w' => e = .returned (.tuple #[.agg #[.int .i64 b.k, .int .i64 b.n, .string b.t], .int .i64 b.c]) ∧ Below W.heap.size W w')) (cb : (b.c != 0) = false) (s : BR) (CB : Hid (∀ W, Calls Tryd.prog 75 #[.int .i64 op, .agg #[.int .i64 a.k, .int .i64 a.n, .string a.t], .agg #[.int .i64 b.k, .int .i64 b.n, .string b.t]] W fun e w' => e = .returned (.tuple #[.agg #[.int .i64 s.k, .int .i64 s.n, .string ⟨#[]⟩], .int .i64 s.c]) ∧ Below W.heap.size W w')) (q : EV) (E : Hid (q = ofB s)) :
    Calls Tryd.prog 64 #[.agg #[.int .i64 op, l.enc, r.enc], .agg #[.int .i64 i, .int .i64 u.1, .int .i64 u.2.1, .string u.2.2, .int .i64 v.1, .int .i64 v.2.1, .string v.2.2]] w fun e w' => e = .returned (.tuple #[.agg #[.int .i64 q.k, .int .i64 q.n, .string q.t], .int .i64 q.c]) ∧ Below w.heap.size w w' := by
  obtain ⟨w0, hw0⟩ : ∃ V, ((w.alloc (.cells #[.int .i64 op, l.enc, r.enc] 105)).alloc (.cells #[.int .i64 i, .int .i64 u.1, .int .i64 u.2.1, .string u.2.2, .int .i64 v.1, .int .i64 v.2.1, .string v.2.2] 35)).alloc (.cells #[.int .i64 0, .int .i64 0, .string ⟨#[]⟩] 29) = V := ⟨_, rfl⟩
  have Bw0 : Hid (Below w.heap.size w w0) := by unfold Hid; rw [← hw0]; exact ((((Below.refl _ _).alloc (Nat.le_refl _) _).alloc (by simp) _).alloc (by simp; omega) _)
  have Pw0 : Hid (Box w0 w.heap.size 105 #[.int .i64 op, l.enc, r.enc]) := by unfold Hid; rw [← hw0]; exact (((Box.new _ _ _).alloc _).alloc _)
  have Rw0 : Hid (Box w0 (w.heap.size + 1) 35 #[.int .i64 i, .int .i64 u.1, .int .i64 u.2.1, .string u.2.2, .int .i64 v.1, .int .i64 v.2.1, .string v.2.2]) := by unfold Hid; rw [← hw0]; exact ((Box.new2 _ _ _ _).alloc _)
  have Xw0 : Hid (Box w0 (w.heap.size + 2) 29 #[.int .i64 0, .int .i64 0, .string ⟨#[]⟩]) := by unfold Hid; rw [← hw0]; have := Box.new2 (w.alloc (.cells #[.int .i64 op, l.enc, r.enc] 105)) (.cells #[.int .i64 i, .int .i64 u.1, .int .i64 u.2.1, .string u.2.2, .int .i64 v.1, .int .i64 v.2.1, .string v.2.2] 35) #[.int .i64 0, .int .i64 0, .string ⟨#[]⟩] 29; simpa using this
  have pc0 : w0.cell? ⟨w.heap.size, 0, none⟩ = some (.int .i64 op) := Pw0.out.cell 0
  have pc1 : w0.cell? ⟨w.heap.size, 1, none⟩ = some (l.enc) := Pw0.out.cell 1
  have pc2 : w0.cell? ⟨w.heap.size, 2, none⟩ = some (r.enc) := Pw0.out.cell 2
  have pl := Pw0.out.lt
  have rc0 : w0.cell? ⟨(w.heap.size + 1), 0, none⟩ = some (.int .i64 i) := Rw0.out.cell 0
  have rc1 : w0.cell? ⟨(w.heap.size + 1), 1, none⟩ = some (.int .i64 u.1) := Rw0.out.cell 1
  have rc2 : w0.cell? ⟨(w.heap.size + 1), 2, none⟩ = some (.int .i64 u.2.1) := Rw0.out.cell 2
  have rc3 : w0.cell? ⟨(w.heap.size + 1), 3, none⟩ = some (.string u.2.2) := Rw0.out.cell 3
  have rc4 : w0.cell? ⟨(w.heap.size + 1), 4, none⟩ = some (.int .i64 v.1) := Rw0.out.cell 4
  have rc5 : w0.cell? ⟨(w.heap.size + 1), 5, none⟩ = some (.int .i64 v.2.1) := Rw0.out.cell 5
  have rc6 : w0.cell? ⟨(w.heap.size + 1), 6, none⟩ = some (.string v.2.2) := Rw0.out.cell 6
  have rl := Rw0.out.lt
  have xc0 : w0.cell? ⟨(w.heap.size + 2), 0, none⟩ = some (.int .i64 0) := Xw0.out.cell 0
  have xc1 : w0.cell? ⟨(w.heap.size + 2), 1, none⟩ = some (.int .i64 0) := Xw0.out.cell 1
  have xc2 : w0.cell? ⟨(w.heap.size + 2), 2, none⟩ = some (.string ⟨#[]⟩) := Xw0.out.cell 2
  have xl := Xw0.out.lt
  have xt0 := Xw0.out.thaw 0
  have xt1 := Xw0.out.thaw 1
  have xt2 := Xw0.out.thaw 2
  go_enter Tryd.func64, Tryd.ntmps64
  go_wp2_with fail
  refine (IL.out w0).mono ?_
  rintro e w1 ⟨rfl, hb⟩
  have Bw1 : Hid (Below w.heap.size w w1) := Bw0.out.trans (hb.mono Bw0.out.size)
  have Pw1 : Hid (Box w1 w.heap.size 105 #[.int .i64 op, l.enc, r.enc]) := (Pw0.out).belowS hb
  have Rw1 : Hid (Box w1 (w.heap.size + 1) 35 #[.int .i64 i, .int .i64 u.1, .int .i64 u.2.1, .string u.2.2, .int .i64 v.1, .int .i64 v.2.1, .string v.2.2]) := (Rw0.out).belowS hb
  have Xw1 : Hid (Box w1 (w.heap.size + 2) 29 #[.int .i64 0, .int .i64 0, .string ⟨#[]⟩]) := (Xw0.out).belowS hb
  clear hb
  clear pc0 pc1 pc2 pl rc0 rc1 rc2 rc3 rc4 rc5 rc6 rl xc0 xc1 xc2 xl xt0 xt1 xt2
  have pc0 : w1.cell? ⟨w.heap.size, 0, none⟩ = some (.int .i64 op) := Pw1.out.cell 0
  have pc1 : w1.cell? ⟨w.heap.size, 1, none⟩ = some (l.enc) := Pw1.out.cell 1
  have pc2 : w1.cell? ⟨w.heap.size, 2, none⟩ = some (r.enc) := Pw1.out.cell 2
  have pl := Pw1.out.lt
  have rc0 : w1.cell? ⟨(w.heap.size + 1), 0, none⟩ = some (.int .i64 i) := Rw1.out.cell 0
  have rc1 : w1.cell? ⟨(w.heap.size + 1), 1, none⟩ = some (.int .i64 u.1) := Rw1.out.cell 1
  have rc2 : w1.cell? ⟨(w.heap.size + 1), 2, none⟩ = some (.int .i64 u.2.1) := Rw1.out.cell 2
  have rc3 : w1.cell? ⟨(w.heap.size + 1), 3, none⟩ = some (.string u.2.2) := Rw1.out.cell 3
  have rc4 : w1.cell? ⟨(w.heap.size + 1), 4, none⟩ = some (.int .i64 v.1) := Rw1.out.cell 4
  have rc5 : w1.cell? ⟨(w.heap.size + 1), 5, none⟩ = some (.int .i64 v.2.1) := Rw1.out.cell 5
  have rc6 : w1.cell? ⟨(w.heap.size + 1), 6, none⟩ = some (.string v.2.2) := Rw1.out.cell 6
  have rl := Rw1.out.lt
  have xc0 : w1.cell? ⟨(w.heap.size + 2), 0, none⟩ = some (.int .i64 0) := Xw1.out.cell 0
  have xc1 : w1.cell? ⟨(w.heap.size + 2), 1, none⟩ = some (.int .i64 0) := Xw1.out.cell 1
  have xc2 : w1.cell? ⟨(w.heap.size + 2), 2, none⟩ = some (.string ⟨#[]⟩) := Xw1.out.cell 2
  have xl := Xw1.out.lt
  have xt0 := Xw1.out.thaw 0
  have xt1 := Xw1.out.thaw 1
  have xt2 := Xw1.out.thaw 2
  go_wp2_with fail
  refine (c_dec op a.k a.n a.t (w1.alloc (.cells #[.int .i64 a.k, .int .i64 a.n, .string a.t] 29))).mono ?_
  rintro e w2 ⟨rfl, hb⟩
  have Bw2 : Hid (Below w.heap.size w w2) := (Bw1.out.alloc Bw1.out.size (.cells #[.int .i64 a.k, .int .i64 a.n, .string a.t] 29)).trans (hb.mono (Bw1.out.alloc Bw1.out.size (.cells #[.int .i64 a.k, .int .i64 a.n, .string a.t] 29)).size)
  have Pw2 : Hid (Box w2 w.heap.size 105 #[.int .i64 op, l.enc, r.enc]) := (Pw1.out.alloc _).belowS hb
  have Rw2 : Hid (Box w2 (w.heap.size + 1) 35 #[.int .i64 i, .int .i64 u.1, .int .i64 u.2.1, .string u.2.2, .int .i64 v.1, .int .i64 v.2.1, .string v.2.2]) := (Rw1.out.alloc _).belowS hb
  have Xw2 : Hid (Box w2 (w.heap.size + 2) 29 #[.int .i64 0, .int .i64 0, .string ⟨#[]⟩]) := (Xw1.out.alloc _).belowS hb
  have Yw2 : Hid (Box w2 w1.heap.size 29 #[.int .i64 a.k, .int .i64 a.n, .string a.t]) := (Box.new w1 #[.int .i64 a.k, .int .i64 a.n, .string a.t] 29).belowS hb
  clear hb
  clear pc0 pc1 pc2 pl rc0 rc1 rc2 rc3 rc4 rc5 rc6 rl xc0 xc1 xc2 xl xt0 xt1 xt2
  have pc0 : w2.cell? ⟨w.heap.size, 0, none⟩ = some (.int .i64 op) := Pw2.out.cell 0
  have pc1 : w2.cell? ⟨w.heap.size, 1, none⟩ = some (l.enc) := Pw2.out.cell 1
  have pc2 : w2.cell? ⟨w.heap.size, 2, none⟩ = some (r.enc) := Pw2.out.cell 2
  have pl := Pw2.out.lt
  have rc0 : w2.cell? ⟨(w.heap.size + 1), 0, none⟩ = some (.int .i64 i) := Rw2.out.cell 0
  have rc1 : w2.cell? ⟨(w.heap.size + 1), 1, none⟩ = some (.int .i64 u.1) := Rw2.out.cell 1
  have rc2 : w2.cell? ⟨(w.heap.size + 1), 2, none⟩ = some (.int .i64 u.2.1) := Rw2.out.cell 2
  have rc3 : w2.cell? ⟨(w.heap.size + 1), 3, none⟩ = some (.string u.2.2) := Rw2.out.cell 3
  have rc4 : w2.cell? ⟨(w.heap.size + 1), 4, none⟩ = some (.int .i64 v.1) := Rw2.out.cell 4
  have rc5 : w2.cell? ⟨(w.heap.size + 1), 5, none⟩ = some (.int .i64 v.2.1) := Rw2.out.cell 5
  have rc6 : w2.cell? ⟨(w.heap.size + 1), 6, none⟩ = some (.string v.2.2) := Rw2.out.cell 6
  have rl := Rw2.out.lt
  have xc0 : w2.cell? ⟨(w.heap.size + 2), 0, none⟩ = some (.int .i64 0) := Xw2.out.cell 0
  have xc1 : w2.cell? ⟨(w.heap.size + 2), 1, none⟩ = some (.int .i64 0) := Xw2.out.cell 1
  have xc2 : w2.cell? ⟨(w.heap.size + 2), 2, none⟩ = some (.string ⟨#[]⟩) := Xw2.out.cell 2
  have xl := Xw2.out.lt
  have xt0 := Xw2.out.thaw 0
  have xt1 := Xw2.out.thaw 1
  have xt2 := Xw2.out.thaw 2
  have yc0 : w2.cell? ⟨w1.heap.size, 0, none⟩ = some (.int .i64 a.k) := Yw2.out.cell 0
  have yc1 : w2.cell? ⟨w1.heap.size, 1, none⟩ = some (.int .i64 a.n) := Yw2.out.cell 1
  have yc2 : w2.cell? ⟨w1.heap.size, 2, none⟩ = some (.string a.t) := Yw2.out.cell 2
  have yl := Yw2.out.lt
  go_wp2_with fail
  refine (IR.out w2).mono ?_
  rintro e w3 ⟨rfl, hb⟩
  have Bw3 : Hid (Below w.heap.size w w3) := Bw2.out.trans (hb.mono Bw2.out.size)
  have Pw3 : Hid (Box w3 w.heap.size 105 #[.int .i64 op, l.enc, r.enc]) := (Pw2.out).belowS hb
  have Rw3 : Hid (Box w3 (w.heap.size + 1) 35 #[.int .i64 i, .int .i64 u.1, .int .i64 u.2.1, .string u.2.2, .int .i64 v.1, .int .i64 v.2.1, .string v.2.2]) := (Rw2.out).belowS hb
  have Xw3 : Hid (Box w3 (w.heap.size + 2) 29 #[.int .i64 0, .int .i64 0, .string ⟨#[]⟩]) := (Xw2.out).belowS hb
  have Yw3 : Hid (Box w3 w1.heap.size 29 #[.int .i64 a.k, .int .i64 a.n, .string a.t]) := (Yw2.out).belowS hb
  clear hb
  clear pc0 pc1 pc2 pl rc0 rc1 rc2 rc3 rc4 rc5 rc6 rl xc0 xc1 xc2 xl xt0 xt1 xt2 yc0 yc1 yc2 yl
  have pc0 : w3.cell? ⟨w.heap.size, 0, none⟩ = some (.int .i64 op) := Pw3.out.cell 0
  have pc1 : w3.cell? ⟨w.heap.size, 1, none⟩ = some (l.enc) := Pw3.out.cell 1
  have pc2 : w3.cell? ⟨w.heap.size, 2, none⟩ = some (r.enc) := Pw3.out.cell 2
  have pl := Pw3.out.lt
  have rc0 : w3.cell? ⟨(w.heap.size + 1), 0, none⟩ = some (.int .i64 i) := Rw3.out.cell 0
  have rc1 : w3.cell? ⟨(w.heap.size + 1), 1, none⟩ = some (.int .i64 u.1) := Rw3.out.cell 1
  have rc2 : w3.cell? ⟨(w.heap.size + 1), 2, none⟩ = some (.int .i64 u.2.1) := Rw3.out.cell 2
  have rc3 : w3.cell? ⟨(w.heap.size + 1), 3, none⟩ = some (.string u.2.2) := Rw3.out.cell 3
  have rc4 : w3.cell? ⟨(w.heap.size + 1), 4, none⟩ = some (.int .i64 v.1) := Rw3.out.cell 4
  have rc5 : w3.cell? ⟨(w.heap.size + 1), 5, none⟩ = some (.int .i64 v.2.1) := Rw3.out.cell 5
  have rc6 : w3.cell? ⟨(w.heap.size + 1), 6, none⟩ = some (.string v.2.2) := Rw3.out.cell 6
  have rl := Rw3.out.lt
  have xc0 : w3.cell? ⟨(w.heap.size + 2), 0, none⟩ = some (.int .i64 0) := Xw3.out.cell 0
  have xc1 : w3.cell? ⟨(w.heap.size + 2), 1, none⟩ = some (.int .i64 0) := Xw3.out.cell 1
  have xc2 : w3.cell? ⟨(w.heap.size + 2), 2, none⟩ = some (.string ⟨#[]⟩) := Xw3.out.cell 2
  have xl := Xw3.out.lt
  have xt0 := Xw3.out.thaw 0
  have xt1 := Xw3.out.thaw 1
  have xt2 := Xw3.out.thaw 2
  have yc0 : w3.cell? ⟨w1.heap.size, 0, none⟩ = some (.int .i64 a.k) := Yw3.out.cell 0
  have yc1 : w3.cell? ⟨w1.heap.size, 1, none⟩ = some (.int .i64 a.n) := Yw3.out.cell 1
  have yc2 : w3.cell? ⟨w1.heap.size, 2, none⟩ = some (.string a.t) := Yw3.out.cell 2
  have yl := Yw3.out.lt
  go_wp2_with fail
  refine (CB.out (w3.alloc (.cells #[.int .i64 b.k, .int .i64 b.n, .string b.t] 29))).mono ?_
  rintro e w4 ⟨rfl, hb⟩
  have Bw4 : Hid (Below w.heap.size w w4) := (Bw3.out.alloc Bw3.out.size (.cells #[.int .i64 b.k, .int .i64 b.n, .string b.t] 29)).trans (hb.mono (Bw3.out.alloc Bw3.out.size (.cells #[.int .i64 b.k, .int .i64 b.n, .string b.t] 29)).size)
  have Pw4 : Hid (Box w4 w.heap.size 105 #[.int .i64 op, l.enc, r.enc]) := (Pw3.out.alloc _).belowS hb
  have Rw4 : Hid (Box w4 (w.heap.size + 1) 35 #[.int .i64 i, .int .i64 u.1, .int .i64 u.2.1, .string u.2.2, .int .i64 v.1, .int .i64 v.2.1, .string v.2.2]) := (Rw3.out.alloc _).belowS hb
  have Xw4 : Hid (Box w4 (w.heap.size + 2) 29 #[.int .i64 0, .int .i64 0, .string ⟨#[]⟩]) := (Xw3.out.alloc _).belowS hb
  have Yw4 : Hid (Box w4 w1.heap.size 29 #[.int .i64 a.k, .int .i64 a.n, .string a.t]) := (Yw3.out.alloc _).belowS hb
  have Zw4 : Hid (Box w4 w3.heap.size 29 #[.int .i64 b.k, .int .i64 b.n, .string b.t]) := (Box.new w3 #[.int .i64 b.k, .int .i64 b.n, .string b.t] 29).belowS hb
  clear hb
  clear pc0 pc1 pc2 pl rc0 rc1 rc2 rc3 rc4 rc5 rc6 rl xc0 xc1 xc2 xl xt0 xt1 xt2 yc0 yc1 yc2 yl
  have xc0 : w4.cell? ⟨(w.heap.size + 2), 0, none⟩ = some (.int .i64 0) := Xw4.out.cell 0
  have xc1 : w4.cell? ⟨(w.heap.size + 2), 1, none⟩ = some (.int .i64 0) := Xw4.out.cell 1
  have xc2 : w4.cell? ⟨(w.heap.size + 2), 2, none⟩ = some (.string ⟨#[]⟩) := Xw4.out.cell 2
  have xl := Xw4.out.lt
  have xt0 := Xw4.out.thaw 0
  have xt1 := Xw4.out.thaw 1
  have xt2 := Xw4.out.thaw 2
  go_wp2
  refine ret32 Tryd.results64 rfl rfl rfl (put3_box Xw4.out _ _ _) ⟨?_, put3_below Bw4.out (by omega) _ _ _⟩
  rw [E.out]
  rfl

end Go.Proofs.YtcgcaomaofppiaaDoor
