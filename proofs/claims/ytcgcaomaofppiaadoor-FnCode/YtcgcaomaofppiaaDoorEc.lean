/-
  What expressions mean: the specification.
-/
import Derived.Test.YtcgcaomaofppiaaDoorEa
namespace Go.Proofs.YtcgcaomaofppiaaDoor
open Go Go.RowKit
set_option linter.unusedVariables false
set_option linter.unusedSimpArgs false

set_option maxRecDepth 100000 in
set_option maxHeartbeats 4000000 in
theorem c_le_con (L : List EN) (a : Option Addr) (n c k : Nat) (x : EN) (i : Int) (u v : VV) (w : World) (hr : RdE w a n L) (hk : k < n) (hn : n ≤ 1048576) (hx : x = L.getD k zeroE)  (o1 : (x.o == 1) = true) (q : EV) (E : Hid (q = ⟨x.k, x.n, x.t, 0⟩)) :
    Calls Tryd.prog 37 #[.agg #[.slice a n c], .int .i64 (k : Int), .agg #[.int .i64 i, .int .i64 u.1, .int .i64 u.2.1, .string u.2.2, .int .i64 v.1, .int .i64 v.2.1, .string v.2.2]] w fun e w' => e = .returned (.tuple #[.agg #[.int .i64 q.k, .int .i64 q.n, .string q.t], .int .i64 q.c]) ∧ Below w.heap.size w w' := by
  obtain ⟨b, off, rfl, hbl, hc⟩ := hr.2 (by omega)
  obtain ⟨d0, d1, d2, d3, d4, d5, d6⟩ := RdE.at hc hk hx
  have g1 : (0 : Int) ≤ (k : Int) := by omega
  have g2 : (k : Int) < (n : Int) := by omega
  clear hc hx
  obtain ⟨w0, hw0⟩ : ∃ V, ((w.alloc (.cells #[.slice (some ⟨b, off, none⟩) n c] 43)).alloc (.cells #[.int .i64 i, .int .i64 u.1, .int .i64 u.2.1, .string u.2.2, .int .i64 v.1, .int .i64 v.2.1, .string v.2.2] 35)).alloc (.cells #[.int .i64 0, .int .i64 0, .string ⟨#[]⟩] 29) = V := ⟨_, rfl⟩
  have Bw0 : Hid (Below w.heap.size w w0) := by unfold Hid; rw [← hw0]; exact ((((Below.refl _ _).alloc (Nat.le_refl _) _).alloc (by simp) _).alloc (by simp; omega) _)
  have Ew0 : Hid (Box w0 w.heap.size 43 #[.slice (some ⟨b, off, none⟩) n c]) := by unfold Hid; rw [← hw0]; exact (((Box.new _ _ _).alloc _).alloc _)
  have Rw0 : Hid (Box w0 (w.heap.size + 1) 35 #[.int .i64 i, .int .i64 u.1, .int .i64 u.2.1, .string u.2.2, .int .i64 v.1, .int .i64 v.2.1, .string v.2.2]) := by unfold Hid; rw [← hw0]; exact ((Box.new2 _ _ _ _).alloc _)
  have Xw0 : Hid (Box w0 (w.heap.size + 2) 29 #[.int .i64 0, .int .i64 0, .string ⟨#[]⟩]) := by unfold Hid; rw [← hw0]; have := Box.new2 (w.alloc (.cells #[.slice (some ⟨b, off, none⟩) n c] 43)) (.cells #[.int .i64 i, .int .i64 u.1, .int .i64 u.2.1, .string u.2.2, .int .i64 v.1, .int .i64 v.2.1, .string v.2.2] 35) #[.int .i64 0, .int .i64 0, .string ⟨#[]⟩] 29; simpa using this
  have f0 := far6 (b := b) (o := off + k * 7) (Below.mono Bw0.out (Nat.le_refl _)) d0
  have f1 := far6 (b := b) (o := off + k * 7 + 1) (Below.mono Bw0.out (Nat.le_refl _)) d1
  have f2 := far6 (b := b) (o := off + k * 7 + 2) (Below.mono Bw0.out (Nat.le_refl _)) d2
  have f3 := far6 (b := b) (o := off + k * 7 + 3) (Below.mono Bw0.out (Nat.le_refl _)) d3
  have f4 := far6 (b := b) (o := off + k * 7 + 4) (Below.mono Bw0.out (Nat.le_refl _)) d4
  have f5 := far6 (b := b) (o := off + k * 7 + 5) (Below.mono Bw0.out (Nat.le_refl _)) d5
  have f6 := far6 (b := b) (o := off + k * 7 + 6) (Below.mono Bw0.out (Nat.le_refl _)) d6
  have bl0 : b < w0.heap.size := Nat.lt_of_lt_of_le hbl Bw0.out.size
  clear d0 d1 d2 d3 d4 d5 d6
  have ec0 : w0.cell? ⟨w.heap.size, 0, none⟩ = some (.slice (some ⟨b, off, none⟩) n c) := Ew0.out.cell 0
  have el := Ew0.out.lt
  have rc0 : w0.cell? ⟨(w.heap.size + 1), 0, none⟩ = some (.int .i64 i) := Rw0.out.cell 0
  have rc1 : w0.cell? ⟨(w.heap.size + 1), 1, none⟩ = some (.int .i64 u.1) := Rw0.out.cell 1
  have rc2 : w0.cell? ⟨(w.heap.size + 1), 2, none⟩ = some (.int .i64 u.2.1) := Rw0.out.cell 2
  have rc3 : w0.cell? ⟨(w.heap.size + 1), 3, none⟩ = some (.string u.2.2) := Rw0.out.cell 3
  have rc4 : w0.cell? ⟨(w.heap.size + 1), 4, none⟩ = some (.int .i64 v.1) := Rw0.out.cell 4
  have rc5 : w0.cell? ⟨(w.heap.size + 1), 5, none⟩ = some (.int .i64 v.2.1) := Rw0.out.cell 5
  have rc6 : w0.cell? ⟨(w.heap.size + 1), 6, none⟩ = some (.string v.2.2) := Rw0.out.cell 6
  have rl := Rw0.out.lt
  have xc0 : w0.cell? ⟨(w.heap.size + 2), 0, none⟩ = some (.int .i64 0) := Xw0.out.cell 0
  have xc1 : w0.cell? ⟨(w.heap.size + 2), 1, none⟩ = some (.int .i64 0) := Xw0.out.cell 1
  have xc2 : w0.cell? ⟨(w.heap.size + 2), 2, none⟩ = some (.string ⟨#[]⟩) := Xw0.out.cell 2
  have xl := Xw0.out.lt
  have xt0 := Xw0.out.thaw 0
  have xt1 := Xw0.out.thaw 1
  have xt2 := Xw0.out.thaw 2
  go_enter Tryd.func37, Tryd.ntmps37
  go_wp2
  have hbl9 : ∀ v0 v1 v2, Below w.heap.size w ((((w0).setCell ⟨(w.heap.size + 2), 0, none⟩ (v0)).setCell ⟨(w.heap.size + 2), 1, none⟩ (v1)).setCell ⟨(w.heap.size + 2), 2, none⟩ (v2)) := fun v0 v1 v2 => put3_below Bw0.out (by omega) v0 v1 v2
  refine ret32 Tryd.results37 rfl rfl rfl ((put3_box Xw0.out _ _ _).alloc _) ⟨?_, (hbl9 _ _ _).alloc (hbl9 _ _ _).size _⟩
  rw [E.out]
  rfl
set_option maxRecDepth 100000 in
set_option maxHeartbeats 4000000 in
theorem c_le_col (L : List EN) (a : Option Addr) (n c k : Nat) (x : EN) (i : Int) (u v : VV) (w : World) (hr : RdE w a n L) (hk : k < n) (hn : n ≤ 1048576) (hx : x = L.getD k zeroE) (h : inB x.c 0 2 = true) (o1 : (x.o == 1) = false) (o2 : (x.o == 2) = true) (q : EV) (E : Hid (q = ⟨(colE x.c i u v).k, (colE x.c i u v).n, (colE x.c i u v).t, 0⟩)) :
    Calls Tryd.prog 37 #[.agg #[.slice a n c], .int .i64 (k : Int), .agg #[.int .i64 i, .int .i64 u.1, .int .i64 u.2.1, .string u.2.2, .int .i64 v.1, .int .i64 v.2.1, .string v.2.2]] w fun e w' => e = .returned (.tuple #[.agg #[.int .i64 q.k, .int .i64 q.n, .string q.t], .int .i64 q.c]) ∧ Below w.heap.size w w' := by
  obtain ⟨b, off, rfl, hbl, hc⟩ := hr.2 (by omega)
  obtain ⟨d0, d1, d2, d3, d4, d5, d6⟩ := RdE.at hc hk hx
  have g1 : (0 : Int) ≤ (k : Int) := by omega
  have g2 : (k : Int) < (n : Int) := by omega
  clear hc hx
  obtain ⟨w0, hw0⟩ : ∃ V, ((w.alloc (.cells #[.slice (some ⟨b, off, none⟩) n c] 43)).alloc (.cells #[.int .i64 i, .int .i64 u.1, .int .i64 u.2.1, .string u.2.2, .int .i64 v.1, .int .i64 v.2.1, .string v.2.2] 35)).alloc (.cells #[.int .i64 0, .int .i64 0, .string ⟨#[]⟩] 29) = V := ⟨_, rfl⟩
  have Bw0 : Hid (Below w.heap.size w w0) := by unfold Hid; rw [← hw0]; exact ((((Below.refl _ _).alloc (Nat.le_refl _) _).alloc (by simp) _).alloc (by simp; omega) _)
  have Ew0 : Hid (Box w0 w.heap.size 43 #[.slice (some ⟨b, off, none⟩) n c]) := by unfold Hid; rw [← hw0]; exact (((Box.new _ _ _).alloc _).alloc _)
  have Rw0 : Hid (Box w0 (w.heap.size + 1) 35 #[.int .i64 i, .int .i64 u.1, .int .i64 u.2.1, .string u.2.2, .int .i64 v.1, .int .i64 v.2.1, .string v.2.2]) := by unfold Hid; rw [← hw0]; exact ((Box.new2 _ _ _ _).alloc _)
  have Xw0 : Hid (Box w0 (w.heap.size + 2) 29 #[.int .i64 0, .int .i64 0, .string ⟨#[]⟩]) := by unfold Hid; rw [← hw0]; have := Box.new2 (w.alloc (.cells #[.slice (some ⟨b, off, none⟩) n c] 43)) (.cells #[.int .i64 i, .int .i64 u.1, .int .i64 u.2.1, .string u.2.2, .int .i64 v.1, .int .i64 v.2.1, .string v.2.2] 35) #[.int .i64 0, .int .i64 0, .string ⟨#[]⟩] 29; simpa using this
  have f0 := far6 (b := b) (o := off + k * 7) (Below.mono Bw0.out (Nat.le_refl _)) d0
  have f1 := far6 (b := b) (o := off + k * 7 + 1) (Below.mono Bw0.out (Nat.le_refl _)) d1
  have f2 := far6 (b := b) (o := off + k * 7 + 2) (Below.mono Bw0.out (Nat.le_refl _)) d2
  have f3 := far6 (b := b) (o := off + k * 7 + 3) (Below.mono Bw0.out (Nat.le_refl _)) d3
  have f4 := far6 (b := b) (o := off + k * 7 + 4) (Below.mono Bw0.out (Nat.le_refl _)) d4
  have f5 := far6 (b := b) (o := off + k * 7 + 5) (Below.mono Bw0.out (Nat.le_refl _)) d5
  have f6 := far6 (b := b) (o := off + k * 7 + 6) (Below.mono Bw0.out (Nat.le_refl _)) d6
  have bl0 : b < w0.heap.size := Nat.lt_of_lt_of_le hbl Bw0.out.size
  clear d0 d1 d2 d3 d4 d5 d6
  have ec0 : w0.cell? ⟨w.heap.size, 0, none⟩ = some (.slice (some ⟨b, off, none⟩) n c) := Ew0.out.cell 0
  have el := Ew0.out.lt
  have rc0 : w0.cell? ⟨(w.heap.size + 1), 0, none⟩ = some (.int .i64 i) := Rw0.out.cell 0
  have rc1 : w0.cell? ⟨(w.heap.size + 1), 1, none⟩ = some (.int .i64 u.1) := Rw0.out.cell 1
  have rc2 : w0.cell? ⟨(w.heap.size + 1), 2, none⟩ = some (.int .i64 u.2.1) := Rw0.out.cell 2
  have rc3 : w0.cell? ⟨(w.heap.size + 1), 3, none⟩ = some (.string u.2.2) := Rw0.out.cell 3
  have rc4 : w0.cell? ⟨(w.heap.size + 1), 4, none⟩ = some (.int .i64 v.1) := Rw0.out.cell 4
  have rc5 : w0.cell? ⟨(w.heap.size + 1), 5, none⟩ = some (.int .i64 v.2.1) := Rw0.out.cell 5
  have rc6 : w0.cell? ⟨(w.heap.size + 1), 6, none⟩ = some (.string v.2.2) := Rw0.out.cell 6
  have rl := Rw0.out.lt
  have xc0 : w0.cell? ⟨(w.heap.size + 2), 0, none⟩ = some (.int .i64 0) := Xw0.out.cell 0
  have xc1 : w0.cell? ⟨(w.heap.size + 2), 1, none⟩ = some (.int .i64 0) := Xw0.out.cell 1
  have xc2 : w0.cell? ⟨(w.heap.size + 2), 2, none⟩ = some (.string ⟨#[]⟩) := Xw0.out.cell 2
  have xl := Xw0.out.lt
  have xt0 := Xw0.out.thaw 0
  have xt1 := Xw0.out.thaw 1
  have xt2 := Xw0.out.thaw 2
  go_enter Tryd.func37, Tryd.ntmps37
  go_wp2_with fail
  refine (c_colS x.c i u v (w0.alloc (.cells #[.int .i64 x.o, .int .i64 x.a, .int .i64 x.b, .int .i64 x.c, .int .i64 x.k, .int .i64 x.n, .string x.t] 121)) h).mono ?_
  rintro e w1 ⟨rfl, hb⟩
  have Bw1 : Hid (Below w.heap.size w w1) := (Bw0.out.alloc Bw0.out.size (.cells #[.int .i64 x.o, .int .i64 x.a, .int .i64 x.b, .int .i64 x.c, .int .i64 x.k, .int .i64 x.n, .string x.t] 121)).trans (hb.mono (Bw0.out.alloc Bw0.out.size (.cells #[.int .i64 x.o, .int .i64 x.a, .int .i64 x.b, .int .i64 x.c, .int .i64 x.k, .int .i64 x.n, .string x.t] 121)).size)
  have Ew1 : Hid (Box w1 w.heap.size 43 #[.slice (some ⟨b, off, none⟩) n c]) := (Ew0.out.alloc _).belowS hb
  have Rw1 : Hid (Box w1 (w.heap.size + 1) 35 #[.int .i64 i, .int .i64 u.1, .int .i64 u.2.1, .string u.2.2, .int .i64 v.1, .int .i64 v.2.1, .string v.2.2]) := (Rw0.out.alloc _).belowS hb
  have Xw1 : Hid (Box w1 (w.heap.size + 2) 29 #[.int .i64 0, .int .i64 0, .string ⟨#[]⟩]) := (Xw0.out.alloc _).belowS hb
  have Nw1 : Hid (Box w1 w0.heap.size 121 #[.int .i64 x.o, .int .i64 x.a, .int .i64 x.b, .int .i64 x.c, .int .i64 x.k, .int .i64 x.n, .string x.t]) := (Box.new w0 #[.int .i64 x.o, .int .i64 x.a, .int .i64 x.b, .int .i64 x.c, .int .i64 x.k, .int .i64 x.n, .string x.t] 121).belowS hb
  clear hb
  clear ec0 el rc0 rc1 rc2 rc3 rc4 rc5 rc6 rl xc0 xc1 xc2 xl xt0 xt1 xt2
  have xc0 : w1.cell? ⟨(w.heap.size + 2), 0, none⟩ = some (.int .i64 0) := Xw1.out.cell 0
  have xc1 : w1.cell? ⟨(w.heap.size + 2), 1, none⟩ = some (.int .i64 0) := Xw1.out.cell 1
  have xc2 : w1.cell? ⟨(w.heap.size + 2), 2, none⟩ = some (.string ⟨#[]⟩) := Xw1.out.cell 2
  have xl := Xw1.out.lt
  have xt0 := Xw1.out.thaw 0
  have xt1 := Xw1.out.thaw 1
  have xt2 := Xw1.out.thaw 2
  go_wp2
  refine ret32 Tryd.results37 rfl rfl rfl (put3_box Xw1.out _ _ _) ⟨?_, put3_below Bw1.out (by omega) _ _ _⟩
  rw [E.out]
  rfl
set_option maxRecDepth 100000 in
set_option maxHeartbeats 4000000 in
theorem c_le_err (L : List EN) (a : Option Addr) (n c k : Nat) (x : EN) (i : Int) (u v : VV) (w : World) (hr : RdE w a n L) (hk : k < n) (hn : n ≤ 1048576) (hx : x = L.getD k zeroE) (r : EV) (IH : Hid (∀ W, Below w.heap.size w W → Calls Tryd.prog 37 #[.agg #[.slice a n c], .int .i64 x.a, .agg #[.int .i64 i, .int .i64 u.1, .int .i64 u.2.1, .string u.2.2, .int .i64 v.1, .int .i64 v.2.1, .string v.2.2]] W fun e w' => e = .returned (.tuple #[.agg #[.int .i64 r.k, .int .i64 r.n, .string r.t], .int .i64 r.c]) ∧ Below W.heap.size W w')) (o1 : (x.o == 1) = false) (o2 : (x.o == 2) = false) (cr : (r.c != 0) = true) (q : EV) (E : Hid (q = errE r.c)) :
    Calls Tryd.prog 37 #[.agg #[.slice a n c], .int .i64 (k : Int), .agg #[.int .i64 i, .int .i64 u.1, .int .i64 u.2.1, .string u.2.2, .int .i64 v.1, .int .i64 v.2.1, .string v.2.2]] w fun e w' => e = .returned (.tuple #[.agg #[.int .i64 q.k, .int .i64 q.n, .string q.t], .int .i64 q.c]) ∧ Below w.heap.size w w' := by
  obtain ⟨b, off, rfl, hbl, hc⟩ := hr.2 (by omega)
  obtain ⟨d0, d1, d2, d3, d4, d5, d6⟩ := RdE.at hc hk hx
  have g1 : (0 : Int) ≤ (k : Int) := by omega
  have g2 : (k : Int) < (n : Int) := by omega
  clear hc hx
  obtain ⟨w0, hw0⟩ : ∃ V, ((w.alloc (.cells #[.slice (some ⟨b, off, none⟩) n c] 43)).alloc (.cells #[.int .i64 i, .int .i64 u.1, .int .i64 u.2.1, .string u.2.2, .int .i64 v.1, .int .i64 v.2.1, .string v.2.2] 35)).alloc (.cells #[.int .i64 0, .int .i64 0, .string ⟨#[]⟩] 29) = V := ⟨_, rfl⟩
  have Bw0 : Hid (Below w.heap.size w w0) := by unfold Hid; rw [← hw0]; exact ((((Below.refl _ _).alloc (Nat.le_refl _) _).alloc (by simp) _).alloc (by simp; omega) _)
  have Ew0 : Hid (Box w0 w.heap.size 43 #[.slice (some ⟨b, off, none⟩) n c]) := by unfold Hid; rw [← hw0]; exact (((Box.new _ _ _).alloc _).alloc _)
  have Rw0 : Hid (Box w0 (w.heap.size + 1) 35 #[.int .i64 i, .int .i64 u.1, .int .i64 u.2.1, .string u.2.2, .int .i64 v.1, .int .i64 v.2.1, .string v.2.2]) := by unfold Hid; rw [← hw0]; exact ((Box.new2 _ _ _ _).alloc _)
  have Xw0 : Hid (Box w0 (w.heap.size + 2) 29 #[.int .i64 0, .int .i64 0, .string ⟨#[]⟩]) := by unfold Hid; rw [← hw0]; have := Box.new2 (w.alloc (.cells #[.slice (some ⟨b, off, none⟩) n c] 43)) (.cells #[.int .i64 i, .int .i64 u.1, .int .i64 u.2.1, .string u.2.2, .int .i64 v.1, .int .i64 v.2.1, .string v.2.2] 35) #[.int .i64 0, .int .i64 0, .string ⟨#[]⟩] 29; simpa using this
  have f0 := far6 (b := b) (o := off + k * 7) (Below.mono Bw0.out (Nat.le_refl _)) d0
  have f1 := far6 (b := b) (o := off + k * 7 + 1) (Below.mono Bw0.out (Nat.le_refl _)) d1
  have f2 := far6 (b := b) (o := off + k * 7 + 2) (Below.mono Bw0.out (Nat.le_refl _)) d2
  have f3 := far6 (b := b) (o := off + k * 7 + 3) (Below.mono Bw0.out (Nat.le_refl _)) d3
  have f4 := far6 (b := b) (o := off + k * 7 + 4) (Below.mono Bw0.out (Nat.le_refl _)) d4
  have f5 := far6 (b := b) (o := off + k * 7 + 5) (Below.mono Bw0.out (Nat.le_refl _)) d5
  have f6 := far6 (b := b) (o := off + k * 7 + 6) (Below.mono Bw0.out (Nat.le_refl _)) d6
  have bl0 : b < w0.heap.size := Nat.lt_of_lt_of_le hbl Bw0.out.size
  clear d0 d1 d2 d3 d4 d5 d6
  have ec0 : w0.cell? ⟨w.heap.size, 0, none⟩ = some (.slice (some ⟨b, off, none⟩) n c) := Ew0.out.cell 0
  have el := Ew0.out.lt
  have rc0 : w0.cell? ⟨(w.heap.size + 1), 0, none⟩ = some (.int .i64 i) := Rw0.out.cell 0
  have rc1 : w0.cell? ⟨(w.heap.size + 1), 1, none⟩ = some (.int .i64 u.1) := Rw0.out.cell 1
  have rc2 : w0.cell? ⟨(w.heap.size + 1), 2, none⟩ = some (.int .i64 u.2.1) := Rw0.out.cell 2
  have rc3 : w0.cell? ⟨(w.heap.size + 1), 3, none⟩ = some (.string u.2.2) := Rw0.out.cell 3
  have rc4 : w0.cell? ⟨(w.heap.size + 1), 4, none⟩ = some (.int .i64 v.1) := Rw0.out.cell 4
  have rc5 : w0.cell? ⟨(w.heap.size + 1), 5, none⟩ = some (.int .i64 v.2.1) := Rw0.out.cell 5
  have rc6 : w0.cell? ⟨(w.heap.size + 1), 6, none⟩ = some (.string v.2.2) := Rw0.out.cell 6
  have rl := Rw0.out.lt
  have xc0 : w0.cell? ⟨(w.heap.size + 2), 0, none⟩ = some (.int .i64 0) := Xw0.out.cell 0
  have xc1 : w0.cell? ⟨(w.heap.size + 2), 1, none⟩ = some (.int .i64 0) := Xw0.out.cell 1
  have xc2 : w0.cell? ⟨(w.heap.size + 2), 2, none⟩ = some (.string ⟨#[]⟩) := Xw0.out.cell 2
  have xl := Xw0.out.lt
  have xt0 := Xw0.out.thaw 0
  have xt1 := Xw0.out.thaw 1
  have xt2 := Xw0.out.thaw 2
  go_enter Tryd.func37, Tryd.ntmps37
  go_wp2_with fail
  refine (IH.out (w0.alloc (.cells #[.int .i64 x.o, .int .i64 x.a, .int .i64 x.b, .int .i64 x.c, .int .i64 x.k, .int .i64 x.n, .string x.t] 121)) ((Bw0.out.alloc Bw0.out.size _))).mono ?_
  rintro e w1 ⟨rfl, hb⟩
  have Bw1 : Hid (Below w.heap.size w w1) := (Bw0.out.alloc Bw0.out.size (.cells #[.int .i64 x.o, .int .i64 x.a, .int .i64 x.b, .int .i64 x.c, .int .i64 x.k, .int .i64 x.n, .string x.t] 121)).trans (hb.mono (Bw0.out.alloc Bw0.out.size (.cells #[.int .i64 x.o, .int .i64 x.a, .int .i64 x.b, .int .i64 x.c, .int .i64 x.k, .int .i64 x.n, .string x.t] 121)).size)
  have Ew1 : Hid (Box w1 w.heap.size 43 #[.slice (some ⟨b, off, none⟩) n c]) := (Ew0.out.alloc _).belowS hb
  have Rw1 : Hid (Box w1 (w.heap.size + 1) 35 #[.int .i64 i, .int .i64 u.1, .int .i64 u.2.1, .string u.2.2, .int .i64 v.1, .int .i64 v.2.1, .string v.2.2]) := (Rw0.out.alloc _).belowS hb
  have Xw1 : Hid (Box w1 (w.heap.size + 2) 29 #[.int .i64 0, .int .i64 0, .string ⟨#[]⟩]) := (Xw0.out.alloc _).belowS hb
  have Nw1 : Hid (Box w1 w0.heap.size 121 #[.int .i64 x.o, .int .i64 x.a, .int .i64 x.b, .int .i64 x.c, .int .i64 x.k, .int .i64 x.n, .string x.t]) := (Box.new w0 #[.int .i64 x.o, .int .i64 x.a, .int .i64 x.b, .int .i64 x.c, .int .i64 x.k, .int .i64 x.n, .string x.t] 121).belowS hb
  clear hb
  clear ec0 el rc0 rc1 rc2 rc3 rc4 rc5 rc6 rl xc0 xc1 xc2 xl xt0 xt1 xt2
  have ec0 : w1.cell? ⟨w.heap.size, 0, none⟩ = some (.slice (some ⟨b, off, none⟩) n c) := Ew1.out.cell 0
  have el := Ew1.out.lt
  have rc0 : w1.cell? ⟨(w.heap.size + 1), 0, none⟩ = some (.int .i64 i) := Rw1.out.cell 0
  have rc1 : w1.cell? ⟨(w.heap.size + 1), 1, none⟩ = some (.int .i64 u.1) := Rw1.out.cell 1
  have rc2 : w1.cell? ⟨(w.heap.size + 1), 2, none⟩ = some (.int .i64 u.2.1) := Rw1.out.cell 2
  have rc3 : w1.cell? ⟨(w.heap.size + 1), 3, none⟩ = some (.string u.2.2) := Rw1.out.cell 3
  have rc4 : w1.cell? ⟨(w.heap.size + 1), 4, none⟩ = some (.int .i64 v.1) := Rw1.out.cell 4
  have rc5 : w1.cell? ⟨(w.heap.size + 1), 5, none⟩ = some (.int .i64 v.2.1) := Rw1.out.cell 5
  have rc6 : w1.cell? ⟨(w.heap.size + 1), 6, none⟩ = some (.string v.2.2) := Rw1.out.cell 6
  have rl := Rw1.out.lt
  have xc0 : w1.cell? ⟨(w.heap.size + 2), 0, none⟩ = some (.int .i64 0) := Xw1.out.cell 0
  have xc1 : w1.cell? ⟨(w.heap.size + 2), 1, none⟩ = some (.int .i64 0) := Xw1.out.cell 1
  have xc2 : w1.cell? ⟨(w.heap.size + 2), 2, none⟩ = some (.string ⟨#[]⟩) := Xw1.out.cell 2
  have xl := Xw1.out.lt
  have xt0 := Xw1.out.thaw 0
  have xt1 := Xw1.out.thaw 1
  have xt2 := Xw1.out.thaw 2
  have nc0 : w1.cell? ⟨w0.heap.size, 0, none⟩ = some (.int .i64 x.o) := Nw1.out.cell 0
  have nc1 : w1.cell? ⟨w0.heap.size, 1, none⟩ = some (.int .i64 x.a) := Nw1.out.cell 1
  have nc2 : w1.cell? ⟨w0.heap.size, 2, none⟩ = some (.int .i64 x.b) := Nw1.out.cell 2
  have nc3 : w1.cell? ⟨w0.heap.size, 3, none⟩ = some (.int .i64 x.c) := Nw1.out.cell 3
  have nc4 : w1.cell? ⟨w0.heap.size, 4, none⟩ = some (.int .i64 x.k) := Nw1.out.cell 4
  have nc5 : w1.cell? ⟨w0.heap.size, 5, none⟩ = some (.int .i64 x.n) := Nw1.out.cell 5
  have nc6 : w1.cell? ⟨w0.heap.size, 6, none⟩ = some (.string x.t) := Nw1.out.cell 6
  have nl := Nw1.out.lt
  go_wp2
  have hbl9 : ∀ v0 v1 v2, Below w.heap.size w ((((w1).setCell ⟨(w.heap.size + 2), 0, none⟩ (v0)).setCell ⟨(w.heap.size + 2), 1, none⟩ (v1)).setCell ⟨(w.heap.size + 2), 2, none⟩ (v2)) := fun v0 v1 v2 => put3_below Bw1.out (by omega) v0 v1 v2
  refine ret32 Tryd.results37 rfl rfl rfl ((put3_box Xw1.out _ _ _).alloc _) ⟨?_, (hbl9 _ _ _).alloc (hbl9 _ _ _).size _⟩
  rw [E.out]
  rfl
set_option maxRecDepth 100000 in
set_option maxHeartbeats 4000000 in
theorem c_le_una (L : List EN) (a : Option Addr) (n c k : Nat) (x : EN) (i : Int) (u v : VV) (w : World) (hr : RdE w a n L) (hk : k < n) (hn : n ≤ 1048576) (hx : x = L.getD k zeroE) (r : EV) (IH : Hid (∀ W, Below w.heap.size w W → Calls Tryd.prog 37 #[.agg #[.slice a n c], .int .i64 x.a, .agg #[.int .i64 i, .int .i64 u.1, .int .i64 u.2.1, .string u.2.2, .int .i64 v.1, .int .i64 v.2.1, .string v.2.2]] W fun e w' => e = .returned (.tuple #[.agg #[.int .i64 r.k, .int .i64 r.n, .string r.t], .int .i64 r.c]) ∧ Below W.heap.size W w')) (vr : valB r.k r.n r.t = true) (o1 : (x.o == 1) = false) (o2 : (x.o == 2) = false) (cr : (r.c != 0) = false) (l5 : decide (x.o ≤ 5) = true) (q : EV) (E : Hid (q = unaE x.o r.k r.n)) :
    Calls Tryd.prog 37 #[.agg #[.slice a n c], .int .i64 (k : Int), .agg #[.int .i64 i, .int .i64 u.1, .int .i64 u.2.1, .string u.2.2, .int .i64 v.1, .int .i64 v.2.1, .string v.2.2]] w fun e w' => e = .returned (.tuple #[.agg #[.int .i64 q.k, .int .i64 q.n, .string q.t], .int .i64 q.c]) ∧ Below w.heap.size w w' := by
  obtain ⟨b, off, rfl, hbl, hc⟩ := hr.2 (by omega)
  obtain ⟨d0, d1, d2, d3, d4, d5, d6⟩ := RdE.at hc hk hx
  have g1 : (0 : Int) ≤ (k : Int) := by omega
  have g2 : (k : Int) < (n : Int) := by omega
  clear hc hx
  obtain ⟨w0, hw0⟩ : ∃ V, ((w.alloc (.cells #[.slice (some ⟨b, off, none⟩) n c] 43)).alloc (.cells #[.int .i64 i, .int .i64 u.1, .int .i64 u.2.1, .string u.2.2, .int .i64 v.1, .int .i64 v.2.1, .string v.2.2] 35)).alloc (.cells #[.int .i64 0, .int .i64 0, .string ⟨#[]⟩] 29) = V := ⟨_, rfl⟩
  have Bw0 : Hid (Below w.heap.size w w0) := by unfold Hid; rw [← hw0]; exact ((((Below.refl _ _).alloc (Nat.le_refl _) _).alloc (by simp) _).alloc (by simp; omega) _)
  have Ew0 : Hid (Box w0 w.heap.size 43 #[.slice (some ⟨b, off, none⟩) n c]) := by unfold Hid; rw [← hw0]; exact (((Box.new _ _ _).alloc _).alloc _)
  have Rw0 : Hid (Box w0 (w.heap.size + 1) 35 #[.int .i64 i, .int .i64 u.1, .int .i64 u.2.1, .string u.2.2, .int .i64 v.1, .int .i64 v.2.1, .string v.2.2]) := by unfold Hid; rw [← hw0]; exact ((Box.new2 _ _ _ _).alloc _)
  have Xw0 : Hid (Box w0 (w.heap.size + 2) 29 #[.int .i64 0, .int .i64 0, .string ⟨#[]⟩]) := by unfold Hid; rw [← hw0]; have := Box.new2 (w.alloc (.cells #[.slice (some ⟨b, off, none⟩) n c] 43)) (.cells #[.int .i64 i, .int .i64 u.1, .int .i64 u.2.1, .string u.2.2, .int .i64 v.1, .int .i64 v.2.1, .string v.2.2] 35) #[.int .i64 0, .int .i64 0, .string ⟨#[]⟩] 29; simpa using this
  have f0 := far6 (b := b) (o := off + k * 7) (Below.mono Bw0.out (Nat.le_refl _)) d0
  have f1 := far6 (b := b) (o := off + k * 7 + 1) (Below.mono Bw0.out (Nat.le_refl _)) d1
  have f2 := far6 (b := b) (o := off + k * 7 + 2) (Below.mono Bw0.out (Nat.le_refl _)) d2
  have f3 := far6 (b := b) (o := off + k * 7 + 3) (Below.mono Bw0.out (Nat.le_refl _)) d3
  have f4 := far6 (b := b) (o := off + k * 7 + 4) (Below.mono Bw0.out (Nat.le_refl _)) d4
  have f5 := far6 (b := b) (o := off + k * 7 + 5) (Below.mono Bw0.out (Nat.le_refl _)) d5
  have f6 := far6 (b := b) (o := off + k * 7 + 6) (Below.mono Bw0.out (Nat.le_refl _)) d6
  have bl0 : b < w0.heap.size := Nat.lt_of_lt_of_le hbl Bw0.out.size
  clear d0 d1 d2 d3 d4 d5 d6
  have ec0 : w0.cell? ⟨w.heap.size, 0, none⟩ = some (.slice (some ⟨b, off, none⟩) n c) := Ew0.out.cell 0
  have el := Ew0.out.lt
  have rc0 : w0.cell? ⟨(w.heap.size + 1), 0, none⟩ = some (.int .i64 i) := Rw0.out.cell 0
  have rc1 : w0.cell? ⟨(w.heap.size + 1), 1, none⟩ = some (.int .i64 u.1) := Rw0.out.cell 1
  have rc2 : w0.cell? ⟨(w.heap.size + 1), 2, none⟩ = some (.int .i64 u.2.1) := Rw0.out.cell 2
  have rc3 : w0.cell? ⟨(w.heap.size + 1), 3, none⟩ = some (.string u.2.2) := Rw0.out.cell 3
  have rc4 : w0.cell? ⟨(w.heap.size + 1), 4, none⟩ = some (.int .i64 v.1) := Rw0.out.cell 4
  have rc5 : w0.cell? ⟨(w.heap.size + 1), 5, none⟩ = some (.int .i64 v.2.1) := Rw0.out.cell 5
  have rc6 : w0.cell? ⟨(w.heap.size + 1), 6, none⟩ = some (.string v.2.2) := Rw0.out.cell 6
  have rl := Rw0.out.lt
  have xc0 : w0.cell? ⟨(w.heap.size + 2), 0, none⟩ = some (.int .i64 0) := Xw0.out.cell 0
  have xc1 : w0.cell? ⟨(w.heap.size + 2), 1, none⟩ = some (.int .i64 0) := Xw0.out.cell 1
  have xc2 : w0.cell? ⟨(w.heap.size + 2), 2, none⟩ = some (.string ⟨#[]⟩) := Xw0.out.cell 2
  have xl := Xw0.out.lt
  have xt0 := Xw0.out.thaw 0
  have xt1 := Xw0.out.thaw 1
  have xt2 := Xw0.out.thaw 2
  go_enter Tryd.func37, Tryd.ntmps37
  go_wp2_with fail
  refine (IH.out (w0.alloc (.cells #[.int .i64 x.o, .int .i64 x.a, .int .i64 x.b, .int .i64 x.c, .int .i64 x.k, .int .i64 x.n, .string x.t] 121)) ((Bw0.out.alloc Bw0.out.size _))).mono ?_
  rintro e w1 ⟨rfl, hb⟩
  have Bw1 : Hid (Below w.heap.size w w1) := (Bw0.out.alloc Bw0.out.size (.cells #[.int .i64 x.o, .int .i64 x.a, .int .i64 x.b, .int .i64 x.c, .int .i64 x.k, .int .i64 x.n, .string x.t] 121)).trans (hb.mono (Bw0.out.alloc Bw0.out.size (.cells #[.int .i64 x.o, .int .i64 x.a, .int .i64 x.b, .int .i64 x.c, .int .i64 x.k, .int .i64 x.n, .string x.t] 121)).size)
  have Ew1 : Hid (Box w1 w.heap.size 43 #[.slice (some ⟨b, off, none⟩) n c]) := (Ew0.out.alloc _).belowS hb
  have Rw1 : Hid (Box w1 (w.heap.size + 1) 35 #[.int .i64 i, .int .i64 u.1, .int .i64 u.2.1, .string u.2.2, .int .i64 v.1, .int .i64 v.2.1, .string v.2.2]) := (Rw0.out.alloc _).belowS hb
  have Xw1 : Hid (Box w1 (w.heap.size + 2) 29 #[.int .i64 0, .int .i64 0, .string ⟨#[]⟩]) := (Xw0.out.alloc _).belowS hb
  have Nw1 : Hid (Box w1 w0.heap.size 121 #[.int .i64 x.o, .int .i64 x.a, .int .i64 x.b, .int .i64 x.c, .int .i64 x.k, .int .i64 x.n, .string x.t]) := (Box.new w0 #[.int .i64 x.o, .int .i64 x.a, .int .i64 x.b, .int .i64 x.c, .int .i64 x.k, .int .i64 x.n, .string x.t] 121).belowS hb
  clear hb
  clear ec0 el rc0 rc1 rc2 rc3 rc4 rc5 rc6 rl xc0 xc1 xc2 xl xt0 xt1 xt2
  have ec0 : w1.cell? ⟨w.heap.size, 0, none⟩ = some (.slice (some ⟨b, off, none⟩) n c) := Ew1.out.cell 0
  have el := Ew1.out.lt
  have rc0 : w1.cell? ⟨(w.heap.size + 1), 0, none⟩ = some (.int .i64 i) := Rw1.out.cell 0
  have rc1 : w1.cell? ⟨(w.heap.size + 1), 1, none⟩ = some (.int .i64 u.1) := Rw1.out.cell 1
  have rc2 : w1.cell? ⟨(w.heap.size + 1), 2, none⟩ = some (.int .i64 u.2.1) := Rw1.out.cell 2
  have rc3 : w1.cell? ⟨(w.heap.size + 1), 3, none⟩ = some (.string u.2.2) := Rw1.out.cell 3
  have rc4 : w1.cell? ⟨(w.heap.size + 1), 4, none⟩ = some (.int .i64 v.1) := Rw1.out.cell 4
  have rc5 : w1.cell? ⟨(w.heap.size + 1), 5, none⟩ = some (.int .i64 v.2.1) := Rw1.out.cell 5
  have rc6 : w1.cell? ⟨(w.heap.size + 1), 6, none⟩ = some (.string v.2.2) := Rw1.out.cell 6
  have rl := Rw1.out.lt
  have xc0 : w1.cell? ⟨(w.heap.size + 2), 0, none⟩ = some (.int .i64 0) := Xw1.out.cell 0
  have xc1 : w1.cell? ⟨(w.heap.size + 2), 1, none⟩ = some (.int .i64 0) := Xw1.out.cell 1
  have xc2 : w1.cell? ⟨(w.heap.size + 2), 2, none⟩ = some (.string ⟨#[]⟩) := Xw1.out.cell 2
  have xl := Xw1.out.lt
  have xt0 := Xw1.out.thaw 0
  have xt1 := Xw1.out.thaw 1
  have xt2 := Xw1.out.thaw 2
  have nc0 : w1.cell? ⟨w0.heap.size, 0, none⟩ = some (.int .i64 x.o) := Nw1.out.cell 0
  have nc1 : w1.cell? ⟨w0.heap.size, 1, none⟩ = some (.int .i64 x.a) := Nw1.out.cell 1
  have nc2 : w1.cell? ⟨w0.heap.size, 2, none⟩ = some (.int .i64 x.b) := Nw1.out.cell 2
  have nc3 : w1.cell? ⟨w0.heap.size, 3, none⟩ = some (.int .i64 x.c) := Nw1.out.cell 3
  have nc4 : w1.cell? ⟨w0.heap.size, 4, none⟩ = some (.int .i64 x.k) := Nw1.out.cell 4
  have nc5 : w1.cell? ⟨w0.heap.size, 5, none⟩ = some (.int .i64 x.n) := Nw1.out.cell 5
  have nc6 : w1.cell? ⟨w0.heap.size, 6, none⟩ = some (.string x.t) := Nw1.out.cell 6
  have nl := Nw1.out.lt
  go_wp2_with fail
  refine (c_uS x.o r.k r.n r.t (w1.alloc (.cells #[.int .i64 r.k, .int .i64 r.n, .string r.t] 29)) vr).mono ?_
  rintro e w2 ⟨rfl, hb⟩
  have Bw2 : Hid (Below w.heap.size w w2) := (Bw1.out.alloc Bw1.out.size (.cells #[.int .i64 r.k, .int .i64 r.n, .string r.t] 29)).trans (hb.mono (Bw1.out.alloc Bw1.out.size (.cells #[.int .i64 r.k, .int .i64 r.n, .string r.t] 29)).size)
  have Ew2 : Hid (Box w2 w.heap.size 43 #[.slice (some ⟨b, off, none⟩) n c]) := (Ew1.out.alloc _).belowS hb
  have Rw2 : Hid (Box w2 (w.heap.size + 1) 35 #[.int .i64 i, .int .i64 u.1, .int .i64 u.2.1, .string u.2.2, .int .i64 v.1, .int .i64 v.2.1, .string v.2.2]) := (Rw1.out.alloc _).belowS hb
  have Xw2 : Hid (Box w2 (w.heap.size + 2) 29 #[.int .i64 0, .int .i64 0, .string ⟨#[]⟩]) := (Xw1.out.alloc _).belowS hb
  have Nw2 : Hid (Box w2 w0.heap.size 121 #[.int .i64 x.o, .int .i64 x.a, .int .i64 x.b, .int .i64 x.c, .int .i64 x.k, .int .i64 x.n, .string x.t]) := (Nw1.out.alloc _).belowS hb
  have Yw2 : Hid (Box w2 w1.heap.size 29 #[.int .i64 r.k, .int .i64 r.n, .string r.t]) := (Box.new w1 #[.int .i64 r.k, .int .i64 r.n, .string r.t] 29).belowS hb
  clear hb
  clear ec0 el rc0 rc1 rc2 rc3 rc4 rc5 rc6 rl xc0 xc1 xc2 xl xt0 xt1 xt2 nc0 nc1 nc2 nc3 nc4 nc5 nc6 nl
  have xc0 : w2.cell? ⟨(w.heap.size + 2), 0, none⟩ = some (.int .i64 0) := Xw2.out.cell 0
  have xc1 : w2.cell? ⟨(w.heap.size + 2), 1, none⟩ = some (.int .i64 0) := Xw2.out.cell 1
  have xc2 : w2.cell? ⟨(w.heap.size + 2), 2, none⟩ = some (.string ⟨#[]⟩) := Xw2.out.cell 2
  have xl := Xw2.out.lt
  have xt0 := Xw2.out.thaw 0
  have xt1 := Xw2.out.thaw 1
  have xt2 := Xw2.out.thaw 2
  go_wp2
  refine ret32 Tryd.results37 rfl rfl rfl (put3_box Xw2.out _ _ _) ⟨?_, put3_below Bw2.out (by omega) _ _ _⟩
  rw [E.out]
  rfl
set_option maxRecDepth 100000 in
set_option maxHeartbeats 4000000 in
theorem c_le_and (L : List EN) (a : Option Addr) (n c k : Nat) (x : EN) (i : Int) (u v : VV) (w : World) (hr : RdE w a n L) (hk : k < n) (hn : n ≤ 1048576) (hx : x = L.getD k zeroE) (r : EV) (IH : Hid (∀ W, Below w.heap.size w W → Calls Tryd.prog 37 #[.agg #[.slice a n c], .int .i64 x.a, .agg #[.int .i64 i, .int .i64 u.1, .int .i64 u.2.1, .string u.2.2, .int .i64 v.1, .int .i64 v.2.1, .string v.2.2]] W fun e w' => e = .returned (.tuple #[.agg #[.int .i64 r.k, .int .i64 r.n, .string r.t], .int .i64 r.c]) ∧ Below W.heap.size W w')) (o1 : (x.o == 1) = false) (o2 : (x.o == 2) = false) (cr : (r.c != 0) = false) (l5 : decide (x.o ≤ 5) = false) (o12 : (x.o == 12) = true) (k1 : (r.k == 1) = true) (n0 : (r.n == 0) = true) (q : EV) (E : Hid (q = numE 0)) :
    Calls Tryd.prog 37 #[.agg #[.slice a n c], .int .i64 (k : Int), .agg #[.int .i64 i, .int .i64 u.1, .int .i64 u.2.1, .string u.2.2, .int .i64 v.1, .int .i64 v.2.1, .string v.2.2]] w fun e w' => e = .returned (.tuple #[.agg #[.int .i64 q.k, .int .i64 q.n, .string q.t], .int .i64 q.c]) ∧ Below w.heap.size w w' := by
  obtain ⟨b, off, rfl, hbl, hc⟩ := hr.2 (by omega)
  obtain ⟨d0, d1, d2, d3, d4, d5, d6⟩ := RdE.at hc hk hx
  have g1 : (0 : Int) ≤ (k : Int) := by omega
  have g2 : (k : Int) < (n : Int) := by omega
  clear hc hx
  obtain ⟨w0, hw0⟩ : ∃ V, ((w.alloc (.cells #[.slice (some ⟨b, off, none⟩) n c] 43)).alloc (.cells #[.int .i64 i, .int .i64 u.1, .int .i64 u.2.1, .string u.2.2, .int .i64 v.1, .int .i64 v.2.1, .string v.2.2] 35)).alloc (.cells #[.int .i64 0, .int .i64 0, .string ⟨#[]⟩] 29) = V := ⟨_, rfl⟩
  have Bw0 : Hid (Below w.heap.size w w0) := by unfold Hid; rw [← hw0]; exact ((((Below.refl _ _).alloc (Nat.le_refl _) _).alloc (by simp) _).alloc (by simp; omega) _)
  have Ew0 : Hid (Box w0 w.heap.size 43 #[.slice (some ⟨b, off, none⟩) n c]) := by unfold Hid; rw [← hw0]; exact (((Box.new _ _ _).alloc _).alloc _)
  have Rw0 : Hid (Box w0 (w.heap.size + 1) 35 #[.int .i64 i, .int .i64 u.1, .int .i64 u.2.1, .string u.2.2, .int .i64 v.1, .int .i64 v.2.1, .string v.2.2]) := by unfold Hid; rw [← hw0]; exact ((Box.new2 _ _ _ _).alloc _)
  have Xw0 : Hid (Box w0 (w.heap.size + 2) 29 #[.int .i64 0, .int .i64 0, .string ⟨#[]⟩]) := by unfold Hid; rw [← hw0]; have := Box.new2 (w.alloc (.cells #[.slice (some ⟨b, off, none⟩) n c] 43)) (.cells #[.int .i64 i, .int .i64 u.1, .int .i64 u.2.1, .string u.2.2, .int .i64 v.1, .int .i64 v.2.1, .string v.2.2] 35) #[.int .i64 0, .int .i64 0, .string ⟨#[]⟩] 29; simpa using this
  have f0 := far6 (b := b) (o := off + k * 7) (Below.mono Bw0.out (Nat.le_refl _)) d0
  have f1 := far6 (b := b) (o := off + k * 7 + 1) (Below.mono Bw0.out (Nat.le_refl _)) d1
  have f2 := far6 (b := b) (o := off + k * 7 + 2) (Below.mono Bw0.out (Nat.le_refl _)) d2
  have f3 := far6 (b := b) (o := off + k * 7 + 3) (Below.mono Bw0.out (Nat.le_refl _)) d3
  have f4 := far6 (b := b) (o := off + k * 7 + 4) (Below.mono Bw0.out (Nat.le_refl _)) d4
  have f5 := far6 (b := b) (o := off + k * 7 + 5) (Below.mono Bw0.out (Nat.le_refl _)) d5
  have f6 := far6 (b := b) (o := off + k * 7 + 6) (Below.mono Bw0.out (Nat.le_refl _)) d6
  have bl0 : b < w0.heap.size := Nat.lt_of_lt_of_le hbl Bw0.out.size
  clear d0 d1 d2 d3 d4 d5 d6
  have ec0 : w0.cell? ⟨w.heap.size, 0, none⟩ = some (.slice (some ⟨b, off, none⟩) n c) := Ew0.out.cell 0
  have el := Ew0.out.lt
  have rc0 : w0.cell? ⟨(w.heap.size + 1), 0, none⟩ = some (.int .i64 i) := Rw0.out.cell 0
  have rc1 : w0.cell? ⟨(w.heap.size + 1), 1, none⟩ = some (.int .i64 u.1) := Rw0.out.cell 1
  have rc2 : w0.cell? ⟨(w.heap.size + 1), 2, none⟩ = some (.int .i64 u.2.1) := Rw0.out.cell 2
  have rc3 : w0.cell? ⟨(w.heap.size + 1), 3, none⟩ = some (.string u.2.2) := Rw0.out.cell 3
  have rc4 : w0.cell? ⟨(w.heap.size + 1), 4, none⟩ = some (.int .i64 v.1) := Rw0.out.cell 4
  have rc5 : w0.cell? ⟨(w.heap.size + 1), 5, none⟩ = some (.int .i64 v.2.1) := Rw0.out.cell 5
  have rc6 : w0.cell? ⟨(w.heap.size + 1), 6, none⟩ = some (.string v.2.2) := Rw0.out.cell 6
  have rl := Rw0.out.lt
  have xc0 : w0.cell? ⟨(w.heap.size + 2), 0, none⟩ = some (.int .i64 0) := Xw0.out.cell 0
  have xc1 : w0.cell? ⟨(w.heap.size + 2), 1, none⟩ = some (.int .i64 0) := Xw0.out.cell 1
  have xc2 : w0.cell? ⟨(w.heap.size + 2), 2, none⟩ = some (.string ⟨#[]⟩) := Xw0.out.cell 2
  have xl := Xw0.out.lt
  have xt0 := Xw0.out.thaw 0
  have xt1 := Xw0.out.thaw 1
  have xt2 := Xw0.out.thaw 2
  go_enter Tryd.func37, Tryd.ntmps37
  go_wp2_with fail
  refine (IH.out (w0.alloc (.cells #[.int .i64 x.o, .int .i64 x.a, .int .i64 x.b, .int .i64 x.c, .int .i64 x.k, .int .i64 x.n, .string x.t] 121)) ((Bw0.out.alloc Bw0.out.size _))).mono ?_
  rintro e w1 ⟨rfl, hb⟩
  have Bw1 : Hid (Below w.heap.size w w1) := (Bw0.out.alloc Bw0.out.size (.cells #[.int .i64 x.o, .int .i64 x.a, .int .i64 x.b, .int .i64 x.c, .int .i64 x.k, .int .i64 x.n, .string x.t] 121)).trans (hb.mono (Bw0.out.alloc Bw0.out.size (.cells #[.int .i64 x.o, .int .i64 x.a, .int .i64 x.b, .int .i64 x.c, .int .i64 x.k, .int .i64 x.n, .string x.t] 121)).size)
  have Ew1 : Hid (Box w1 w.heap.size 43 #[.slice (some ⟨b, off, none⟩) n c]) := (Ew0.out.alloc _).belowS hb
  have Rw1 : Hid (Box w1 (w.heap.size + 1) 35 #[.int .i64 i, .int .i64 u.1, .int .i64 u.2.1, .string u.2.2, .int .i64 v.1, .int .i64 v.2.1, .string v.2.2]) := (Rw0.out.alloc _).belowS hb
  have Xw1 : Hid (Box w1 (w.heap.size + 2) 29 #[.int .i64 0, .int .i64 0, .string ⟨#[]⟩]) := (Xw0.out.alloc _).belowS hb
  have Nw1 : Hid (Box w1 w0.heap.size 121 #[.int .i64 x.o, .int .i64 x.a, .int .i64 x.b, .int .i64 x.c, .int .i64 x.k, .int .i64 x.n, .string x.t]) := (Box.new w0 #[.int .i64 x.o, .int .i64 x.a, .int .i64 x.b, .int .i64 x.c, .int .i64 x.k, .int .i64 x.n, .string x.t] 121).belowS hb
  clear hb
  clear ec0 el rc0 rc1 rc2 rc3 rc4 rc5 rc6 rl xc0 xc1 xc2 xl xt0 xt1 xt2
  have ec0 : w1.cell? ⟨w.heap.size, 0, none⟩ = some (.slice (some ⟨b, off, none⟩) n c) := Ew1.out.cell 0
  have el := Ew1.out.lt
  have rc0 : w1.cell? ⟨(w.heap.size + 1), 0, none⟩ = some (.int .i64 i) := Rw1.out.cell 0
  have rc1 : w1.cell? ⟨(w.heap.size + 1), 1, none⟩ = some (.int .i64 u.1) := Rw1.out.cell 1
  have rc2 : w1.cell? ⟨(w.heap.size + 1), 2, none⟩ = some (.int .i64 u.2.1) := Rw1.out.cell 2
  have rc3 : w1.cell? ⟨(w.heap.size + 1), 3, none⟩ = some (.string u.2.2) := Rw1.out.cell 3
  have rc4 : w1.cell? ⟨(w.heap.size + 1), 4, none⟩ = some (.int .i64 v.1) := Rw1.out.cell 4
  have rc5 : w1.cell? ⟨(w.heap.size + 1), 5, none⟩ = some (.int .i64 v.2.1) := Rw1.out.cell 5
  have rc6 : w1.cell? ⟨(w.heap.size + 1), 6, none⟩ = some (.string v.2.2) := Rw1.out.cell 6
  have rl := Rw1.out.lt
  have xc0 : w1.cell? ⟨(w.heap.size + 2), 0, none⟩ = some (.int .i64 0) := Xw1.out.cell 0
  have xc1 : w1.cell? ⟨(w.heap.size + 2), 1, none⟩ = some (.int .i64 0) := Xw1.out.cell 1
  have xc2 : w1.cell? ⟨(w.heap.size + 2), 2, none⟩ = some (.string ⟨#[]⟩) := Xw1.out.cell 2
  have xl := Xw1.out.lt
  have xt0 := Xw1.out.thaw 0
  have xt1 := Xw1.out.thaw 1
  have xt2 := Xw1.out.thaw 2
  have nc0 : w1.cell? ⟨w0.heap.size, 0, none⟩ = some (.int .i64 x.o) := Nw1.out.cell 0
  have nc1 : w1.cell? ⟨w0.heap.size, 1, none⟩ = some (.int .i64 x.a) := Nw1.out.cell 1
  have nc2 : w1.cell? ⟨w0.heap.size, 2, none⟩ = some (.int .i64 x.b) := Nw1.out.cell 2
  have nc3 : w1.cell? ⟨w0.heap.size, 3, none⟩ = some (.int .i64 x.c) := Nw1.out.cell 3
  have nc4 : w1.cell? ⟨w0.heap.size, 4, none⟩ = some (.int .i64 x.k) := Nw1.out.cell 4
  have nc5 : w1.cell? ⟨w0.heap.size, 5, none⟩ = some (.int .i64 x.n) := Nw1.out.cell 5
  have nc6 : w1.cell? ⟨w0.heap.size, 6, none⟩ = some (.string x.t) := Nw1.out.cell 6
  have nl := Nw1.out.lt
  go_wp2_with fail
  refine (c_l10Int 0 (w1.alloc (.cells #[.int .i64 r.k, .int .i64 r.n, .string r.t] 29))).mono ?_
  rintro e w2 ⟨rfl, hb⟩
  have Bw2 : Hid (Below w.heap.size w w2) := (Bw1.out.alloc Bw1.out.size (.cells #[.int .i64 r.k, .int .i64 r.n, .string r.t] 29)).trans (hb.mono (Bw1.out.alloc Bw1.out.size (.cells #[.int .i64 r.k, .int .i64 r.n, .string r.t] 29)).size)
  have Ew2 : Hid (Box w2 w.heap.size 43 #[.slice (some ⟨b, off, none⟩) n c]) := (Ew1.out.alloc _).belowS hb
  have Rw2 : Hid (Box w2 (w.heap.size + 1) 35 #[.int .i64 i, .int .i64 u.1, .int .i64 u.2.1, .string u.2.2, .int .i64 v.1, .int .i64 v.2.1, .string v.2.2]) := (Rw1.out.alloc _).belowS hb
  have Xw2 : Hid (Box w2 (w.heap.size + 2) 29 #[.int .i64 0, .int .i64 0, .string ⟨#[]⟩]) := (Xw1.out.alloc _).belowS hb
  have Nw2 : Hid (Box w2 w0.heap.size 121 #[.int .i64 x.o, .int .i64 x.a, .int .i64 x.b, .int .i64 x.c, .int .i64 x.k, .int .i64 x.n, .string x.t]) := (Nw1.out.alloc _).belowS hb
  have Yw2 : Hid (Box w2 w1.heap.size 29 #[.int .i64 r.k, .int .i64 r.n, .string r.t]) := (Box.new w1 #[.int .i64 r.k, .int .i64 r.n, .string r.t] 29).belowS hb
  clear hb
  clear ec0 el rc0 rc1 rc2 rc3 rc4 rc5 rc6 rl xc0 xc1 xc2 xl xt0 xt1 xt2 nc0 nc1 nc2 nc3 nc4 nc5 nc6 nl
  have xc0 : w2.cell? ⟨(w.heap.size + 2), 0, none⟩ = some (.int .i64 0) := Xw2.out.cell 0
  have xc1 : w2.cell? ⟨(w.heap.size + 2), 1, none⟩ = some (.int .i64 0) := Xw2.out.cell 1
  have xc2 : w2.cell? ⟨(w.heap.size + 2), 2, none⟩ = some (.string ⟨#[]⟩) := Xw2.out.cell 2
  have xl := Xw2.out.lt
  have xt0 := Xw2.out.thaw 0
  have xt1 := Xw2.out.thaw 1
  have xt2 := Xw2.out.thaw 2
  go_wp2
  refine ret32 Tryd.results37 rfl rfl rfl (put3_box Xw2.out _ _ _) ⟨?_, put3_below Bw2.out (by omega) _ _ _⟩
  rw [E.out]
  rfl
set_option maxRecDepth 100000 in
set_option maxHeartbeats 4000000 in
theorem c_le_or (L : List EN) (a : Option Addr) (n c k : Nat) (x : EN) (i : Int) (u v : VV) (w : World) (hr : RdE w a n L) (hk : k < n) (hn : n ≤ 1048576) (hx : x = L.getD k zeroE) (r : EV) (IH : Hid (∀ W, Below w.heap.size w W → Calls Tryd.prog 37 #[.agg #[.slice a n c], .int .i64 x.a, .agg #[.int .i64 i, .int .i64 u.1, .int .i64 u.2.1, .string u.2.2, .int .i64 v.1, .int .i64 v.2.1, .string v.2.2]] W fun e w' => e = .returned (.tuple #[.agg #[.int .i64 r.k, .int .i64 r.n, .string r.t], .int .i64 r.c]) ∧ Below W.heap.size W w')) (o1 : (x.o == 1) = false) (o2 : (x.o == 2) = false) (cr : (r.c != 0) = false) (l5 : decide (x.o ≤ 5) = false) (o12 : (x.o == 12) = false) (o13 : (x.o == 13) = true) (k1 : (r.k == 1) = true) (nn : (r.n != 0) = true) (q : EV) (E : Hid (q = numE 1)) :
    Calls Tryd.prog 37 #[.agg #[.slice a n c], .int .i64 (k : Int), .agg #[.int .i64 i, .int .i64 u.1, .int .i64 u.2.1, .string u.2.2, .int .i64 v.1, .int .i64 v.2.1, .string v.2.2]] w fun e w' => e = .returned (.tuple #[.agg #[.int .i64 q.k, .int .i64 q.n, .string q.t], .int .i64 q.c]) ∧ Below w.heap.size w w' := by
  obtain ⟨b, off, rfl, hbl, hc⟩ := hr.2 (by omega)
  obtain ⟨d0, d1, d2, d3, d4, d5, d6⟩ := RdE.at hc hk hx
  have g1 : (0 : Int) ≤ (k : Int) := by omega
  have g2 : (k : Int) < (n : Int) := by omega
  clear hc hx
  obtain ⟨w0, hw0⟩ : ∃ V, ((w.alloc (.cells #[.slice (some ⟨b, off, none⟩) n c] 43)).alloc (.cells #[.int .i64 i, .int .i64 u.1, .int .i64 u.2.1, .string u.2.2, .int .i64 v.1, .int .i64 v.2.1, .string v.2.2] 35)).alloc (.cells #[.int .i64 0, .int .i64 0, .string ⟨#[]⟩] 29) = V := ⟨_, rfl⟩
  have Bw0 : Hid (Below w.heap.size w w0) := by unfold Hid; rw [← hw0]; exact ((((Below.refl _ _).alloc (Nat.le_refl _) _).alloc (by simp) _).alloc (by simp; omega) _)
  have Ew0 : Hid (Box w0 w.heap.size 43 #[.slice (some ⟨b, off, none⟩) n c]) := by unfold Hid; rw [← hw0]; exact (((Box.new _ _ _).alloc _).alloc _)
  have Rw0 : Hid (Box w0 (w.heap.size + 1) 35 #[.int .i64 i, .int .i64 u.1, .int .i64 u.2.1, .string u.2.2, .int .i64 v.1, .int .i64 v.2.1, .string v.2.2]) := by unfold Hid; rw [← hw0]; exact ((Box.new2 _ _ _ _).alloc _)
  have Xw0 : Hid (Box w0 (w.heap.size + 2) 29 #[.int .i64 0, .int .i64 0, .string ⟨#[]⟩]) := by unfold Hid; rw [← hw0]; have := Box.new2 (w.alloc (.cells #[.slice (some ⟨b, off, none⟩) n c] 43)) (.cells #[.int .i64 i, .int .i64 u.1, .int .i64 u.2.1, .string u.2.2, .int .i64 v.1, .int .i64 v.2.1, .string v.2.2] 35) #[.int .i64 0, .int .i64 0, .string ⟨#[]⟩] 29; simpa using this
  have f0 := far6 (b := b) (o := off + k * 7) (Below.mono Bw0.out (Nat.le_refl _)) d0
  have f1 := far6 (b := b) (o := off + k * 7 + 1) (Below.mono Bw0.out (Nat.le_refl _)) d1
  have f2 := far6 (b := b) (o := off + k * 7 + 2) (Below.mono Bw0.out (Nat.le_refl _)) d2
  have f3 := far6 (b := b) (o := off + k * 7 + 3) (Below.mono Bw0.out (Nat.le_refl _)) d3
  have f4 := far6 (b := b) (o := off + k * 7 + 4) (Below.mono Bw0.out (Nat.le_refl _)) d4
  have f5 := far6 (b := b) (o := off + k * 7 + 5) (Below.mono Bw0.out (Nat.le_refl _)) d5
  have f6 := far6 (b := b) (o := off + k * 7 + 6) (Below.mono Bw0.out (Nat.le_refl _)) d6
  have bl0 : b < w0.heap.size := Nat.lt_of_lt_of_le hbl Bw0.out.size
  clear d0 d1 d2 d3 d4 d5 d6
  have ec0 : w0.cell? ⟨w.heap.size, 0, none⟩ = some (.slice (some ⟨b, off, none⟩) n c) := Ew0.out.cell 0
  have el := Ew0.out.lt
  have rc0 : w0.cell? ⟨(w.heap.size + 1), 0, none⟩ = some (.int .i64 i) := Rw0.out.cell 0
  have rc1 : w0.cell? ⟨(w.heap.size + 1), 1, none⟩ = some (.int .i64 u.1) := Rw0.out.cell 1
  have rc2 : w0.cell? ⟨(w.heap.size + 1), 2, none⟩ = some (.int .i64 u.2.1) := Rw0.out.cell 2
  have rc3 : w0.cell? ⟨(w.heap.size + 1), 3, none⟩ = some (.string u.2.2) := Rw0.out.cell 3
  have rc4 : w0.cell? ⟨(w.heap.size + 1), 4, none⟩ = some (.int .i64 v.1) := Rw0.out.cell 4
  have rc5 : w0.cell? ⟨(w.heap.size + 1), 5, none⟩ = some (.int .i64 v.2.1) := Rw0.out.cell 5
  have rc6 : w0.cell? ⟨(w.heap.size + 1), 6, none⟩ = some (.string v.2.2) := Rw0.out.cell 6
  have rl := Rw0.out.lt
  have xc0 : w0.cell? ⟨(w.heap.size + 2), 0, none⟩ = some (.int .i64 0) := Xw0.out.cell 0
  have xc1 : w0.cell? ⟨(w.heap.size + 2), 1, none⟩ = some (.int .i64 0) := Xw0.out.cell 1
  have xc2 : w0.cell? ⟨(w.heap.size + 2), 2, none⟩ = some (.string ⟨#[]⟩) := Xw0.out.cell 2
  have xl := Xw0.out.lt
  have xt0 := Xw0.out.thaw 0
  have xt1 := Xw0.out.thaw 1
  have xt2 := Xw0.out.thaw 2
  go_enter Tryd.func37, Tryd.ntmps37
  go_wp2_with fail
  refine (IH.out (w0.alloc (.cells #[.int .i64 x.o, .int .i64 x.a, .int .i64 x.b, .int .i64 x.c, .int .i64 x.k, .int .i64 x.n, .string x.t] 121)) ((Bw0.out.alloc Bw0.out.size _))).mono ?_
  rintro e w1 ⟨rfl, hb⟩
  have Bw1 : Hid (Below w.heap.size w w1) := (Bw0.out.alloc Bw0.out.size (.cells #[.int .i64 x.o, .int .i64 x.a, .int .i64 x.b, .int .i64 x.c, .int .i64 x.k, .int .i64 x.n, .string x.t] 121)).trans (hb.mono (Bw0.out.alloc Bw0.out.size (.cells #[.int .i64 x.o, .int .i64 x.a, .int .i64 x.b, .int .i64 x.c, .int .i64 x.k, .int .i64 x.n, .string x.t] 121)).size)
  have Ew1 : Hid (Box w1 w.heap.size 43 #[.slice (some ⟨b, off, none⟩) n c]) := (Ew0.out.alloc _).belowS hb
  have Rw1 : Hid (Box w1 (w.heap.size + 1) 35 #[.int .i64 i, .int .i64 u.1, .int .i64 u.2.1, .string u.2.2, .int .i64 v.1, .int .i64 v.2.1, .string v.2.2]) := (Rw0.out.alloc _).belowS hb
  have Xw1 : Hid (Box w1 (w.heap.size + 2) 29 #[.int .i64 0, .int .i64 0, .string ⟨#[]⟩]) := (Xw0.out.alloc _).belowS hb
  have Nw1 : Hid (Box w1 w0.heap.size 121 #[.int .i64 x.o, .int .i64 x.a, .int .i64 x.b, .int .i64 x.c, .int .i64 x.k, .int .i64 x.n, .string x.t]) := (Box.new w0 #[.int .i64 x.o, .int .i64 x.a, .int .i64 x.b, .int .i64 x.c, .int .i64 x.k, .int .i64 x.n, .string x.t] 121).belowS hb
  clear hb
  clear ec0 el rc0 rc1 rc2 rc3 rc4 rc5 rc6 rl xc0 xc1 xc2 xl xt0 xt1 xt2
  have ec0 : w1.cell? ⟨w.heap.size, 0, none⟩ = some (.slice (some ⟨b, off, none⟩) n c) := Ew1.out.cell 0
  have el := Ew1.out.lt
  have rc0 : w1.cell? ⟨(w.heap.size + 1), 0, none⟩ = some (.int .i64 i) := Rw1.out.cell 0
  have rc1 : w1.cell? ⟨(w.heap.size + 1), 1, none⟩ = some (.int .i64 u.1) := Rw1.out.cell 1
  have rc2 : w1.cell? ⟨(w.heap.size + 1), 2, none⟩ = some (.int .i64 u.2.1) := Rw1.out.cell 2
  have rc3 : w1.cell? ⟨(w.heap.size + 1), 3, none⟩ = some (.string u.2.2) := Rw1.out.cell 3
  have rc4 : w1.cell? ⟨(w.heap.size + 1), 4, none⟩ = some (.int .i64 v.1) := Rw1.out.cell 4
  have rc5 : w1.cell? ⟨(w.heap.size + 1), 5, none⟩ = some (.int .i64 v.2.1) := Rw1.out.cell 5
  have rc6 : w1.cell? ⟨(w.heap.size + 1), 6, none⟩ = some (.string v.2.2) := Rw1.out.cell 6
  have rl := Rw1.out.lt
  have xc0 : w1.cell? ⟨(w.heap.size + 2), 0, none⟩ = some (.int .i64 0) := Xw1.out.cell 0
  have xc1 : w1.cell? ⟨(w.heap.size + 2), 1, none⟩ = some (.int .i64 0) := Xw1.out.cell 1
  have xc2 : w1.cell? ⟨(w.heap.size + 2), 2, none⟩ = some (.string ⟨#[]⟩) := Xw1.out.cell 2
  have xl := Xw1.out.lt
  have xt0 := Xw1.out.thaw 0
  have xt1 := Xw1.out.thaw 1
  have xt2 := Xw1.out.thaw 2
  have nc0 : w1.cell? ⟨w0.heap.size, 0, none⟩ = some (.int .i64 x.o) := Nw1.out.cell 0
  have nc1 : w1.cell? ⟨w0.heap.size, 1, none⟩ = some (.int .i64 x.a) := Nw1.out.cell 1
  have nc2 : w1.cell? ⟨w0.heap.size, 2, none⟩ = some (.int .i64 x.b) := Nw1.out.cell 2
  have nc3 : w1.cell? ⟨w0.heap.size, 3, none⟩ = some (.int .i64 x.c) := Nw1.out.cell 3
  have nc4 : w1.cell? ⟨w0.heap.size, 4, none⟩ = some (.int .i64 x.k) := Nw1.out.cell 4
  have nc5 : w1.cell? ⟨w0.heap.size, 5, none⟩ = some (.int .i64 x.n) := Nw1.out.cell 5
  have nc6 : w1.cell? ⟨w0.heap.size, 6, none⟩ = some (.string x.t) := Nw1.out.cell 6
  have nl := Nw1.out.lt
  go_wp2_with fail
  refine (c_l10Int 1 (w1.alloc (.cells #[.int .i64 r.k, .int .i64 r.n, .string r.t] 29))).mono ?_
  rintro e w2 ⟨rfl, hb⟩
  have Bw2 : Hid (Below w.heap.size w w2) := (Bw1.out.alloc Bw1.out.size (.cells #[.int .i64 r.k, .int .i64 r.n, .string r.t] 29)).trans (hb.mono (Bw1.out.alloc Bw1.out.size (.cells #[.int .i64 r.k, .int .i64 r.n, .string r.t] 29)).size)
  have Ew2 : Hid (Box w2 w.heap.size 43 #[.slice (some ⟨b, off, none⟩) n c]) := (Ew1.out.alloc _).belowS hb
  have Rw2 : Hid (Box w2 (w.heap.size + 1) 35 #[.int .i64 i, .int .i64 u.1, .int .i64 u.2.1, .string u.2.2, .int .i64 v.1, .int .i64 v.2.1, .string v.2.2]) := (Rw1.out.alloc _).belowS hb
  have Xw2 : Hid (Box w2 (w.heap.size + 2) 29 #[.int .i64 0, .int .i64 0, .string ⟨#[]⟩]) := (Xw1.out.alloc _).belowS hb
  have Nw2 : Hid (Box w2 w0.heap.size 121 #[.int .i64 x.o, .int .i64 x.a, .int .i64 x.b, .int .i64 x.c, .int .i64 x.k, .int .i64 x.n, .string x.t]) := (Nw1.out.alloc _).belowS hb
  have Yw2 : Hid (Box w2 w1.heap.size 29 #[.int .i64 r.k, .int .i64 r.n, .string r.t]) := (Box.new w1 #[.int .i64 r.k, .int .i64 r.n, .string r.t] 29).belowS hb
  clear hb
  clear ec0 el rc0 rc1 rc2 rc3 rc4 rc5 rc6 rl xc0 xc1 xc2 xl xt0 xt1 xt2 nc0 nc1 nc2 nc3 nc4 nc5 nc6 nl
  have xc0 : w2.cell? ⟨(w.heap.size + 2), 0, none⟩ = some (.int .i64 0) := Xw2.out.cell 0
  have xc1 : w2.cell? ⟨(w.heap.size + 2), 1, none⟩ = some (.int .i64 0) := Xw2.out.cell 1
  have xc2 : w2.cell? ⟨(w.heap.size + 2), 2, none⟩ = some (.string ⟨#[]⟩) := Xw2.out.cell 2
  have xl := Xw2.out.lt
  have xt0 := Xw2.out.thaw 0
  have xt1 := Xw2.out.thaw 1
  have xt2 := Xw2.out.thaw 2
  go_wp2
  refine ret32 Tryd.results37 rfl rfl rfl (put3_box Xw2.out _ _ _) ⟨?_, put3_below Bw2.out (by omega) _ _ _⟩
  rw [E.out]
  rfl
set_option maxRecDepth 100000 in
set_option maxHeartbeats 4000000 in
theorem c_le_Ea (L : List EN) (a : Option Addr) (n c k : Nat) (x : EN) (i : Int) (u v : VV) (w : World) (hr : RdE w a n L) (hk : k < n) (hn : n ≤ 1048576) (hx : x = L.getD k zeroE) (r : EV) (IH : Hid (∀ W, Below w.heap.size w W → Calls Tryd.prog 37 #[.agg #[.slice a n c], .int .i64 x.a, .agg #[.int .i64 i, .int .i64 u.1, .int .i64 u.2.1, .string u.2.2, .int .i64 v.1, .int .i64 v.2.1, .string v.2.2]] W fun e w' => e = .returned (.tuple #[.agg #[.int .i64 r.k, .int .i64 r.n, .string r.t], .int .i64 r.c]) ∧ Below W.heap.size W w')) (s : EV) (IJ : Hid (∀ W, Below w.heap.size w W → Calls Tryd.prog 37 #[.agg #[.slice a n c], .int .i64 x.b, .agg #[.int .i64 i, .int .i64 u.1, .int .i64 u.2.1, .string u.2.2, .int .i64 v.1, .int .i64 v.2.1, .string v.2.2]] W fun e w' => e = .returned (.tuple #[.agg #[.int .i64 s.k, .int .i64 s.n, .string s.t], .int .i64 s.c]) ∧ Below W.heap.size W w')) (o1 : (x.o == 1) = false) (o2 : (x.o == 2) = false) (cr : (r.c != 0) = false) (l5 : decide (x.o ≤ 5) = false) (o12 : (x.o == 12) = true) (k1 : (r.k == 1) = false) (o13 : (x.o == 13) = false) (cs : (s.c != 0) = true) (q : EV) (E : Hid (q = errE s.c)) :
    Calls Tryd.prog 37 #[.agg #[.slice a n c], .int .i64 (k : Int), .agg #[.int .i64 i, .int .i64 u.1, .int .i64 u.2.1, .string u.2.2, .int .i64 v.1, .int .i64 v.2.1, .string v.2.2]] w fun e w' => e = .returned (.tuple #[.agg #[.int .i64 q.k, .int .i64 q.n, .string q.t], .int .i64 q.c]) ∧ Below w.heap.size w w' := by
  obtain ⟨b, off, rfl, hbl, hc⟩ := hr.2 (by omega)
  obtain ⟨d0, d1, d2, d3, d4, d5, d6⟩ := RdE.at hc hk hx
  have g1 : (0 : Int) ≤ (k : Int) := by omega
  have g2 : (k : Int) < (n : Int) := by omega
  clear hc hx
  obtain ⟨w0, hw0⟩ : ∃ V, ((w.alloc (.cells #[.slice (some ⟨b, off, none⟩) n c] 43)).alloc (.cells #[.int .i64 i, .int .i64 u.1, .int .i64 u.2.1, .string u.2.2, .int .i64 v.1, .int .i64 v.2.1, .string v.2.2] 35)).alloc (.cells #[.int .i64 0, .int .i64 0, .string ⟨#[]⟩] 29) = V := ⟨_, rfl⟩
  have Bw0 : Hid (Below w.heap.size w w0) := by unfold Hid; rw [← hw0]; exact ((((Below.refl _ _).alloc (Nat.le_refl _) _).alloc (by simp) _).alloc (by simp; omega) _)
  have Ew0 : Hid (Box w0 w.heap.size 43 #[.slice (some ⟨b, off, none⟩) n c]) := by unfold Hid; rw [← hw0]; exact (((Box.new _ _ _).alloc _).alloc _)
  have Rw0 : Hid (Box w0 (w.heap.size + 1) 35 #[.int .i64 i, .int .i64 u.1, .int .i64 u.2.1, .string u.2.2, .int .i64 v.1, .int .i64 v.2.1, .string v.2.2]) := by unfold Hid; rw [← hw0]; exact ((Box.new2 _ _ _ _).alloc _)
  have Xw0 : Hid (Box w0 (w.heap.size + 2) 29 #[.int .i64 0, .int .i64 0, .string ⟨#[]⟩]) := by unfold Hid; rw [← hw0]; have := Box.new2 (w.alloc (.cells #[.slice (some ⟨b, off, none⟩) n c] 43)) (.cells #[.int .i64 i, .int .i64 u.1, .int .i64 u.2.1, .string u.2.2, .int .i64 v.1, .int .i64 v.2.1, .string v.2.2] 35) #[.int .i64 0, .int .i64 0, .string ⟨#[]⟩] 29; simpa using this
  have f0 := far6 (b := b) (o := off + k * 7) (Below.mono Bw0.out (Nat.le_refl _)) d0
  have f1 := far6 (b := b) (o := off + k * 7 + 1) (Below.mono Bw0.out (Nat.le_refl _)) d1
  have f2 := far6 (b := b) (o := off + k * 7 + 2) (Below.mono Bw0.out (Nat.le_refl _)) d2
  have f3 := far6 (b := b) (o := off + k * 7 + 3) (Below.mono Bw0.out (Nat.le_refl _)) d3
  have f4 := far6 (b := b) (o := off + k * 7 + 4) (Below.mono Bw0.out (Nat.le_refl _)) d4
  have f5 := far6 (b := b) (o := off + k * 7 + 5) (Below.mono Bw0.out (Nat.le_refl _)) d5
  have f6 := far6 (b := b) (o := off + k * 7 + 6) (Below.mono Bw0.out (Nat.le_refl _)) d6
  have bl0 : b < w0.heap.size := Nat.lt_of_lt_of_le hbl Bw0.out.size
  clear d0 d1 d2 d3 d4 d5 d6
  have ec0 : w0.cell? ⟨w.heap.size, 0, none⟩ = some (.slice (some ⟨b, off, none⟩) n c) := Ew0.out.cell 0
  have el := Ew0.out.lt
  have rc0 : w0.cell? ⟨(w.heap.size + 1), 0, none⟩ = some (.int .i64 i) := Rw0.out.cell 0
  have rc1 : w0.cell? ⟨(w.heap.size + 1), 1, none⟩ = some (.int .i64 u.1) := Rw0.out.cell 1
  have rc2 : w0.cell? ⟨(w.heap.size + 1), 2, none⟩ = some (.int .i64 u.2.1) := Rw0.out.cell 2
  have rc3 : w0.cell? ⟨(w.heap.size + 1), 3, none⟩ = some (.string u.2.2) := Rw0.out.cell 3
  have rc4 : w0.cell? ⟨(w.heap.size + 1), 4, none⟩ = some (.int .i64 v.1) := Rw0.out.cell 4
  have rc5 : w0.cell? ⟨(w.heap.size + 1), 5, none⟩ = some (.int .i64 v.2.1) := Rw0.out.cell 5
  have rc6 : w0.cell? ⟨(w.heap.size + 1), 6, none⟩ = some (.string v.2.2) := Rw0.out.cell 6
  have rl := Rw0.out.lt
  have xc0 : w0.cell? ⟨(w.heap.size + 2), 0, none⟩ = some (.int .i64 0) := Xw0.out.cell 0
  have xc1 : w0.cell? ⟨(w.heap.size + 2), 1, none⟩ = some (.int .i64 0) := Xw0.out.cell 1
  have xc2 : w0.cell? ⟨(w.heap.size + 2), 2, none⟩ = some (.string ⟨#[]⟩) := Xw0.out.cell 2
  have xl := Xw0.out.lt
  have xt0 := Xw0.out.thaw 0
  have xt1 := Xw0.out.thaw 1
  have xt2 := Xw0.out.thaw 2
  go_enter Tryd.func37, Tryd.ntmps37
  go_wp2_with fail
  refine (IH.out (w0.alloc (.cells #[.int .i64 x.o, .int .i64 x.a, .int .i64 x.b, .int .i64 x.c, .int .i64 x.k, .int .i64 x.n, .string x.t] 121)) ((Bw0.out.alloc Bw0.out.size _))).mono ?_
  rintro e w1 ⟨rfl, hb⟩
  have Bw1 : Hid (Below w.heap.size w w1) := (Bw0.out.alloc Bw0.out.size (.cells #[.int .i64 x.o, .int .i64 x.a, .int .i64 x.b, .int .i64 x.c, .int .i64 x.k, .int .i64 x.n, .string x.t] 121)).trans (hb.mono (Bw0.out.alloc Bw0.out.size (.cells #[.int .i64 x.o, .int .i64 x.a, .int .i64 x.b, .int .i64 x.c, .int .i64 x.k, .int .i64 x.n, .string x.t] 121)).size)
  have Ew1 : Hid (Box w1 w.heap.size 43 #[.slice (some ⟨b, off, none⟩) n c]) := (Ew0.out.alloc _).belowS hb
  have Rw1 : Hid (Box w1 (w.heap.size + 1) 35 #[.int .i64 i, .int .i64 u.1, .int .i64 u.2.1, .string u.2.2, .int .i64 v.1, .int .i64 v.2.1, .string v.2.2]) := (Rw0.out.alloc _).belowS hb
  have Xw1 : Hid (Box w1 (w.heap.size + 2) 29 #[.int .i64 0, .int .i64 0, .string ⟨#[]⟩]) := (Xw0.out.alloc _).belowS hb
  have Nw1 : Hid (Box w1 w0.heap.size 121 #[.int .i64 x.o, .int .i64 x.a, .int .i64 x.b, .int .i64 x.c, .int .i64 x.k, .int .i64 x.n, .string x.t]) := (Box.new w0 #[.int .i64 x.o, .int .i64 x.a, .int .i64 x.b, .int .i64 x.c, .int .i64 x.k, .int .i64 x.n, .string x.t] 121).belowS hb
  clear hb
  clear ec0 el rc0 rc1 rc2 rc3 rc4 rc5 rc6 rl xc0 xc1 xc2 xl xt0 xt1 xt2
  have ec0 : w1.cell? ⟨w.heap.size, 0, none⟩ = some (.slice (some ⟨b, off, none⟩) n c) := Ew1.out.cell 0
  have el := Ew1.out.lt
  have rc0 : w1.cell? ⟨(w.heap.size + 1), 0, none⟩ = some (.int .i64 i) := Rw1.out.cell 0
  have rc1 : w1.cell? ⟨(w.heap.size + 1), 1, none⟩ = some (.int .i64 u.1) := Rw1.out.cell 1
  have rc2 : w1.cell? ⟨(w.heap.size + 1), 2, none⟩ = some (.int .i64 u.2.1) := Rw1.out.cell 2
  have rc3 : w1.cell? ⟨(w.heap.size + 1), 3, none⟩ = some (.string u.2.2) := Rw1.out.cell 3
  have rc4 : w1.cell? ⟨(w.heap.size + 1), 4, none⟩ = some (.int .i64 v.1) := Rw1.out.cell 4
  have rc5 : w1.cell? ⟨(w.heap.size + 1), 5, none⟩ = some (.int .i64 v.2.1) := Rw1.out.cell 5
  have rc6 : w1.cell? ⟨(w.heap.size + 1), 6, none⟩ = some (.string v.2.2) := Rw1.out.cell 6
  have rl := Rw1.out.lt
  have xc0 : w1.cell? ⟨(w.heap.size + 2), 0, none⟩ = some (.int .i64 0) := Xw1.out.cell 0
  have xc1 : w1.cell? ⟨(w.heap.size + 2), 1, none⟩ = some (.int .i64 0) := Xw1.out.cell 1
  have xc2 : w1.cell? ⟨(w.heap.size + 2), 2, none⟩ = some (.string ⟨#[]⟩) := Xw1.out.cell 2
  have xl := Xw1.out.lt
  have xt0 := Xw1.out.thaw 0
  have xt1 := Xw1.out.thaw 1
  have xt2 := Xw1.out.thaw 2
  have nc0 : w1.cell? ⟨w0.heap.size, 0, none⟩ = some (.int .i64 x.o) := Nw1.out.cell 0
  have nc1 : w1.cell? ⟨w0.heap.size, 1, none⟩ = some (.int .i64 x.a) := Nw1.out.cell 1
  have nc2 : w1.cell? ⟨w0.heap.size, 2, none⟩ = some (.int .i64 x.b) := Nw1.out.cell 2
  have nc3 : w1.cell? ⟨w0.heap.size, 3, none⟩ = some (.int .i64 x.c) := Nw1.out.cell 3
  have nc4 : w1.cell? ⟨w0.heap.size, 4, none⟩ = some (.int .i64 x.k) := Nw1.out.cell 4
  have nc5 : w1.cell? ⟨w0.heap.size, 5, none⟩ = some (.int .i64 x.n) := Nw1.out.cell 5
  have nc6 : w1.cell? ⟨w0.heap.size, 6, none⟩ = some (.string x.t) := Nw1.out.cell 6
  have nl := Nw1.out.lt
  go_wp2_with fail
  refine (IJ.out (w1.alloc (.cells #[.int .i64 r.k, .int .i64 r.n, .string r.t] 29)) ((Bw1.out.alloc Bw1.out.size _))).mono ?_
  rintro e w2 ⟨rfl, hb⟩
  have Bw2 : Hid (Below w.heap.size w w2) := (Bw1.out.alloc Bw1.out.size (.cells #[.int .i64 r.k, .int .i64 r.n, .string r.t] 29)).trans (hb.mono (Bw1.out.alloc Bw1.out.size (.cells #[.int .i64 r.k, .int .i64 r.n, .string r.t] 29)).size)
  have Ew2 : Hid (Box w2 w.heap.size 43 #[.slice (some ⟨b, off, none⟩) n c]) := (Ew1.out.alloc _).belowS hb
  have Rw2 : Hid (Box w2 (w.heap.size + 1) 35 #[.int .i64 i, .int .i64 u.1, .int .i64 u.2.1, .string u.2.2, .int .i64 v.1, .int .i64 v.2.1, .string v.2.2]) := (Rw1.out.alloc _).belowS hb
  have Xw2 : Hid (Box w2 (w.heap.size + 2) 29 #[.int .i64 0, .int .i64 0, .string ⟨#[]⟩]) := (Xw1.out.alloc _).belowS hb
  have Nw2 : Hid (Box w2 w0.heap.size 121 #[.int .i64 x.o, .int .i64 x.a, .int .i64 x.b, .int .i64 x.c, .int .i64 x.k, .int .i64 x.n, .string x.t]) := (Nw1.out.alloc _).belowS hb
  have Yw2 : Hid (Box w2 w1.heap.size 29 #[.int .i64 r.k, .int .i64 r.n, .string r.t]) := (Box.new w1 #[.int .i64 r.k, .int .i64 r.n, .string r.t] 29).belowS hb
  clear hb
  clear ec0 el rc0 rc1 rc2 rc3 rc4 rc5 rc6 rl xc0 xc1 xc2 xl xt0 xt1 xt2 nc0 nc1 nc2 nc3 nc4 nc5 nc6 nl
  have ec0 : w2.cell? ⟨w.heap.size, 0, none⟩ = some (.slice (some ⟨b, off, none⟩) n c) := Ew2.out.cell 0
  have el := Ew2.out.lt
  have rc0 : w2.cell? ⟨(w.heap.size + 1), 0, none⟩ = some (.int .i64 i) := Rw2.out.cell 0
  have rc1 : w2.cell? ⟨(w.heap.size + 1), 1, none⟩ = some (.int .i64 u.1) := Rw2.out.cell 1
  have rc2 : w2.cell? ⟨(w.heap.size + 1), 2, none⟩ = some (.int .i64 u.2.1) := Rw2.out.cell 2
  have rc3 : w2.cell? ⟨(w.heap.size + 1), 3, none⟩ = some (.string u.2.2) := Rw2.out.cell 3
  have rc4 : w2.cell? ⟨(w.heap.size + 1), 4, none⟩ = some (.int .i64 v.1) := Rw2.out.cell 4
  have rc5 : w2.cell? ⟨(w.heap.size + 1), 5, none⟩ = some (.int .i64 v.2.1) := Rw2.out.cell 5
  have rc6 : w2.cell? ⟨(w.heap.size + 1), 6, none⟩ = some (.string v.2.2) := Rw2.out.cell 6
  have rl := Rw2.out.lt
  have xc0 : w2.cell? ⟨(w.heap.size + 2), 0, none⟩ = some (.int .i64 0) := Xw2.out.cell 0
  have xc1 : w2.cell? ⟨(w.heap.size + 2), 1, none⟩ = some (.int .i64 0) := Xw2.out.cell 1
  have xc2 : w2.cell? ⟨(w.heap.size + 2), 2, none⟩ = some (.string ⟨#[]⟩) := Xw2.out.cell 2
  have xl := Xw2.out.lt
  have xt0 := Xw2.out.thaw 0
  have xt1 := Xw2.out.thaw 1
  have xt2 := Xw2.out.thaw 2
  have nc0 : w2.cell? ⟨w0.heap.size, 0, none⟩ = some (.int .i64 x.o) := Nw2.out.cell 0
  have nc1 : w2.cell? ⟨w0.heap.size, 1, none⟩ = some (.int .i64 x.a) := Nw2.out.cell 1
  have nc2 : w2.cell? ⟨w0.heap.size, 2, none⟩ = some (.int .i64 x.b) := Nw2.out.cell 2
  have nc3 : w2.cell? ⟨w0.heap.size, 3, none⟩ = some (.int .i64 x.c) := Nw2.out.cell 3
  have nc4 : w2.cell? ⟨w0.heap.size, 4, none⟩ = some (.int .i64 x.k) := Nw2.out.cell 4
  have nc5 : w2.cell? ⟨w0.heap.size, 5, none⟩ = some (.int .i64 x.n) := Nw2.out.cell 5
  have nc6 : w2.cell? ⟨w0.heap.size, 6, none⟩ = some (.string x.t) := Nw2.out.cell 6
  have nl := Nw2.out.lt
  have yc0 : w2.cell? ⟨w1.heap.size, 0, none⟩ = some (.int .i64 r.k) := Yw2.out.cell 0
  have yc1 : w2.cell? ⟨w1.heap.size, 1, none⟩ = some (.int .i64 r.n) := Yw2.out.cell 1
  have yc2 : w2.cell? ⟨w1.heap.size, 2, none⟩ = some (.string r.t) := Yw2.out.cell 2
  have yl := Yw2.out.lt
  go_wp2
  have hbl9 : ∀ v0 v1 v2, Below w.heap.size w ((((w2).setCell ⟨(w.heap.size + 2), 0, none⟩ (v0)).setCell ⟨(w.heap.size + 2), 1, none⟩ (v1)).setCell ⟨(w.heap.size + 2), 2, none⟩ (v2)) := fun v0 v1 v2 => put3_below Bw2.out (by omega) v0 v1 v2
  refine ret32 Tryd.results37 rfl rfl rfl ((put3_box Xw2.out _ _ _).alloc _) ⟨?_, (hbl9 _ _ _).alloc (hbl9 _ _ _).size _⟩
  rw [E.out]
  rfl
set_option maxRecDepth 100000 in
set_option maxHeartbeats 4000000 in
theorem c_le_Va (L : List EN) (a : Option Addr) (n c k : Nat) (x : EN) (i : Int) (u v : VV) (w : World) (hr : RdE w a n L) (hk : k < n) (hn : n ≤ 1048576) (hx : x = L.getD k zeroE) (r : EV) (IH : Hid (∀ W, Below w.heap.size w W → Calls Tryd.prog 37 #[.agg #[.slice a n c], .int .i64 x.a, .agg #[.int .i64 i, .int .i64 u.1, .int .i64 u.2.1, .string u.2.2, .int .i64 v.1, .int .i64 v.2.1, .string v.2.2]] W fun e w' => e = .returned (.tuple #[.agg #[.int .i64 r.k, .int .i64 r.n, .string r.t], .int .i64 r.c]) ∧ Below W.heap.size W w')) (s : EV) (IJ : Hid (∀ W, Below w.heap.size w W → Calls Tryd.prog 37 #[.agg #[.slice a n c], .int .i64 x.b, .agg #[.int .i64 i, .int .i64 u.1, .int .i64 u.2.1, .string u.2.2, .int .i64 v.1, .int .i64 v.2.1, .string v.2.2]] W fun e w' => e = .returned (.tuple #[.agg #[.int .i64 s.k, .int .i64 s.n, .string s.t], .int .i64 s.c]) ∧ Below W.heap.size W w')) (z : BR) (CB : Hid (∀ W, Calls Tryd.prog 44 #[.int .i64 x.o, .agg #[.int .i64 r.k, .int .i64 r.n, .string r.t], .agg #[.int .i64 s.k, .int .i64 s.n, .string s.t]] W fun e w' => e = .returned (.tuple #[.agg #[.int .i64 z.k, .int .i64 z.n, .string ⟨#[]⟩], .int .i64 z.c]) ∧ Below W.heap.size W w')) (o1 : (x.o == 1) = false) (o2 : (x.o == 2) = false) (cr : (r.c != 0) = false) (l5 : decide (x.o ≤ 5) = false) (o12 : (x.o == 12) = true) (k1 : (r.k == 1) = false) (o13 : (x.o == 13) = false) (cs : (s.c != 0) = false) (q : EV) (E : Hid (q = ofB z)) :
    Calls Tryd.prog 37 #[.agg #[.slice a n c], .int .i64 (k : Int), .agg #[.int .i64 i, .int .i64 u.1, .int .i64 u.2.1, .string u.2.2, .int .i64 v.1, .int .i64 v.2.1, .string v.2.2]] w fun e w' => e = .returned (.tuple #[.agg #[.int .i64 q.k, .int .i64 q.n, .string q.t], .int .i64 q.c]) ∧ Below w.heap.size w w' := by
  obtain ⟨b, off, rfl, hbl, hc⟩ := hr.2 (by omega)
  obtain ⟨d0, d1, d2, d3, d4, d5, d6⟩ := RdE.at hc hk hx
  have g1 : (0 : Int) ≤ (k : Int) := by omega
  have g2 : (k : Int) < (n : Int) := by omega
  clear hc hx
  obtain ⟨w0, hw0⟩ : ∃ V, ((w.alloc (.cells #[.slice (some ⟨b, off, none⟩) n c] 43)).alloc (.cells #[.int .i64 i, .int .i64 u.1, .int .i64 u.2.1, .string u.2.2, .int .i64 v.1, .int .i64 v.2.1, .string v.2.2] 35)).alloc (.cells #[.int .i64 0, .int .i64 0, .string ⟨#[]⟩] 29) = V := ⟨_, rfl⟩
  have Bw0 : Hid (Below w.heap.size w w0) := by unfold Hid; rw [← hw0]; exact ((((Below.refl _ _).alloc (Nat.le_refl _) _).alloc (by simp) _).alloc (by simp; omega) _)
  have Ew0 : Hid (Box w0 w.heap.size 43 #[.slice (some ⟨b, off, none⟩) n c]) := by unfold Hid; rw [← hw0]; exact (((Box.new _ _ _).alloc _).alloc _)
  have Rw0 : Hid (Box w0 (w.heap.size + 1) 35 #[.int .i64 i, .int .i64 u.1, .int .i64 u.2.1, .string u.2.2, .int .i64 v.1, .int .i64 v.2.1, .string v.2.2]) := by unfold Hid; rw [← hw0]; exact ((Box.new2 _ _ _ _).alloc _)
  have Xw0 : Hid (Box w0 (w.heap.size + 2) 29 #[.int .i64 0, .int .i64 0, .string ⟨#[]⟩]) := by unfold Hid; rw [← hw0]; have := Box.new2 (w.alloc (.cells #[.slice (some ⟨b, off, none⟩) n c] 43)) (.cells #[.int .i64 i, .int .i64 u.1, .int .i64 u.2.1, .string u.2.2, .int .i64 v.1, .int .i64 v.2.1, .string v.2.2] 35) #[.int .i64 0, .int .i64 0, .string ⟨#[]⟩] 29; simpa using this
  have f0 := far6 (b := b) (o := off + k * 7) (Below.mono Bw0.out (Nat.le_refl _)) d0
  have f1 := far6 (b := b) (o := off + k * 7 + 1) (Below.mono Bw0.out (Nat.le_refl _)) d1
  have f2 := far6 (b := b) (o := off + k * 7 + 2) (Below.mono Bw0.out (Nat.le_refl _)) d2
  have f3 := far6 (b := b) (o := off + k * 7 + 3) (Below.mono Bw0.out (Nat.le_refl _)) d3
  have f4 := far6 (b := b) (o := off + k * 7 + 4) (Below.mono Bw0.out (Nat.le_refl _)) d4
  have f5 := far6 (b := b) (o := off + k * 7 + 5) (Below.mono Bw0.out (Nat.le_refl _)) d5
  have f6 := far6 (b := b) (o := off + k * 7 + 6) (Below.mono Bw0.out (Nat.le_refl _)) d6
  have bl0 : b < w0.heap.size := Nat.lt_of_lt_of_le hbl Bw0.out.size
  clear d0 d1 d2 d3 d4 d5 d6
  have ec0 : w0.cell? ⟨w.heap.size, 0, none⟩ = some (.slice (some ⟨b, off, none⟩) n c) := Ew0.out.cell 0
  have el := Ew0.out.lt
  have rc0 : w0.cell? ⟨(w.heap.size + 1), 0, none⟩ = some (.int .i64 i) := Rw0.out.cell 0
  have rc1 : w0.cell? ⟨(w.heap.size + 1), 1, none⟩ = some (.int .i64 u.1) := Rw0.out.cell 1
  have rc2 : w0.cell? ⟨(w.heap.size + 1), 2, none⟩ = some (.int .i64 u.2.1) := Rw0.out.cell 2
  have rc3 : w0.cell? ⟨(w.heap.size + 1), 3, none⟩ = some (.string u.2.2) := Rw0.out.cell 3
  have rc4 : w0.cell? ⟨(w.heap.size + 1), 4, none⟩ = some (.int .i64 v.1) := Rw0.out.cell 4
  have rc5 : w0.cell? ⟨(w.heap.size + 1), 5, none⟩ = some (.int .i64 v.2.1) := Rw0.out.cell 5
  have rc6 : w0.cell? ⟨(w.heap.size + 1), 6, none⟩ = some (.string v.2.2) := Rw0.out.cell 6
  have rl := Rw0.out.lt
  have xc0 : w0.cell? ⟨(w.heap.size + 2), 0, none⟩ = some (.int .i64 0) := Xw0.out.cell 0
  have xc1 : w0.cell? ⟨(w.heap.size + 2), 1, none⟩ = some (.int .i64 0) := Xw0.out.cell 1
  have xc2 : w0.cell? ⟨(w.heap.size + 2), 2, none⟩ = some (.string ⟨#[]⟩) := Xw0.out.cell 2
  have xl := Xw0.out.lt
  have xt0 := Xw0.out.thaw 0
  have xt1 := Xw0.out.thaw 1
  have xt2 := Xw0.out.thaw 2
  go_enter Tryd.func37, Tryd.ntmps37
  go_wp2_with fail
  refine (IH.out (w0.alloc (.cells #[.int .i64 x.o, .int .i64 x.a, .int .i64 x.b, .int .i64 x.c, .int .i64 x.k, .int .i64 x.n, .string x.t] 121)) ((Bw0.out.alloc Bw0.out.size _))).mono ?_
  rintro e w1 ⟨rfl, hb⟩
  have Bw1 : Hid (Below w.heap.size w w1) := (Bw0.out.alloc Bw0.out.size (.cells #[.int .i64 x.o, .int .i64 x.a, .int .i64 x.b, .int .i64 x.c, .int .i64 x.k, .int .i64 x.n, .string x.t] 121)).trans (hb.mono (Bw0.out.alloc Bw0.out.size (.cells #[.int .i64 x.o, .int .i64 x.a, .int .i64 x.b, .int .i64 x.c, .int .i64 x.k, .int .i64 x.n, .string x.t] 121)).size)
  have Ew1 : Hid (Box w1 w.heap.size 43 #[.slice (some ⟨b, off, none⟩) n c]) := (Ew0.out.alloc _).belowS hb
  have Rw1 : Hid (Box w1 (w.heap.size + 1) 35 #[.int .i64 i, .int .i64 u.1, .int .i64 u.2.1, .string u.2.2, .int .i64 v.1, .int .i64 v.2.1, .string v.2.2]) := (Rw0.out.alloc _).belowS hb
  have Xw1 : Hid (Box w1 (w.heap.size + 2) 29 #[.int .i64 0, .int .i64 0, .string ⟨#[]⟩]) := (Xw0.out.alloc _).belowS hb
  have Nw1 : Hid (Box w1 w0.heap.size 121 #[.int .i64 x.o, .int .i64 x.a, .int .i64 x.b, .int .i64 x.c, .int .i64 x.k, .int .i64 x.n, .string x.t]) := (Box.new w0 #[.int .i64 x.o, .int .i64 x.a, .int .i64 x.b, .int .i64 x.c, .int .i64 x.k, .int .i64 x.n, .string x.t] 121).belowS hb
  clear hb
  clear ec0 el rc0 rc1 rc2 rc3 rc4 rc5 rc6 rl xc0 xc1 xc2 xl xt0 xt1 xt2
  have ec0 : w1.cell? ⟨w.heap.size, 0, none⟩ = some (.slice (some ⟨b, off, none⟩) n c) := Ew1.out.cell 0
  have el := Ew1.out.lt
  have rc0 : w1.cell? ⟨(w.heap.size + 1), 0, none⟩ = some (.int .i64 i) := Rw1.out.cell 0
  have rc1 : w1.cell? ⟨(w.heap.size + 1), 1, none⟩ = some (.int .i64 u.1) := Rw1.out.cell 1
  have rc2 : w1.cell? ⟨(w.heap.size + 1), 2, none⟩ = some (.int .i64 u.2.1) := Rw1.out.cell 2
  have rc3 : w1.cell? ⟨(w.heap.size + 1), 3, none⟩ = some (.string u.2.2) := Rw1.out.cell 3
  have rc4 : w1.cell? ⟨(w.heap.size + 1), 4, none⟩ = some (.int .i64 v.1) := Rw1.out.cell 4
  have rc5 : w1.cell? ⟨(w.heap.size + 1), 5, none⟩ = some (.int .i64 v.2.1) := Rw1.out.cell 5
  have rc6 : w1.cell? ⟨(w.heap.size + 1), 6, none⟩ = some (.string v.2.2) := Rw1.out.cell 6
  have rl := Rw1.out.lt
  have xc0 : w1.cell? ⟨(w.heap.size + 2), 0, none⟩ = some (.int .i64 0) := Xw1.out.cell 0
  have xc1 : w1.cell? ⟨(w.heap.size + 2), 1, none⟩ = some (.int .i64 0) := Xw1.out.cell 1
  have xc2 : w1.cell? ⟨(w.heap.size + 2), 2, none⟩ = some (.string ⟨#[]⟩) := Xw1.out.cell 2
  have xl := Xw1.out.lt
  have xt0 := Xw1.out.thaw 0
  have xt1 := Xw1.out.thaw 1
  have xt2 := Xw1.out.thaw 2
  have nc0 : w1.cell? ⟨w0.heap.size, 0, none⟩ = some (.int .i64 x.o) := Nw1.out.cell 0
  have nc1 : w1.cell? ⟨w0.heap.size, 1, none⟩ = some (.int .i64 x.a) := Nw1.out.cell 1
  have nc2 : w1.cell? ⟨w0.heap.size, 2, none⟩ = some (.int .i64 x.b) := Nw1.out.cell 2
  have nc3 : w1.cell? ⟨w0.heap.size, 3, none⟩ = some (.int .i64 x.c) := Nw1.out.cell 3
  have nc4 : w1.cell? ⟨w0.heap.size, 4, none⟩ = some (.int .i64 x.k) := Nw1.out.cell 4
  have nc5 : w1.cell? ⟨w0.heap.size, 5, none⟩ = some (.int .i64 x.n) := Nw1.out.cell 5
  have nc6 : w1.cell? ⟨w0.heap.size, 6, none⟩ = some (.string x.t) := Nw1.out.cell 6
  have nl := Nw1.out.lt
  go_wp2_with fail
  refine (IJ.out (w1.alloc (.cells #[.int .i64 r.k, .int .i64 r.n, .string r.t] 29)) ((Bw1.out.alloc Bw1.out.size _))).mono ?_
  rintro e w2 ⟨rfl, hb⟩
  have Bw2 : Hid (Below w.heap.size w w2) := (Bw1.out.alloc Bw1.out.size (.cells #[.int .i64 r.k, .int .i64 r.n, .string r.t] 29)).trans (hb.mono (Bw1.out.alloc Bw1.out.size (.cells #[.int .i64 r.k, .int .i64 r.n, .string r.t] 29)).size)
  have Ew2 : Hid (Box w2 w.heap.size 43 #[.slice (some ⟨b, off, none⟩) n c]) := (Ew1.out.alloc _).belowS hb
  have Rw2 : Hid (Box w2 (w.heap.size + 1) 35 #[.int .i64 i, .int .i64 u.1, .int .i64 u.2.1, .string u.2.2, .int .i64 v.1, .int .i64 v.2.1, .string v.2.2]) := (Rw1.out.alloc _).belowS hb
  have Xw2 : Hid (Box w2 (w.heap.size + 2) 29 #[.int .i64 0, .int .i64 0, .string ⟨#[]⟩]) := (Xw1.out.alloc _).belowS hb
  have Nw2 : Hid (Box w2 w0.heap.size 121 #[.int .i64 x.o, .int .i64 x.a, .int .i64 x.b, .int .i64 x.c, .int .i64 x.k, .int .i64 x.n, .string x.t]) := (Nw1.out.alloc _).belowS hb
  have Yw2 : Hid (Box w2 w1.heap.size 29 #[.int .i64 r.k, .int .i64 r.n, .string r.t]) := (Box.new w1 #[.int .i64 r.k, .int .i64 r.n, .string r.t] 29).belowS hb
  clear hb
  clear ec0 el rc0 rc1 rc2 rc3 rc4 rc5 rc6 rl xc0 xc1 xc2 xl xt0 xt1 xt2 nc0 nc1 nc2 nc3 nc4 nc5 nc6 nl
  have ec0 : w2.cell? ⟨w.heap.size, 0, none⟩ = some (.slice (some ⟨b, off, none⟩) n c) := Ew2.out.cell 0
  have el := Ew2.out.lt
  have rc0 : w2.cell? ⟨(w.heap.size + 1), 0, none⟩ = some (.int .i64 i) := Rw2.out.cell 0
  have rc1 : w2.cell? ⟨(w.heap.size + 1), 1, none⟩ = some (.int .i64 u.1) := Rw2.out.cell 1
  have rc2 : w2.cell? ⟨(w.heap.size + 1), 2, none⟩ = some (.int .i64 u.2.1) := Rw2.out.cell 2
  have rc3 : w2.cell? ⟨(w.heap.size + 1), 3, none⟩ = some (.string u.2.2) := Rw2.out.cell 3
  have rc4 : w2.cell? ⟨(w.heap.size + 1), 4, none⟩ = some (.int .i64 v.1) := Rw2.out.cell 4
  have rc5 : w2.cell? ⟨(w.heap.size + 1), 5, none⟩ = some (.int .i64 v.2.1) := Rw2.out.cell 5
  have rc6 : w2.cell? ⟨(w.heap.size + 1), 6, none⟩ = some (.string v.2.2) := Rw2.out.cell 6
  have rl := Rw2.out.lt
  have xc0 : w2.cell? ⟨(w.heap.size + 2), 0, none⟩ = some (.int .i64 0) := Xw2.out.cell 0
  have xc1 : w2.cell? ⟨(w.heap.size + 2), 1, none⟩ = some (.int .i64 0) := Xw2.out.cell 1
  have xc2 : w2.cell? ⟨(w.heap.size + 2), 2, none⟩ = some (.string ⟨#[]⟩) := Xw2.out.cell 2
  have xl := Xw2.out.lt
  have xt0 := Xw2.out.thaw 0
  have xt1 := Xw2.out.thaw 1
  have xt2 := Xw2.out.thaw 2
  have nc0 : w2.cell? ⟨w0.heap.size, 0, none⟩ = some (.int .i64 x.o) := Nw2.out.cell 0
  have nc1 : w2.cell? ⟨w0.heap.size, 1, none⟩ = some (.int .i64 x.a) := Nw2.out.cell 1
  have nc2 : w2.cell? ⟨w0.heap.size, 2, none⟩ = some (.int .i64 x.b) := Nw2.out.cell 2
  have nc3 : w2.cell? ⟨w0.heap.size, 3, none⟩ = some (.int .i64 x.c) := Nw2.out.cell 3
  have nc4 : w2.cell? ⟨w0.heap.size, 4, none⟩ = some (.int .i64 x.k) := Nw2.out.cell 4
  have nc5 : w2.cell? ⟨w0.heap.size, 5, none⟩ = some (.int .i64 x.n) := Nw2.out.cell 5
  have nc6 : w2.cell? ⟨w0.heap.size, 6, none⟩ = some (.string x.t) := Nw2.out.cell 6
  have nl := Nw2.out.lt
  have yc0 : w2.cell? ⟨w1.heap.size, 0, none⟩ = some (.int .i64 r.k) := Yw2.out.cell 0
  have yc1 : w2.cell? ⟨w1.heap.size, 1, none⟩ = some (.int .i64 r.n) := Yw2.out.cell 1
  have yc2 : w2.cell? ⟨w1.heap.size, 2, none⟩ = some (.string r.t) := Yw2.out.cell 2
  have yl := Yw2.out.lt
  go_wp2_with fail
  refine (CB.out (w2.alloc (.cells #[.int .i64 s.k, .int .i64 s.n, .string s.t] 29))).mono ?_
  rintro e w3 ⟨rfl, hb⟩
  have Bw3 : Hid (Below w.heap.size w w3) := (Bw2.out.alloc Bw2.out.size (.cells #[.int .i64 s.k, .int .i64 s.n, .string s.t] 29)).trans (hb.mono (Bw2.out.alloc Bw2.out.size (.cells #[.int .i64 s.k, .int .i64 s.n, .string s.t] 29)).size)
  have Ew3 : Hid (Box w3 w.heap.size 43 #[.slice (some ⟨b, off, none⟩) n c]) := (Ew2.out.alloc _).belowS hb
  have Rw3 : Hid (Box w3 (w.heap.size + 1) 35 #[.int .i64 i, .int .i64 u.1, .int .i64 u.2.1, .string u.2.2, .int .i64 v.1, .int .i64 v.2.1, .string v.2.2]) := (Rw2.out.alloc _).belowS hb
  have Xw3 : Hid (Box w3 (w.heap.size + 2) 29 #[.int .i64 0, .int .i64 0, .string ⟨#[]⟩]) := (Xw2.out.alloc _).belowS hb
  have Nw3 : Hid (Box w3 w0.heap.size 121 #[.int .i64 x.o, .int .i64 x.a, .int .i64 x.b, .int .i64 x.c, .int .i64 x.k, .int .i64 x.n, .string x.t]) := (Nw2.out.alloc _).belowS hb
  have Yw3 : Hid (Box w3 w1.heap.size 29 #[.int .i64 r.k, .int .i64 r.n, .string r.t]) := (Yw2.out.alloc _).belowS hb
  have Zw3 : Hid (Box w3 w2.heap.size 29 #[.int .i64 s.k, .int .i64 s.n, .string s.t]) := (Box.new w2 #[.int .i64 s.k, .int .i64 s.n, .string s.t] 29).belowS hb
  clear hb
  clear ec0 el rc0 rc1 rc2 rc3 rc4 rc5 rc6 rl xc0 xc1 xc2 xl xt0 xt1 xt2 nc0 nc1 nc2 nc3 nc4 nc5 nc6 nl yc0 yc1 yc2 yl
  have xc0 : w3.cell? ⟨(w.heap.size + 2), 0, none⟩ = some (.int .i64 0) := Xw3.out.cell 0
  have xc1 : w3.cell? ⟨(w.heap.size + 2), 1, none⟩ = some (.int .i64 0) := Xw3.out.cell 1
  have xc2 : w3.cell? ⟨(w.heap.size + 2), 2, none⟩ = some (.string ⟨#[]⟩) := Xw3.out.cell 2
  have xl := Xw3.out.lt
  have xt0 := Xw3.out.thaw 0
  have xt1 := Xw3.out.thaw 1
  have xt2 := Xw3.out.thaw 2
  go_wp2
  refine ret32 Tryd.results37 rfl rfl rfl (put3_box Xw3.out _ _ _) ⟨?_, put3_below Bw3.out (by omega) _ _ _⟩
  rw [E.out]
  rfl
set_option maxRecDepth 100000 in
set_option maxHeartbeats 4000000 in
theorem c_le_Eb (L : List EN) (a : Option Addr) (n c k : Nat) (x : EN) (i : Int) (u v : VV) (w : World) (hr : RdE w a n L) (hk : k < n) (hn : n ≤ 1048576) (hx : x = L.getD k zeroE) (r : EV) (IH : Hid (∀ W, Below w.heap.size w W → Calls Tryd.prog 37 #[.agg #[.slice a n c], .int .i64 x.a, .agg #[.int .i64 i, .int .i64 u.1, .int .i64 u.2.1, .string u.2.2, .int .i64 v.1, .int .i64 v.2.1, .string v.2.2]] W fun e w' => e = .returned (.tuple #[.agg #[.int .i64 r.k, .int .i64 r.n, .string r.t], .int .i64 r.c]) ∧ Below W.heap.size W w')) (s : EV) (IJ : Hid (∀ W, Below w.heap.size w W → Calls Tryd.prog 37 #[.agg #[.slice a n c], .int .i64 x.b, .agg #[.int .i64 i, .int .i64 u.1, .int .i64 u.2.1, .string u.2.2, .int .i64 v.1, .int .i64 v.2.1, .string v.2.2]] W fun e w' => e = .returned (.tuple #[.agg #[.int .i64 s.k, .int .i64 s.n, .string s.t], .int .i64 s.c]) ∧ Below W.heap.size W w')) (o1 : (x.o == 1) = false) (o2 : (x.o == 2) = false) (cr : (r.c != 0) = false) (l5 : decide (x.o ≤ 5) = false) (o12 : (x.o == 12) = true) (k1 : (r.k == 1) = true) (n0 : (r.n == 0) = false) (o13 : (x.o == 13) = false) (cs : (s.c != 0) = true) (q : EV) (E : Hid (q = errE s.c)) :
    Calls Tryd.prog 37 #[.agg #[.slice a n c], .int .i64 (k : Int), .agg #[.int .i64 i, .int .i64 u.1, .int .i64 u.2.1, .string u.2.2, .int .i64 v.1, .int .i64 v.2.1, .string v.2.2]] w fun e w' => e = .returned (.tuple #[.agg #[.int .i64 q.k, .int .i64 q.n, .string q.t], .int .i64 q.c]) ∧ Below w.heap.size w w' := by
  obtain ⟨b, off, rfl, hbl, hc⟩ := hr.2 (by omega)
  obtain ⟨d0, d1, d2, d3, d4, d5, d6⟩ := RdE.at hc hk hx
  have g1 : (0 : Int) ≤ (k : Int) := by omega
  have g2 : (k : Int) < (n : Int) := by omega
  clear hc hx
  obtain ⟨w0, hw0⟩ : ∃ V, ((w.alloc (.cells #[.slice (some ⟨b, off, none⟩) n c] 43)).alloc (.cells #[.int .i64 i, .int .i64 u.1, .int .i64 u.2.1, .string u.2.2, .int .i64 v.1, .int .i64 v.2.1, .string v.2.2] 35)).alloc (.cells #[.int .i64 0, .int .i64 0, .string ⟨#[]⟩] 29) = V := ⟨_, rfl⟩
  have Bw0 : Hid (Below w.heap.size w w0) := by unfold Hid; rw [← hw0]; exact ((((Below.refl _ _).alloc (Nat.le_refl _) _).alloc (by simp) _).alloc (by simp; omega) _)
  have Ew0 : Hid (Box w0 w.heap.size 43 #[.slice (some ⟨b, off, none⟩) n c]) := by unfold Hid; rw [← hw0]; exact (((Box.new _ _ _).alloc _).alloc _)
  have Rw0 : Hid (Box w0 (w.heap.size + 1) 35 #[.int .i64 i, .int .i64 u.1, .int .i64 u.2.1, .string u.2.2, .int .i64 v.1, .int .i64 v.2.1, .string v.2.2]) := by unfold Hid; rw [← hw0]; exact ((Box.new2 _ _ _ _).alloc _)
  have Xw0 : Hid (Box w0 (w.heap.size + 2) 29 #[.int .i64 0, .int .i64 0, .string ⟨#[]⟩]) := by unfold Hid; rw [← hw0]; have := Box.new2 (w.alloc (.cells #[.slice (some ⟨b, off, none⟩) n c] 43)) (.cells #[.int .i64 i, .int .i64 u.1, .int .i64 u.2.1, .string u.2.2, .int .i64 v.1, .int .i64 v.2.1, .string v.2.2] 35) #[.int .i64 0, .int .i64 0, .string ⟨#[]⟩] 29; simpa using this
  have f0 := far6 (b := b) (o := off + k * 7) (Below.mono Bw0.out (Nat.le_refl _)) d0
  have f1 := far6 (b := b) (o := off + k * 7 + 1) (Below.mono Bw0.out (Nat.le_refl _)) d1
  have f2 := far6 (b := b) (o := off + k * 7 + 2) (Below.mono Bw0.out (Nat.le_refl _)) d2
  have f3 := far6 (b := b) (o := off + k * 7 + 3) (Below.mono Bw0.out (Nat.le_refl _)) d3
  have f4 := far6 (b := b) (o := off + k * 7 + 4) (Below.mono Bw0.out (Nat.le_refl _)) d4
  have f5 := far6 (b := b) (o := off + k * 7 + 5) (Below.mono Bw0.out (Nat.le_refl _)) d5
  have f6 := far6 (b := b) (o := off + k * 7 + 6) (Below.mono Bw0.out (Nat.le_refl _)) d6
  have bl0 : b < w0.heap.size := Nat.lt_of_lt_of_le hbl Bw0.out.size
  clear d0 d1 d2 d3 d4 d5 d6
  have ec0 : w0.cell? ⟨w.heap.size, 0, none⟩ = some (.slice (some ⟨b, off, none⟩) n c) := Ew0.out.cell 0
  have el := Ew0.out.lt
  have rc0 : w0.cell? ⟨(w.heap.size + 1), 0, none⟩ = some (.int .i64 i) := Rw0.out.cell 0
  have rc1 : w0.cell? ⟨(w.heap.size + 1), 1, none⟩ = some (.int .i64 u.1) := Rw0.out.cell 1
  have rc2 : w0.cell? ⟨(w.heap.size + 1), 2, none⟩ = some (.int .i64 u.2.1) := Rw0.out.cell 2
  have rc3 : w0.cell? ⟨(w.heap.size + 1), 3, none⟩ = some (.string u.2.2) := Rw0.out.cell 3
  have rc4 : w0.cell? ⟨(w.heap.size + 1), 4, none⟩ = some (.int .i64 v.1) := Rw0.out.cell 4
  have rc5 : w0.cell? ⟨(w.heap.size + 1), 5, none⟩ = some (.int .i64 v.2.1) := Rw0.out.cell 5
  have rc6 : w0.cell? ⟨(w.heap.size + 1), 6, none⟩ = some (.string v.2.2) := Rw0.out.cell 6
  have rl := Rw0.out.lt
  have xc0 : w0.cell? ⟨(w.heap.size + 2), 0, none⟩ = some (.int .i64 0) := Xw0.out.cell 0
  have xc1 : w0.cell? ⟨(w.heap.size + 2), 1, none⟩ = some (.int .i64 0) := Xw0.out.cell 1
  have xc2 : w0.cell? ⟨(w.heap.size + 2), 2, none⟩ = some (.string ⟨#[]⟩) := Xw0.out.cell 2
  have xl := Xw0.out.lt
  have xt0 := Xw0.out.thaw 0
  have xt1 := Xw0.out.thaw 1
  have xt2 := Xw0.out.thaw 2
  go_enter Tryd.func37, Tryd.ntmps37
  go_wp2_with fail
  refine (IH.out (w0.alloc (.cells #[.int .i64 x.o, .int .i64 x.a, .int .i64 x.b, .int .i64 x.c, .int .i64 x.k, .int .i64 x.n, .string x.t] 121)) ((Bw0.out.alloc Bw0.out.size _))).mono ?_
  rintro e w1 ⟨rfl, hb⟩
  have Bw1 : Hid (Below w.heap.size w w1) := (Bw0.out.alloc Bw0.out.size (.cells #[.int .i64 x.o, .int .i64 x.a, .int .i64 x.b, .int .i64 x.c, .int .i64 x.k, .int .i64 x.n, .string x.t] 121)).trans (hb.mono (Bw0.out.alloc Bw0.out.size (.cells #[.int .i64 x.o, .int .i64 x.a, .int .i64 x.b, .int .i64 x.c, .int .i64 x.k, .int .i64 x.n, .string x.t] 121)).size)
  have Ew1 : Hid (Box w1 w.heap.size 43 #[.slice (some ⟨b, off, none⟩) n c]) := (Ew0.out.alloc _).belowS hb
  have Rw1 : Hid (Box w1 (w.heap.size + 1) 35 #[.int .i64 i, .int .i64 u.1, .int .i64 u.2.1, .string u.2.2, .int .i64 v.1, .int .i64 v.2.1, .string v.2.2]) := (Rw0.out.alloc _).belowS hb
  have Xw1 : Hid (Box w1 (w.heap.size + 2) 29 #[.int .i64 0, .int .i64 0, .string ⟨#[]⟩]) := (Xw0.out.alloc _).belowS hb
  have Nw1 : Hid (Box w1 w0.heap.size 121 #[.int .i64 x.o, .int .i64 x.a, .int .i64 x.b, .int .i64 x.c, .int .i64 x.k, .int .i64 x.n, .string x.t]) := (Box.new w0 #[.int .i64 x.o, .int .i64 x.a, .int .i64 x.b, .int .i64 x.c, .int .i64 x.k, .int .i64 x.n, .string x.t] 121).belowS hb
  clear hb
  clear ec0 el rc0 rc1 rc2 rc3 rc4 rc5 rc6 rl xc0 xc1 xc2 xl xt0 xt1 xt2
  have ec0 : w1.cell? ⟨w.heap.size, 0, none⟩ = some (.slice (some ⟨b, off, none⟩) n c) := Ew1.out.cell 0
  have el := Ew1.out.lt
  have rc0 : w1.cell? ⟨(w.heap.size + 1), 0, none⟩ = some (.int .i64 i) := Rw1.out.cell 0
  have rc1 : w1.cell? ⟨(w.heap.size + 1), 1, none⟩ = some (.int .i64 u.1) := Rw1.out.cell 1
  have rc2 : w1.cell? ⟨(w.heap.size + 1), 2, none⟩ = some (.int .i64 u.2.1) := Rw1.out.cell 2
  have rc3 : w1.cell? ⟨(w.heap.size + 1), 3, none⟩ = some (.string u.2.2) := Rw1.out.cell 3
  have rc4 : w1.cell? ⟨(w.heap.size + 1), 4, none⟩ = some (.int .i64 v.1) := Rw1.out.cell 4
  have rc5 : w1.cell? ⟨(w.heap.size + 1), 5, none⟩ = some (.int .i64 v.2.1) := Rw1.out.cell 5
  have rc6 : w1.cell? ⟨(w.heap.size + 1), 6, none⟩ = some (.string v.2.2) := Rw1.out.cell 6
  have rl := Rw1.out.lt
  have xc0 : w1.cell? ⟨(w.heap.size + 2), 0, none⟩ = some (.int .i64 0) := Xw1.out.cell 0
  have xc1 : w1.cell? ⟨(w.heap.size + 2), 1, none⟩ = some (.int .i64 0) := Xw1.out.cell 1
  have xc2 : w1.cell? ⟨(w.heap.size + 2), 2, none⟩ = some (.string ⟨#[]⟩) := Xw1.out.cell 2
  have xl := Xw1.out.lt
  have xt0 := Xw1.out.thaw 0
  have xt1 := Xw1.out.thaw 1
  have xt2 := Xw1.out.thaw 2
  have nc0 : w1.cell? ⟨w0.heap.size, 0, none⟩ = some (.int .i64 x.o) := Nw1.out.cell 0
  have nc1 : w1.cell? ⟨w0.heap.size, 1, none⟩ = some (.int .i64 x.a) := Nw1.out.cell 1
  have nc2 : w1.cell? ⟨w0.heap.size, 2, none⟩ = some (.int .i64 x.b) := Nw1.out.cell 2
  have nc3 : w1.cell? ⟨w0.heap.size, 3, none⟩ = some (.int .i64 x.c) := Nw1.out.cell 3
  have nc4 : w1.cell? ⟨w0.heap.size, 4, none⟩ = some (.int .i64 x.k) := Nw1.out.cell 4
  have nc5 : w1.cell? ⟨w0.heap.size, 5, none⟩ = some (.int .i64 x.n) := Nw1.out.cell 5
  have nc6 : w1.cell? ⟨w0.heap.size, 6, none⟩ = some (.string x.t) := Nw1.out.cell 6
  have nl := Nw1.out.lt
  go_wp2_with fail
  refine (IJ.out (w1.alloc (.cells #[.int .i64 r.k, .int .i64 r.n, .string r.t] 29)) ((Bw1.out.alloc Bw1.out.size _))).mono ?_
  rintro e w2 ⟨rfl, hb⟩
  have Bw2 : Hid (Below w.heap.size w w2) := (Bw1.out.alloc Bw1.out.size (.cells #[.int .i64 r.k, .int .i64 r.n, .string r.t] 29)).trans (hb.mono (Bw1.out.alloc Bw1.out.size (.cells #[.int .i64 r.k, .int .i64 r.n, .string r.t] 29)).size)
  have Ew2 : Hid (Box w2 w.heap.size 43 #[.slice (some ⟨b, off, none⟩) n c]) := (Ew1.out.alloc _).belowS hb
  have Rw2 : Hid (Box w2 (w.heap.size + 1) 35 #[.int .i64 i, .int .i64 u.1, .int .i64 u.2.1, .string u.2.2, .int .i64 v.1, .int .i64 v.2.1, .string v.2.2]) := (Rw1.out.alloc _).belowS hb
  have Xw2 : Hid (Box w2 (w.heap.size + 2) 29 #[.int .i64 0, .int .i64 0, .string ⟨#[]⟩]) := (Xw1.out.alloc _).belowS hb
  have Nw2 : Hid (Box w2 w0.heap.size 121 #[.int .i64 x.o, .int .i64 x.a, .int .i64 x.b, .int .i64 x.c, .int .i64 x.k, .int .i64 x.n, .string x.t]) := (Nw1.out.alloc _).belowS hb
  have Yw2 : Hid (Box w2 w1.heap.size 29 #[.int .i64 r.k, .int .i64 r.n, .string r.t]) := (Box.new w1 #[.int .i64 r.k, .int .i64 r.n, .string r.t] 29).belowS hb
  clear hb
  clear ec0 el rc0 rc1 rc2 rc3 rc4 rc5 rc6 rl xc0 xc1 xc2 xl xt0 xt1 xt2 nc0 nc1 nc2 nc3 nc4 nc5 nc6 nl
  have ec0 : w2.cell? ⟨w.heap.size, 0, none⟩ = some (.slice (some ⟨b, off, none⟩) n c) := Ew2.out.cell 0
  have el := Ew2.out.lt
  have rc0 : w2.cell? ⟨(w.heap.size + 1), 0, none⟩ = some (.int .i64 i) := Rw2.out.cell 0
  have rc1 : w2.cell? ⟨(w.heap.size + 1), 1, none⟩ = some (.int .i64 u.1) := Rw2.out.cell 1
  have rc2 : w2.cell? ⟨(w.heap.size + 1), 2, none⟩ = some (.int .i64 u.2.1) := Rw2.out.cell 2
  have rc3 : w2.cell? ⟨(w.heap.size + 1), 3, none⟩ = some (.string u.2.2) := Rw2.out.cell 3
  have rc4 : w2.cell? ⟨(w.heap.size + 1), 4, none⟩ = some (.int .i64 v.1) := Rw2.out.cell 4
  have rc5 : w2.cell? ⟨(w.heap.size + 1), 5, none⟩ = some (.int .i64 v.2.1) := Rw2.out.cell 5
  have rc6 : w2.cell? ⟨(w.heap.size + 1), 6, none⟩ = some (.string v.2.2) := Rw2.out.cell 6
  have rl := Rw2.out.lt
  have xc0 : w2.cell? ⟨(w.heap.size + 2), 0, none⟩ = some (.int .i64 0) := Xw2.out.cell 0
  have xc1 : w2.cell? ⟨(w.heap.size + 2), 1, none⟩ = some (.int .i64 0) := Xw2.out.cell 1
  have xc2 : w2.cell? ⟨(w.heap.size + 2), 2, none⟩ = some (.string ⟨#[]⟩) := Xw2.out.cell 2
  have xl := Xw2.out.lt
  have xt0 := Xw2.out.thaw 0
  have xt1 := Xw2.out.thaw 1
  have xt2 := Xw2.out.thaw 2
  have nc0 : w2.cell? ⟨w0.heap.size, 0, none⟩ = some (.int .i64 x.o) := Nw2.out.cell 0
  have nc1 : w2.cell? ⟨w0.heap.size, 1, none⟩ = some (.int .i64 x.a) := Nw2.out.cell 1
  have nc2 : w2.cell? ⟨w0.heap.size, 2, none⟩ = some (.int .i64 x.b) := Nw2.out.cell 2
  have nc3 : w2.cell? ⟨w0.heap.size, 3, none⟩ = some (.int .i64 x.c) := Nw2.out.cell 3
  have nc4 : w2.cell? ⟨w0.heap.size, 4, none⟩ = some (.int .i64 x.k) := Nw2.out.cell 4
  have nc5 : w2.cell? ⟨w0.heap.size, 5, none⟩ = some (.int .i64 x.n) := Nw2.out.cell 5
  have nc6 : w2.cell? ⟨w0.heap.size, 6, none⟩ = some (.string x.t) := Nw2.out.cell 6
  have nl := Nw2.out.lt
  have yc0 : w2.cell? ⟨w1.heap.size, 0, none⟩ = some (.int .i64 r.k) := Yw2.out.cell 0
  have yc1 : w2.cell? ⟨w1.heap.size, 1, none⟩ = some (.int .i64 r.n) := Yw2.out.cell 1
  have yc2 : w2.cell? ⟨w1.heap.size, 2, none⟩ = some (.string r.t) := Yw2.out.cell 2
  have yl := Yw2.out.lt
  go_wp2
  have hbl9 : ∀ v0 v1 v2, Below w.heap.size w ((((w2).setCell ⟨(w.heap.size + 2), 0, none⟩ (v0)).setCell ⟨(w.heap.size + 2), 1, none⟩ (v1)).setCell ⟨(w.heap.size + 2), 2, none⟩ (v2)) := fun v0 v1 v2 => put3_below Bw2.out (by omega) v0 v1 v2
  refine ret32 Tryd.results37 rfl rfl rfl ((put3_box Xw2.out _ _ _).alloc _) ⟨?_, (hbl9 _ _ _).alloc (hbl9 _ _ _).size _⟩
  rw [E.out]
  rfl
set_option maxRecDepth 100000 in
set_option maxHeartbeats 4000000 in
theorem c_le_Vb (L : List EN) (a : Option Addr) (n c k : Nat) (x : EN) (i : Int) (u v : VV) (w : World) (hr : RdE w a n L) (hk : k < n) (hn : n ≤ 1048576) (hx : x = L.getD k zeroE) (r : EV) (IH : Hid (∀ W, Below w.heap.size w W → Calls Tryd.prog 37 #[.agg #[.slice a n c], .int .i64 x.a, .agg #[.int .i64 i, .int .i64 u.1, .int .i64 u.2.1, .string u.2.2, .int .i64 v.1, .int .i64 v.2.1, .string v.2.2]] W fun e w' => e = .returned (.tuple #[.agg #[.int .i64 r.k, .int .i64 r.n, .string r.t], .int .i64 r.c]) ∧ Below W.heap.size W w')) (s : EV) (IJ : Hid (∀ W, Below w.heap.size w W → Calls Tryd.prog 37 #[.agg #[.slice a n c], .int .i64 x.b, .agg #[.int .i64 i, .int .i64 u.1, .int .i64 u.2.1, .string u.2.2, .int .i64 v.1, .int .i64 v.2.1, .string v.2.2]] W fun e w' => e = .returned (.tuple #[.agg #[.int .i64 s.k, .int .i64 s.n, .string s.t], .int .i64 s.c]) ∧ Below W.heap.size W w')) (z : BR) (CB : Hid (∀ W, Calls Tryd.prog 44 #[.int .i64 x.o, .agg #[.int .i64 r.k, .int .i64 r.n, .string r.t], .agg #[.int .i64 s.k, .int .i64 s.n, .string s.t]] W fun e w' => e = .returned (.tuple #[.agg #[.int .i64 z.k, .int .i64 z.n, .string ⟨#[]⟩], .int .i64 z.c]) ∧ Below W.heap.size W w')) (o1 : (x.o == 1) = false) (o2 : (x.o == 2) = false) (cr : (r.c != 0) = false) (l5 : decide (x.o ≤ 5) = false) (o12 : (x.o == 12) = true) (k1 : (r.k == 1) = true) (n0 : (r.n == 0) = false) (o13 : (x.o == 13) = false) (cs : (s.c != 0) = false) (q : EV) (E : Hid (q = ofB z)) :
    Calls Tryd.prog 37 #[.agg #[.slice a n c], .int .i64 (k : Int), .agg #[.int .i64 i, .int .i64 u.1, .int .i64 u.2.1, .string u.2.2, .int .i64 v.1, .int .i64 v.2.1, .string v.2.2]] w fun e w' => e = .returned (.tuple #[.agg #[.int .i64 q.k, .int .i64 q.n, .string q.t], .int .i64 q.c]) ∧ Below w.heap.size w w' := by
  obtain ⟨b, off, rfl, hbl, hc⟩ := hr.2 (by omega)
  obtain ⟨d0, d1, d2, d3, d4, d5, d6⟩ := RdE.at hc hk hx
  have g1 : (0 : Int) ≤ (k : Int) := by omega
  have g2 : (k : Int) < (n : Int) := by omega
  clear hc hx
  obtain ⟨w0, hw0⟩ : ∃ V, ((w.alloc (.cells #[.slice (some ⟨b, off, none⟩) n c] 43)).alloc (.cells #[.int .i64 i, .int .i64 u.1, .int .i64 u.2.1, .string u.2.2, .int .i64 v.1, .int .i64 v.2.1, .string v.2.2] 35)).alloc (.cells #[.int .i64 0, .int .i64 0, .string ⟨#[]⟩] 29) = V := ⟨_, rfl⟩
  have Bw0 : Hid (Below w.heap.size w w0) := by unfold Hid; rw [← hw0]; exact ((((Below.refl _ _).alloc (Nat.le_refl _) _).alloc (by simp) _).alloc (by simp; omega) _)
  have Ew0 : Hid (Box w0 w.heap.size 43 #[.slice (some ⟨b, off, none⟩) n c]) := by unfold Hid; rw [← hw0]; exact (((Box.new _ _ _).alloc _).alloc _)
  have Rw0 : Hid (Box w0 (w.heap.size + 1) 35 #[.int .i64 i, .int .i64 u.1, .int .i64 u.2.1, .string u.2.2, .int .i64 v.1, .int .i64 v.2.1, .string v.2.2]) := by unfold Hid; rw [← hw0]; exact ((Box.new2 _ _ _ _).alloc _)
  have Xw0 : Hid (Box w0 (w.heap.size + 2) 29 #[.int .i64 0, .int .i64 0, .string ⟨#[]⟩]) := by unfold Hid; rw [← hw0]; have := Box.new2 (w.alloc (.cells #[.slice (some ⟨b, off, none⟩) n c] 43)) (.cells #[.int .i64 i, .int .i64 u.1, .int .i64 u.2.1, .string u.2.2, .int .i64 v.1, .int .i64 v.2.1, .string v.2.2] 35) #[.int .i64 0, .int .i64 0, .string ⟨#[]⟩] 29; simpa using this
  have f0 := far6 (b := b) (o := off + k * 7) (Below.mono Bw0.out (Nat.le_refl _)) d0
  have f1 := far6 (b := b) (o := off + k * 7 + 1) (Below.mono Bw0.out (Nat.le_refl _)) d1
  have f2 := far6 (b := b) (o := off + k * 7 + 2) (Below.mono Bw0.out (Nat.le_refl _)) d2
  have f3 := far6 (b := b) (o := off + k * 7 + 3) (Below.mono Bw0.out (Nat.le_refl _)) d3
  have f4 := far6 (b := b) (o := off + k * 7 + 4) (Below.mono Bw0.out (Nat.le_refl _)) d4
  have f5 := far6 (b := b) (o := off + k * 7 + 5) (Below.mono Bw0.out (Nat.le_refl _)) d5
  have f6 := far6 (b := b) (o := off + k * 7 + 6) (Below.mono Bw0.out (Nat.le_refl _)) d6
  have bl0 : b < w0.heap.size := Nat.lt_of_lt_of_le hbl Bw0.out.size
  clear d0 d1 d2 d3 d4 d5 d6
  have ec0 : w0.cell? ⟨w.heap.size, 0, none⟩ = some (.slice (some ⟨b, off, none⟩) n c) := Ew0.out.cell 0
  have el := Ew0.out.lt
  have rc0 : w0.cell? ⟨(w.heap.size + 1), 0, none⟩ = some (.int .i64 i) := Rw0.out.cell 0
  have rc1 : w0.cell? ⟨(w.heap.size + 1), 1, none⟩ = some (.int .i64 u.1) := Rw0.out.cell 1
  have rc2 : w0.cell? ⟨(w.heap.size + 1), 2, none⟩ = some (.int .i64 u.2.1) := Rw0.out.cell 2
  have rc3 : w0.cell? ⟨(w.heap.size + 1), 3, none⟩ = some (.string u.2.2) := Rw0.out.cell 3
  have rc4 : w0.cell? ⟨(w.heap.size + 1), 4, none⟩ = some (.int .i64 v.1) := Rw0.out.cell 4
  have rc5 : w0.cell? ⟨(w.heap.size + 1), 5, none⟩ = some (.int .i64 v.2.1) := Rw0.out.cell 5
  have rc6 : w0.cell? ⟨(w.heap.size + 1), 6, none⟩ = some (.string v.2.2) := Rw0.out.cell 6
  have rl := Rw0.out.lt
  have xc0 : w0.cell? ⟨(w.heap.size + 2), 0, none⟩ = some (.int .i64 0) := Xw0.out.cell 0
  have xc1 : w0.cell? ⟨(w.heap.size + 2), 1, none⟩ = some (.int .i64 0) := Xw0.out.cell 1
  have xc2 : w0.cell? ⟨(w.heap.size + 2), 2, none⟩ = some (.string ⟨#[]⟩) := Xw0.out.cell 2
  have xl := Xw0.out.lt
  have xt0 := Xw0.out.thaw 0
  have xt1 := Xw0.out.thaw 1
  have xt2 := Xw0.out.thaw 2
  go_enter Tryd.func37, Tryd.ntmps37
  go_wp2_with fail
  refine (IH.out (w0.alloc (.cells #[.int .i64 x.o, .int .i64 x.a, .int .i64 x.b, .int .i64 x.c, .int .i64 x.k, .int .i64 x.n, .string x.t] 121)) ((Bw0.out.alloc Bw0.out.size _))).mono ?_
  rintro e w1 ⟨rfl, hb⟩
  have Bw1 : Hid (Below w.heap.size w w1) := (Bw0.out.alloc Bw0.out.size (.cells #[.int .i64 x.o, .int .i64 x.a, .int .i64 x.b, .int .i64 x.c, .int .i64 x.k, .int .i64 x.n, .string x.t] 121)).trans (hb.mono (Bw0.out.alloc Bw0.out.size (.cells #[.int .i64 x.o, .int .i64 x.a, .int .i64 x.b, .int .i64 x.c, .int .i64 x.k, .int .i64 x.n, .string x.t] 121)).size)
  have Ew1 : Hid (Box w1 w.heap.size 43 #[.slice (some ⟨b, off, none⟩) n c]) := (Ew0.out.alloc _).belowS hb
  have Rw1 : Hid (Box w1 (w.heap.size + 1) 35 #[.int .i64 i, .int .i64 u.1, .int .i64 u.2.1, .string u.2.2, .int .i64 v.1, .int .i64 v.2.1, .string v.2.2]) := (Rw0.out.alloc _).belowS hb
  have Xw1 : Hid (Box w1 (w.heap.size + 2) 29 #[.int .i64 0, .int .i64 0, .string ⟨#[]⟩]) := (Xw0.out.alloc _).belowS hb
  have Nw1 : Hid (Box w1 w0.heap.size 121 #[.int .i64 x.o, .int .i64 x.a, .int .i64 x.b, .int .i64 x.c, .int .i64 x.k, .int .i64 x.n, .string x.t]) := (Box.new w0 #[.int .i64 x.o, .int .i64 x.a, .int .i64 x.b, .int .i64 x.c, .int .i64 x.k, .int .i64 x.n, .string x.t] 121).belowS hb
  clear hb
  clear ec0 el rc0 rc1 rc2 rc3 rc4 rc5 rc6 rl xc0 xc1 xc2 xl xt0 xt1 xt2
  have ec0 : w1.cell? ⟨w.heap.size, 0, none⟩ = some (.slice (some ⟨b, off, none⟩) n c) := Ew1.out.cell 0
  have el := Ew1.out.lt
  have rc0 : w1.cell? ⟨(w.heap.size + 1), 0, none⟩ = some (.int .i64 i) := Rw1.out.cell 0
  have rc1 : w1.cell? ⟨(w.heap.size + 1), 1, none⟩ = some (.int .i64 u.1) := Rw1.out.cell 1
  have rc2 : w1.cell? ⟨(w.heap.size + 1), 2, none⟩ = some (.int .i64 u.2.1) := Rw1.out.cell 2
  have rc3 : w1.cell? ⟨(w.heap.size + 1), 3, none⟩ = some (.string u.2.2) := Rw1.out.cell 3
  have rc4 : w1.cell? ⟨(w.heap.size + 1), 4, none⟩ = some (.int .i64 v.1) := Rw1.out.cell 4
  have rc5 : w1.cell? ⟨(w.heap.size + 1), 5, none⟩ = some (.int .i64 v.2.1) := Rw1.out.cell 5
  have rc6 : w1.cell? ⟨(w.heap.size + 1), 6, none⟩ = some (.string v.2.2) := Rw1.out.cell 6
  have rl := Rw1.out.lt
  have xc0 : w1.cell? ⟨(w.heap.size + 2), 0, none⟩ = some (.int .i64 0) := Xw1.out.cell 0
  have xc1 : w1.cell? ⟨(w.heap.size + 2), 1, none⟩ = some (.int .i64 0) := Xw1.out.cell 1
  have xc2 : w1.cell? ⟨(w.heap.size + 2), 2, none⟩ = some (.string ⟨#[]⟩) := Xw1.out.cell 2
  have xl := Xw1.out.lt
  have xt0 := Xw1.out.thaw 0
  have xt1 := Xw1.out.thaw 1
  have xt2 := Xw1.out.thaw 2
  have nc0 : w1.cell? ⟨w0.heap.size, 0, none⟩ = some (.int .i64 x.o) := Nw1.out.cell 0
  have nc1 : w1.cell? ⟨w0.heap.size, 1, none⟩ = some (.int .i64 x.a) := Nw1.out.cell 1
  have nc2 : w1.cell? ⟨w0.heap.size, 2, none⟩ = some (.int .i64 x.b) := Nw1.out.cell 2
  have nc3 : w1.cell? ⟨w0.heap.size, 3, none⟩ = some (.int .i64 x.c) := Nw1.out.cell 3
  have nc4 : w1.cell? ⟨w0.heap.size, 4, none⟩ = some (.int .i64 x.k) := Nw1.out.cell 4
  have nc5 : w1.cell? ⟨w0.heap.size, 5, none⟩ = some (.int .i64 x.n) := Nw1.out.cell 5
  have nc6 : w1.cell? ⟨w0.heap.size, 6, none⟩ = some (.string x.t) := Nw1.out.cell 6
  have nl := Nw1.out.lt
  go_wp2_with fail
  refine (IJ.out (w1.alloc (.cells #[.int .i64 r.k, .int .i64 r.n, .string r.t] 29)) ((Bw1.out.alloc Bw1.out.size _))).mono ?_
  rintro e w2 ⟨rfl, hb⟩
  have Bw2 : Hid (Below w.heap.size w w2) := (Bw1.out.alloc Bw1.out.size (.cells #[.int .i64 r.k, .int .i64 r.n, .string r.t] 29)).trans (hb.mono (Bw1.out.alloc Bw1.out.size (.cells #[.int .i64 r.k, .int .i64 r.n, .string r.t] 29)).size)
  have Ew2 : Hid (Box w2 w.heap.size 43 #[.slice (some ⟨b, off, none⟩) n c]) := (Ew1.out.alloc _).belowS hb
  have Rw2 : Hid (Box w2 (w.heap.size + 1) 35 #[.int .i64 i, .int .i64 u.1, .int .i64 u.2.1, .string u.2.2, .int .i64 v.1, .int .i64 v.2.1, .string v.2.2]) := (Rw1.out.alloc _).belowS hb
  have Xw2 : Hid (Box w2 (w.heap.size + 2) 29 #[.int .i64 0, .int .i64 0, .string ⟨#[]⟩]) := (Xw1.out.alloc _).belowS hb
  have Nw2 : Hid (Box w2 w0.heap.size 121 #[.int .i64 x.o, .int .i64 x.a, .int .i64 x.b, .int .i64 x.c, .int .i64 x.k, .int .i64 x.n, .string x.t]) := (Nw1.out.alloc _).belowS hb
  have Yw2 : Hid (Box w2 w1.heap.size 29 #[.int .i64 r.k, .int .i64 r.n, .string r.t]) := (Box.new w1 #[.int .i64 r.k, .int .i64 r.n, .string r.t] 29).belowS hb
  clear hb
  clear ec0 el rc0 rc1 rc2 rc3 rc4 rc5 rc6 rl xc0 xc1 xc2 xl xt0 xt1 xt2 nc0 nc1 nc2 nc3 nc4 nc5 nc6 nl
  have ec0 : w2.cell? ⟨w.heap.size, 0, none⟩ = some (.slice (some ⟨b, off, none⟩) n c) := Ew2.out.cell 0
  have el := Ew2.out.lt
  have rc0 : w2.cell? ⟨(w.heap.size + 1), 0, none⟩ = some (.int .i64 i) := Rw2.out.cell 0
  have rc1 : w2.cell? ⟨(w.heap.size + 1), 1, none⟩ = some (.int .i64 u.1) := Rw2.out.cell 1
  have rc2 : w2.cell? ⟨(w.heap.size + 1), 2, none⟩ = some (.int .i64 u.2.1) := Rw2.out.cell 2
  have rc3 : w2.cell? ⟨(w.heap.size + 1), 3, none⟩ = some (.string u.2.2) := Rw2.out.cell 3
  have rc4 : w2.cell? ⟨(w.heap.size + 1), 4, none⟩ = some (.int .i64 v.1) := Rw2.out.cell 4
  have rc5 : w2.cell? ⟨(w.heap.size + 1), 5, none⟩ = some (.int .i64 v.2.1) := Rw2.out.cell 5
  have rc6 : w2.cell? ⟨(w.heap.size + 1), 6, none⟩ = some (.string v.2.2) := Rw2.out.cell 6
  have rl := Rw2.out.lt
  have xc0 : w2.cell? ⟨(w.heap.size + 2), 0, none⟩ = some (.int .i64 0) := Xw2.out.cell 0
  have xc1 : w2.cell? ⟨(w.heap.size + 2), 1, none⟩ = some (.int .i64 0) := Xw2.out.cell 1
  have xc2 : w2.cell? ⟨(w.heap.size + 2), 2, none⟩ = some (.string ⟨#[]⟩) := Xw2.out.cell 2
  have xl := Xw2.out.lt
  have xt0 := Xw2.out.thaw 0
  have xt1 := Xw2.out.thaw 1
  have xt2 := Xw2.out.thaw 2
  have nc0 : w2.cell? ⟨w0.heap.size, 0, none⟩ = some (.int .i64 x.o) := Nw2.out.cell 0
  have nc1 : w2.cell? ⟨w0.heap.size, 1, none⟩ = some (.int .i64 x.a) := Nw2.out.cell 1
  have nc2 : w2.cell? ⟨w0.heap.size, 2, none⟩ = some (.int .i64 x.b) := Nw2.out.cell 2
  have nc3 : w2.cell? ⟨w0.heap.size, 3, none⟩ = some (.int .i64 x.c) := Nw2.out.cell 3
  have nc4 : w2.cell? ⟨w0.heap.size, 4, none⟩ = some (.int .i64 x.k) := Nw2.out.cell 4
  have nc5 : w2.cell? ⟨w0.heap.size, 5, none⟩ = some (.int .i64 x.n) := Nw2.out.cell 5
  have nc6 : w2.cell? ⟨w0.heap.size, 6, none⟩ = some (.string x.t) := Nw2.out.cell 6
  have nl := Nw2.out.lt
  have yc0 : w2.cell? ⟨w1.heap.size, 0, none⟩ = some (.int .i64 r.k) := Yw2.out.cell 0
  have yc1 : w2.cell? ⟨w1.heap.size, 1, none⟩ = some (.int .i64 r.n) := Yw2.out.cell 1
  have yc2 : w2.cell? ⟨w1.heap.size, 2, none⟩ = some (.string r.t) := Yw2.out.cell 2
  have yl := Yw2.out.lt
  go_wp2_with fail
  refine (CB.out (w2.alloc (.cells #[.int .i64 s.k, .int .i64 s.n, .string s.t] 29))).mono ?_
  rintro e w3 ⟨rfl, hb⟩
  have Bw3 : Hid (Below w.heap.size w w3) := (Bw2.out.alloc Bw2.out.size (.cells #[.int .i64 s.k, .int .i64 s.n, .string s.t] 29)).trans (hb.mono (Bw2.out.alloc Bw2.out.size (.cells #[.int .i64 s.k, .int .i64 s.n, .string s.t] 29)).size)
  have Ew3 : Hid (Box w3 w.heap.size 43 #[.slice (some ⟨b, off, none⟩) n c]) := (Ew2.out.alloc _).belowS hb
  have Rw3 : Hid (Box w3 (w.heap.size + 1) 35 #[.int .i64 i, .int .i64 u.1, .int .i64 u.2.1, .string u.2.2, .int .i64 v.1, .int .i64 v.2.1, .string v.2.2]) := (Rw2.out.alloc _).belowS hb
  have Xw3 : Hid (Box w3 (w.heap.size + 2) 29 #[.int .i64 0, .int .i64 0, .string ⟨#[]⟩]) := (Xw2.out.alloc _).belowS hb
  have Nw3 : Hid (Box w3 w0.heap.size 121 #[.int .i64 x.o, .int .i64 x.a, .int .i64 x.b, .int .i64 x.c, .int .i64 x.k, .int .i64 x.n, .string x.t]) := (Nw2.out.alloc _).belowS hb
  have Yw3 : Hid (Box w3 w1.heap.size 29 #[.int .i64 r.k, .int .i64 r.n, .string r.t]) := (Yw2.out.alloc _).belowS hb
  have Zw3 : Hid (Box w3 w2.heap.size 29 #[.int .i64 s.k, .int .i64 s.n, .string s.t]) := (Box.new w2 #[.int .i64 s.k, .int .i64 s.n, .string s.t] 29).belowS hb
  clear hb
  clear ec0 el rc0 rc1 rc2 rc3 rc4 rc5 rc6 rl xc0 xc1 xc2 xl xt0 xt1 xt2 nc0 nc1 nc2 nc3 nc4 nc5 nc6 nl yc0 yc1 yc2 yl
  have xc0 : w3.cell? ⟨(w.heap.size + 2), 0, none⟩ = some (.int .i64 0) := Xw3.out.cell 0
  have xc1 : w3.cell? ⟨(w.heap.size + 2), 1, none⟩ = some (.int .i64 0) := Xw3.out.cell 1
  have xc2 : w3.cell? ⟨(w.heap.size + 2), 2, none⟩ = some (.string ⟨#[]⟩) := Xw3.out.cell 2
  have xl := Xw3.out.lt
  have xt0 := Xw3.out.thaw 0
  have xt1 := Xw3.out.thaw 1
  have xt2 := Xw3.out.thaw 2
  go_wp2
  refine ret32 Tryd.results37 rfl rfl rfl (put3_box Xw3.out _ _ _) ⟨?_, put3_below Bw3.out (by omega) _ _ _⟩
  rw [E.out]
  rfl
set_option maxRecDepth 100000 in
set_option maxHeartbeats 4000000 in
theorem c_le_Ec (L : List EN) (a : Option Addr) (n c k : Nat) (x : EN) (i : Int) (u v : VV) (w : World) (hr : RdE w a n L) (hk : k < n) (hn : n ≤ 1048576) (hx : x = L.getD k zeroE) (r : EV) (IH : Hid (∀ W, Below w.heap.size w W → Calls Tryd.prog 37 #[.agg #[.slice a n c], .int .i64 x.a, .agg #[.int .i64 i, .int .i64 u.1, .int .i64 u.2.1, .string u.2.2, .int .i64 v.1, .int .i64 v.2.1, .string v.2.2]] W fun e w' => e = .returned (.tuple #[.agg #[.int .i64 r.k, .int .i64 r.n, .string r.t], .int .i64 r.c]) ∧ Below W.heap.size W w')) (s : EV) (IJ : Hid (∀ W, Below w.heap.size w W → Calls Tryd.prog 37 #[.agg #[.slice a n c], .int .i64 x.b, .agg #[.int .i64 i, .int .i64 u.1, .int .i64 u.2.1, .string u.2.2, .int .i64 v.1, .int .i64 v.2.1, .string v.2.2]] W fun e w' => e = .returned (.tuple #[.agg #[.int .i64 s.k, .int .i64 s.n, .string s.t], .int .i64 s.c]) ∧ Below W.heap.size W w')) (o1 : (x.o == 1) = false) (o2 : (x.o == 2) = false) (cr : (r.c != 0) = false) (l5 : decide (x.o ≤ 5) = false) (o12 : (x.o == 12) = false) (o13 : (x.o == 13) = false) (cs : (s.c != 0) = true) (q : EV) (E : Hid (q = errE s.c)) :
    Calls Tryd.prog 37 #[.agg #[.slice a n c], .int .i64 (k : Int), .agg #[.int .i64 i, .int .i64 u.1, .int .i64 u.2.1, .string u.2.2, .int .i64 v.1, .int .i64 v.2.1, .string v.2.2]] w fun e w' => e = .returned (.tuple #[.agg #[.int .i64 q.k, .int .i64 q.n, .string q.t], .int .i64 q.c]) ∧ Below w.heap.size w w' := by
  obtain ⟨b, off, rfl, hbl, hc⟩ := hr.2 (by omega)
  obtain ⟨d0, d1, d2, d3, d4, d5, d6⟩ := RdE.at hc hk hx
  have g1 : (0 : Int) ≤ (k : Int) := by omega
  have g2 : (k : Int) < (n : Int) := by omega
  clear hc hx
  obtain ⟨w0, hw0⟩ : ∃ V, ((w.alloc (.cells #[.slice (some ⟨b, off, none⟩) n c] 43)).alloc (.cells #[.int .i64 i, .int .i64 u.1, .int .i64 u.2.1, .string u.2.2, .int .i64 v.1, .int .i64 v.2.1, .string v.2.2] 35)).alloc (.cells #[.int .i64 0, .int .i64 0, .string ⟨#[]⟩] 29) = V := ⟨_, rfl⟩
  have Bw0 : Hid (Below w.heap.size w w0) := by unfold Hid; rw [← hw0]; exact ((((Below.refl _ _).alloc (Nat.le_refl _) _).alloc (by simp) _).alloc (by simp; omega) _)
  have Ew0 : Hid (Box w0 w.heap.size 43 #[.slice (some ⟨b, off, none⟩) n c]) := by unfold Hid; rw [← hw0]; exact (((Box.new _ _ _).alloc _).alloc _)
  have Rw0 : Hid (Box w0 (w.heap.size + 1) 35 #[.int .i64 i, .int .i64 u.1, .int .i64 u.2.1, .string u.2.2, .int .i64 v.1, .int .i64 v.2.1, .string v.2.2]) := by unfold Hid; rw [← hw0]; exact ((Box.new2 _ _ _ _).alloc _)
  have Xw0 : Hid (Box w0 (w.heap.size + 2) 29 #[.int .i64 0, .int .i64 0, .string ⟨#[]⟩]) := by unfold Hid; rw [← hw0]; have := Box.new2 (w.alloc (.cells #[.slice (some ⟨b, off, none⟩) n c] 43)) (.cells #[.int .i64 i, .int .i64 u.1, .int .i64 u.2.1, .string u.2.2, .int .i64 v.1, .int .i64 v.2.1, .string v.2.2] 35) #[.int .i64 0, .int .i64 0, .string ⟨#[]⟩] 29; simpa using this
  have f0 := far6 (b := b) (o := off + k * 7) (Below.mono Bw0.out (Nat.le_refl _)) d0
  have f1 := far6 (b := b) (o := off + k * 7 + 1) (Below.mono Bw0.out (Nat.le_refl _)) d1
  have f2 := far6 (b := b) (o := off + k * 7 + 2) (Below.mono Bw0.out (Nat.le_refl _)) d2
  have f3 := far6 (b := b) (o := off + k * 7 + 3) (Below.mono Bw0.out (Nat.le_refl _)) d3
  have f4 := far6 (b := b) (o := off + k * 7 + 4) (Below.mono Bw0.out (Nat.le_refl _)) d4
  have f5 := far6 (b := b) (o := off + k * 7 + 5) (Below.mono Bw0.out (Nat.le_refl _)) d5
  have f6 := far6 (b := b) (o := off + k * 7 + 6) (Below.mono Bw0.out (Nat.le_refl _)) d6
  have bl0 : b < w0.heap.size := Nat.lt_of_lt_of_le hbl Bw0.out.size
  clear d0 d1 d2 d3 d4 d5 d6
  have ec0 : w0.cell? ⟨w.heap.size, 0, none⟩ = some (.slice (some ⟨b, off, none⟩) n c) := Ew0.out.cell 0
  have el := Ew0.out.lt
  have rc0 : w0.cell? ⟨(w.heap.size + 1), 0, none⟩ = some (.int .i64 i) := Rw0.out.cell 0
  have rc1 : w0.cell? ⟨(w.heap.size + 1), 1, none⟩ = some (.int .i64 u.1) := Rw0.out.cell 1
  have rc2 : w0.cell? ⟨(w.heap.size + 1), 2, none⟩ = some (.int .i64 u.2.1) := Rw0.out.cell 2
  have rc3 : w0.cell? ⟨(w.heap.size + 1), 3, none⟩ = some (.string u.2.2) := Rw0.out.cell 3
  have rc4 : w0.cell? ⟨(w.heap.size + 1), 4, none⟩ = some (.int .i64 v.1) := Rw0.out.cell 4
  have rc5 : w0.cell? ⟨(w.heap.size + 1), 5, none⟩ = some (.int .i64 v.2.1) := Rw0.out.cell 5
  have rc6 : w0.cell? ⟨(w.heap.size + 1), 6, none⟩ = some (.string v.2.2) := Rw0.out.cell 6
  have rl := Rw0.out.lt
  have xc0 : w0.cell? ⟨(w.heap.size + 2), 0, none⟩ = some (.int .i64 0) := Xw0.out.cell 0
  have xc1 : w0.cell? ⟨(w.heap.size + 2), 1, none⟩ = some (.int .i64 0) := Xw0.out.cell 1
  have xc2 : w0.cell? ⟨(w.heap.size + 2), 2, none⟩ = some (.string ⟨#[]⟩) := Xw0.out.cell 2
  have xl := Xw0.out.lt
  have xt0 := Xw0.out.thaw 0
  have xt1 := Xw0.out.thaw 1
  have xt2 := Xw0.out.thaw 2
  go_enter Tryd.func37, Tryd.ntmps37
  go_wp2_with fail
  refine (IH.out (w0.alloc (.cells #[.int .i64 x.o, .int .i64 x.a, .int .i64 x.b, .int .i64 x.c, .int .i64 x.k, .int .i64 x.n, .string x.t] 121)) ((Bw0.out.alloc Bw0.out.size _))).mono ?_
  rintro e w1 ⟨rfl, hb⟩
  have Bw1 : Hid (Below w.heap.size w w1) := (Bw0.out.alloc Bw0.out.size (.cells #[.int .i64 x.o, .int .i64 x.a, .int .i64 x.b, .int .i64 x.c, .int .i64 x.k, .int .i64 x.n, .string x.t] 121)).trans (hb.mono (Bw0.out.alloc Bw0.out.size (.cells #[.int .i64 x.o, .int .i64 x.a, .int .i64 x.b, .int .i64 x.c, .int .i64 x.k, .int .i64 x.n, .string x.t] 121)).size)
  have Ew1 : Hid (Box w1 w.heap.size 43 #[.slice (some ⟨b, off, none⟩) n c]) := (Ew0.out.alloc _).belowS hb
  have Rw1 : Hid (Box w1 (w.heap.size + 1) 35 #[.int .i64 i, .int .i64 u.1, .int .i64 u.2.1, .string u.2.2, .int .i64 v.1, .int .i64 v.2.1, .string v.2.2]) := (Rw0.out.alloc _).belowS hb
  have Xw1 : Hid (Box w1 (w.heap.size + 2) 29 #[.int .i64 0, .int .i64 0, .string ⟨#[]⟩]) := (Xw0.out.alloc _).belowS hb
  have Nw1 : Hid (Box w1 w0.heap.size 121 #[.int .i64 x.o, .int .i64 x.a, .int .i64 x.b, .int .i64 x.c, .int .i64 x.k, .int .i64 x.n, .string x.t]) := (Box.new w0 #[.int .i64 x.o, .int .i64 x.a, .int .i64 x.b, .int .i64 x.c, .int .i64 x.k, .int .i64 x.n, .string x.t] 121).belowS hb
  clear hb
  clear ec0 el rc0 rc1 rc2 rc3 rc4 rc5 rc6 rl xc0 xc1 xc2 xl xt0 xt1 xt2
  have ec0 : w1.cell? ⟨w.heap.size, 0, none⟩ = some (.slice (some ⟨b, off, none⟩) n c) := Ew1.out.cell 0
  have el := Ew1.out.lt
  have rc0 : w1.cell? ⟨(w.heap.size + 1), 0, none⟩ = some (.int .i64 i) := Rw1.out.cell 0
  have rc1 : w1.cell? ⟨(w.heap.size + 1), 1, none⟩ = some (.int .i64 u.1) := Rw1.out.cell 1
  have rc2 : w1.cell? ⟨(w.heap.size + 1), 2, none⟩ = some (.int .i64 u.2.1) := Rw1.out.cell 2
  have rc3 : w1.cell? ⟨(w.heap.size + 1), 3, none⟩ = some (.string u.2.2) := Rw1.out.cell 3
  have rc4 : w1.cell? ⟨(w.heap.size + 1), 4, none⟩ = some (.int .i64 v.1) := Rw1.out.cell 4
  have rc5 : w1.cell? ⟨(w.heap.size + 1), 5, none⟩ = some (.int .i64 v.2.1) := Rw1.out.cell 5
  have rc6 : w1.cell? ⟨(w.heap.size + 1), 6, none⟩ = some (.string v.2.2) := Rw1.out.cell 6
  have rl := Rw1.out.lt
  have xc0 : w1.cell? ⟨(w.heap.size + 2), 0, none⟩ = some (.int .i64 0) := Xw1.out.cell 0
  have xc1 : w1.cell? ⟨(w.heap.size + 2), 1, none⟩ = some (.int .i64 0) := Xw1.out.cell 1
  have xc2 : w1.cell? ⟨(w.heap.size + 2), 2, none⟩ = some (.string ⟨#[]⟩) := Xw1.out.cell 2
  have xl := Xw1.out.lt
  have xt0 := Xw1.out.thaw 0
  have xt1 := Xw1.out.thaw 1
  have xt2 := Xw1.out.thaw 2
  have nc0 : w1.cell? ⟨w0.heap.size, 0, none⟩ = some (.int .i64 x.o) := Nw1.out.cell 0
  have nc1 : w1.cell? ⟨w0.heap.size, 1, none⟩ = some (.int .i64 x.a) := Nw1.out.cell 1
  have nc2 : w1.cell? ⟨w0.heap.size, 2, none⟩ = some (.int .i64 x.b) := Nw1.out.cell 2
  have nc3 : w1.cell? ⟨w0.heap.size, 3, none⟩ = some (.int .i64 x.c) := Nw1.out.cell 3
  have nc4 : w1.cell? ⟨w0.heap.size, 4, none⟩ = some (.int .i64 x.k) := Nw1.out.cell 4
  have nc5 : w1.cell? ⟨w0.heap.size, 5, none⟩ = some (.int .i64 x.n) := Nw1.out.cell 5
  have nc6 : w1.cell? ⟨w0.heap.size, 6, none⟩ = some (.string x.t) := Nw1.out.cell 6
  have nl := Nw1.out.lt
  go_wp2_with fail
  refine (IJ.out (w1.alloc (.cells #[.int .i64 r.k, .int .i64 r.n, .string r.t] 29)) ((Bw1.out.alloc Bw1.out.size _))).mono ?_
  rintro e w2 ⟨rfl, hb⟩
  have Bw2 : Hid (Below w.heap.size w w2) := (Bw1.out.alloc Bw1.out.size (.cells #[.int .i64 r.k, .int .i64 r.n, .string r.t] 29)).trans (hb.mono (Bw1.out.alloc Bw1.out.size (.cells #[.int .i64 r.k, .int .i64 r.n, .string r.t] 29)).size)
  have Ew2 : Hid (Box w2 w.heap.size 43 #[.slice (some ⟨b, off, none⟩) n c]) := (Ew1.out.alloc _).belowS hb
  have Rw2 : Hid (Box w2 (w.heap.size + 1) 35 #[.int .i64 i, .int .i64 u.1, .int .i64 u.2.1, .string u.2.2, .int .i64 v.1, .int .i64 v.2.1, .string v.2.2]) := (Rw1.out.alloc _).belowS hb
  have Xw2 : Hid (Box w2 (w.heap.size + 2) 29 #[.int .i64 0, .int .i64 0, .string ⟨#[]⟩]) := (Xw1.out.alloc _).belowS hb
  have Nw2 : Hid (Box w2 w0.heap.size 121 #[.int .i64 x.o, .int .i64 x.a, .int .i64 x.b, .int .i64 x.c, .int .i64 x.k, .int .i64 x.n, .string x.t]) := (Nw1.out.alloc _).belowS hb
  have Yw2 : Hid (Box w2 w1.heap.size 29 #[.int .i64 r.k, .int .i64 r.n, .string r.t]) := (Box.new w1 #[.int .i64 r.k, .int .i64 r.n, .string r.t] 29).belowS hb
  clear hb
  clear ec0 el rc0 rc1 rc2 rc3 rc4 rc5 rc6 rl xc0 xc1 xc2 xl xt0 xt1 xt2 nc0 nc1 nc2 nc3 nc4 nc5 nc6 nl
  have ec0 : w2.cell? ⟨w.heap.size, 0, none⟩ = some (.slice (some ⟨b, off, none⟩) n c) := Ew2.out.cell 0
  have el := Ew2.out.lt
  have rc0 : w2.cell? ⟨(w.heap.size + 1), 0, none⟩ = some (.int .i64 i) := Rw2.out.cell 0
  have rc1 : w2.cell? ⟨(w.heap.size + 1), 1, none⟩ = some (.int .i64 u.1) := Rw2.out.cell 1
  have rc2 : w2.cell? ⟨(w.heap.size + 1), 2, none⟩ = some (.int .i64 u.2.1) := Rw2.out.cell 2
  have rc3 : w2.cell? ⟨(w.heap.size + 1), 3, none⟩ = some (.string u.2.2) := Rw2.out.cell 3
  have rc4 : w2.cell? ⟨(w.heap.size + 1), 4, none⟩ = some (.int .i64 v.1) := Rw2.out.cell 4
  have rc5 : w2.cell? ⟨(w.heap.size + 1), 5, none⟩ = some (.int .i64 v.2.1) := Rw2.out.cell 5
  have rc6 : w2.cell? ⟨(w.heap.size + 1), 6, none⟩ = some (.string v.2.2) := Rw2.out.cell 6
  have rl := Rw2.out.lt
  have xc0 : w2.cell? ⟨(w.heap.size + 2), 0, none⟩ = some (.int .i64 0) := Xw2.out.cell 0
  have xc1 : w2.cell? ⟨(w.heap.size + 2), 1, none⟩ = some (.int .i64 0) := Xw2.out.cell 1
  have xc2 : w2.cell? ⟨(w.heap.size + 2), 2, none⟩ = some (.string ⟨#[]⟩) := Xw2.out.cell 2
  have xl := Xw2.out.lt
  have xt0 := Xw2.out.thaw 0
  have xt1 := Xw2.out.thaw 1
  have xt2 := Xw2.out.thaw 2
  have nc0 : w2.cell? ⟨w0.heap.size, 0, none⟩ = some (.int .i64 x.o) := Nw2.out.cell 0
  have nc1 : w2.cell? ⟨w0.heap.size, 1, none⟩ = some (.int .i64 x.a) := Nw2.out.cell 1
  have nc2 : w2.cell? ⟨w0.heap.size, 2, none⟩ = some (.int .i64 x.b) := Nw2.out.cell 2
  have nc3 : w2.cell? ⟨w0.heap.size, 3, none⟩ = some (.int .i64 x.c) := Nw2.out.cell 3
  have nc4 : w2.cell? ⟨w0.heap.size, 4, none⟩ = some (.int .i64 x.k) := Nw2.out.cell 4
  have nc5 : w2.cell? ⟨w0.heap.size, 5, none⟩ = some (.int .i64 x.n) := Nw2.out.cell 5
  have nc6 : w2.cell? ⟨w0.heap.size, 6, none⟩ = some (.string x.t) := Nw2.out.cell 6
  have nl := Nw2.out.lt
  have yc0 : w2.cell? ⟨w1.heap.size, 0, none⟩ = some (.int .i64 r.k) := Yw2.out.cell 0
  have yc1 : w2.cell? ⟨w1.heap.size, 1, none⟩ = some (.int .i64 r.n) := Yw2.out.cell 1
  have yc2 : w2.cell? ⟨w1.heap.size, 2, none⟩ = some (.string r.t) := Yw2.out.cell 2
  have yl := Yw2.out.lt
  go_wp2
  have hbl9 : ∀ v0 v1 v2, Below w.heap.size w ((((w2).setCell ⟨(w.heap.size + 2), 0, none⟩ (v0)).setCell ⟨(w.heap.size + 2), 1, none⟩ (v1)).setCell ⟨(w.heap.size + 2), 2, none⟩ (v2)) := fun v0 v1 v2 => put3_below Bw2.out (by omega) v0 v1 v2
  refine ret32 Tryd.results37 rfl rfl rfl ((put3_box Xw2.out _ _ _).alloc _) ⟨?_, (hbl9 _ _ _).alloc (hbl9 _ _ _).size _⟩
  rw [E.out]
  rfl
set_option maxRecDepth 100000 in
set_option maxHeartbeats 4000000 in
theorem c_le_Vc (L : List EN) (a : Option Addr) (n c k : Nat) (x : EN) (i : Int) (u v : VV) (w : World) (hr : RdE w a n L) (hk : k < n) (hn : n ≤ 1048576) (hx : x = L.getD k zeroE) (r : EV) (IH : Hid (∀ W, Below w.heap.size w W → Calls Tryd.prog 37 #[.agg #[.slice a n c], .int .i64 x.a, .agg #[.int .i64 i, .int .i64 u.1, .int .i64 u.2.1, .string u.2.2, .int .i64 v.1, .int .i64 v.2.1, .string v.2.2]] W fun e w' => e = .returned (.tuple #[.agg #[.int .i64 r.k, .int .i64 r.n, .string r.t], .int .i64 r.c]) ∧ Below W.heap.size W w')) (s : EV) (IJ : Hid (∀ W, Below w.heap.size w W → Calls Tryd.prog 37 #[.agg #[.slice a n c], .int .i64 x.b, .agg #[.int .i64 i, .int .i64 u.1, .int .i64 u.2.1, .string u.2.2, .int .i64 v.1, .int .i64 v.2.1, .string v.2.2]] W fun e w' => e = .returned (.tuple #[.agg #[.int .i64 s.k, .int .i64 s.n, .string s.t], .int .i64 s.c]) ∧ Below W.heap.size W w')) (z : BR) (CB : Hid (∀ W, Calls Tryd.prog 44 #[.int .i64 x.o, .agg #[.int .i64 r.k, .int .i64 r.n, .string r.t], .agg #[.int .i64 s.k, .int .i64 s.n, .string s.t]] W fun e w' => e = .returned (.tuple #[.agg #[.int .i64 z.k, .int .i64 z.n, .string ⟨#[]⟩], .int .i64 z.c]) ∧ Below W.heap.size W w')) (o1 : (x.o == 1) = false) (o2 : (x.o == 2) = false) (cr : (r.c != 0) = false) (l5 : decide (x.o ≤ 5) = false) (o12 : (x.o == 12) = false) (o13 : (x.o == 13) = false) (cs : (s.c != 0) = false) (q : EV) (E : Hid (q = ofB z)) :
    Calls Tryd.prog 37 #[.agg #[.slice a n c], .int .i64 (k : Int), .agg #[.int .i64 i, .int .i64 u.1, .int .i64 u.2.1, .string u.2.2, .int .i64 v.1, .int .i64 v.2.1, .string v.2.2]] w fun e w' => e = .returned (.tuple #[.agg #[.int .i64 q.k, .int .i64 q.n, .string q.t], .int .i64 q.c]) ∧ Below w.heap.size w w' := by
  obtain ⟨b, off, rfl, hbl, hc⟩ := hr.2 (by omega)
  obtain ⟨d0, d1, d2, d3, d4, d5, d6⟩ := RdE.at hc hk hx
  have g1 : (0 : Int) ≤ (k : Int) := by omega
  have g2 : (k : Int) < (n : Int) := by omega
  clear hc hx
  obtain ⟨w0, hw0⟩ : ∃ V, ((w.alloc (.cells #[.slice (some ⟨b, off, none⟩) n c] 43)).alloc (.cells #[.int .i64 i, .int .i64 u.1, .int .i64 u.2.1, .string u.2.2, .int .i64 v.1, .int .i64 v.2.1, .string v.2.2] 35)).alloc (.cells #[.int .i64 0, .int .i64 0, .string ⟨#[]⟩] 29) = V := ⟨_, rfl⟩
  have Bw0 : Hid (Below w.heap.size w w0) := by unfold Hid; rw [← hw0]; exact ((((Below.refl _ _).alloc (Nat.le_refl _) _).alloc (by simp) _).alloc (by simp; omega) _)
  have Ew0 : Hid (Box w0 w.heap.size 43 #[.slice (some ⟨b, off, none⟩) n c]) := by unfold Hid; rw [← hw0]; exact (((Box.new _ _ _).alloc _).alloc _)
  have Rw0 : Hid (Box w0 (w.heap.size + 1) 35 #[.int .i64 i, .int .i64 u.1, .int .i64 u.2.1, .string u.2.2, .int .i64 v.1, .int .i64 v.2.1, .string v.2.2]) := by unfold Hid; rw [← hw0]; exact ((Box.new2 _ _ _ _).alloc _)
  have Xw0 : Hid (Box w0 (w.heap.size + 2) 29 #[.int .i64 0, .int .i64 0, .string ⟨#[]⟩]) := by unfold Hid; rw [← hw0]; have := Box.new2 (w.alloc (.cells #[.slice (some ⟨b, off, none⟩) n c] 43)) (.cells #[.int .i64 i, .int .i64 u.1, .int .i64 u.2.1, .string u.2.2, .int .i64 v.1, .int .i64 v.2.1, .string v.2.2] 35) #[.int .i64 0, .int .i64 0, .string ⟨#[]⟩] 29; simpa using this
  have f0 := far6 (b := b) (o := off + k * 7) (Below.mono Bw0.out (Nat.le_refl _)) d0
  have f1 := far6 (b := b) (o := off + k * 7 + 1) (Below.mono Bw0.out (Nat.le_refl _)) d1
  have f2 := far6 (b := b) (o := off + k * 7 + 2) (Below.mono Bw0.out (Nat.le_refl _)) d2
  have f3 := far6 (b := b) (o := off + k * 7 + 3) (Below.mono Bw0.out (Nat.le_refl _)) d3
  have f4 := far6 (b := b) (o := off + k * 7 + 4) (Below.mono Bw0.out (Nat.le_refl _)) d4
  have f5 := far6 (b := b) (o := off + k * 7 + 5) (Below.mono Bw0.out (Nat.le_refl _)) d5
  have f6 := far6 (b := b) (o := off + k * 7 + 6) (Below.mono Bw0.out (Nat.le_refl _)) d6
  have bl0 : b < w0.heap.size := Nat.lt_of_lt_of_le hbl Bw0.out.size
  clear d0 d1 d2 d3 d4 d5 d6
  have ec0 : w0.cell? ⟨w.heap.size, 0, none⟩ = some (.slice (some ⟨b, off, none⟩) n c) := Ew0.out.cell 0
  have el := Ew0.out.lt
  have rc0 : w0.cell? ⟨(w.heap.size + 1), 0, none⟩ = some (.int .i64 i) := Rw0.out.cell 0
  have rc1 : w0.cell? ⟨(w.heap.size + 1), 1, none⟩ = some (.int .i64 u.1) := Rw0.out.cell 1
  have rc2 : w0.cell? ⟨(w.heap.size + 1), 2, none⟩ = some (.int .i64 u.2.1) := Rw0.out.cell 2
  have rc3 : w0.cell? ⟨(w.heap.size + 1), 3, none⟩ = some (.string u.2.2) := Rw0.out.cell 3
  have rc4 : w0.cell? ⟨(w.heap.size + 1), 4, none⟩ = some (.int .i64 v.1) := Rw0.out.cell 4
  have rc5 : w0.cell? ⟨(w.heap.size + 1), 5, none⟩ = some (.int .i64 v.2.1) := Rw0.out.cell 5
  have rc6 : w0.cell? ⟨(w.heap.size + 1), 6, none⟩ = some (.string v.2.2) := Rw0.out.cell 6
  have rl := Rw0.out.lt
  have xc0 : w0.cell? ⟨(w.heap.size + 2), 0, none⟩ = some (.int .i64 0) := Xw0.out.cell 0
  have xc1 : w0.cell? ⟨(w.heap.size + 2), 1, none⟩ = some (.int .i64 0) := Xw0.out.cell 1
  have xc2 : w0.cell? ⟨(w.heap.size + 2), 2, none⟩ = some (.string ⟨#[]⟩) := Xw0.out.cell 2
  have xl := Xw0.out.lt
  have xt0 := Xw0.out.thaw 0
  have xt1 := Xw0.out.thaw 1
  have xt2 := Xw0.out.thaw 2
  go_enter Tryd.func37, Tryd.ntmps37
  go_wp2_with fail
  refine (IH.out (w0.alloc (.cells #[.int .i64 x.o, .int .i64 x.a, .int .i64 x.b, .int .i64 x.c, .int .i64 x.k, .int .i64 x.n, .string x.t] 121)) ((Bw0.out.alloc Bw0.out.size _))).mono ?_
  rintro e w1 ⟨rfl, hb⟩
  have Bw1 : Hid (Below w.heap.size w w1) := (Bw0.out.alloc Bw0.out.size (.cells #[.int .i64 x.o, .int .i64 x.a, .int .i64 x.b, .int .i64 x.c, .int .i64 x.k, .int .i64 x.n, .string x.t] 121)).trans (hb.mono (Bw0.out.alloc Bw0.out.size (.cells #[.int .i64 x.o, .int .i64 x.a, .int .i64 x.b, .int .i64 x.c, .int .i64 x.k, .int .i64 x.n, .string x.t] 121)).size)
  have Ew1 : Hid (Box w1 w.heap.size 43 #[.slice (some ⟨b, off, none⟩) n c]) := (Ew0.out.alloc _).belowS hb
  have Rw1 : Hid (Box w1 (w.heap.size + 1) 35 #[.int .i64 i, .int .i64 u.1, .int .i64 u.2.1, .string u.2.2, .int .i64 v.1, .int .i64 v.2.1, .string v.2.2]) := (Rw0.out.alloc _).belowS hb
  have Xw1 : Hid (Box w1 (w.heap.size + 2) 29 #[.int .i64 0, .int .i64 0, .string ⟨#[]⟩]) := (Xw0.out.alloc _).belowS hb
  have Nw1 : Hid (Box w1 w0.heap.size 121 #[.int .i64 x.o, .int .i64 x.a, .int .i64 x.b, .int .i64 x.c, .int .i64 x.k, .int .i64 x.n, .string x.t]) := (Box.new w0 #[.int .i64 x.o, .int .i64 x.a, .int .i64 x.b, .int .i64 x.c, .int .i64 x.k, .int .i64 x.n, .string x.t] 121).belowS hb
  clear hb
  clear ec0 el rc0 rc1 rc2 rc3 rc4 rc5 rc6 rl xc0 xc1 xc2 xl xt0 xt1 xt2
  have ec0 : w1.cell? ⟨w.heap.size, 0, none⟩ = some (.slice (some ⟨b, off, none⟩) n c) := Ew1.out.cell 0
  have el := Ew1.out.lt
  have rc0 : w1.cell? ⟨(w.heap.size + 1), 0, none⟩ = some (.int .i64 i) := Rw1.out.cell 0
  have rc1 : w1.cell? ⟨(w.heap.size + 1), 1, none⟩ = some (.int .i64 u.1) := Rw1.out.cell 1
  have rc2 : w1.cell? ⟨(w.heap.size + 1), 2, none⟩ = some (.int .i64 u.2.1) := Rw1.out.cell 2
  have rc3 : w1.cell? ⟨(w.heap.size + 1), 3, none⟩ = some (.string u.2.2) := Rw1.out.cell 3
  have rc4 : w1.cell? ⟨(w.heap.size + 1), 4, none⟩ = some (.int .i64 v.1) := Rw1.out.cell 4
  have rc5 : w1.cell? ⟨(w.heap.size + 1), 5, none⟩ = some (.int .i64 v.2.1) := Rw1.out.cell 5
  have rc6 : w1.cell? ⟨(w.heap.size + 1), 6, none⟩ = some (.string v.2.2) := Rw1.out.cell 6
  have rl := Rw1.out.lt
  have xc0 : w1.cell? ⟨(w.heap.size + 2), 0, none⟩ = some (.int .i64 0) := Xw1.out.cell 0
  have xc1 : w1.cell? ⟨(w.heap.size + 2), 1, none⟩ = some (.int .i64 0) := Xw1.out.cell 1
  have xc2 : w1.cell? ⟨(w.heap.size + 2), 2, none⟩ = some (.string ⟨#[]⟩) := Xw1.out.cell 2
  have xl := Xw1.out.lt
  have xt0 := Xw1.out.thaw 0
  have xt1 := Xw1.out.thaw 1
  have xt2 := Xw1.out.thaw 2
  have nc0 : w1.cell? ⟨w0.heap.size, 0, none⟩ = some (.int .i64 x.o) := Nw1.out.cell 0
  have nc1 : w1.cell? ⟨w0.heap.size, 1, none⟩ = some (.int .i64 x.a) := Nw1.out.cell 1
  have nc2 : w1.cell? ⟨w0.heap.size, 2, none⟩ = some (.int .i64 x.b) := Nw1.out.cell 2
  have nc3 : w1.cell? ⟨w0.heap.size, 3, none⟩ = some (.int .i64 x.c) := Nw1.out.cell 3
  have nc4 : w1.cell? ⟨w0.heap.size, 4, none⟩ = some (.int .i64 x.k) := Nw1.out.cell 4
  have nc5 : w1.cell? ⟨w0.heap.size, 5, none⟩ = some (.int .i64 x.n) := Nw1.out.cell 5
  have nc6 : w1.cell? ⟨w0.heap.size, 6, none⟩ = some (.string x.t) := Nw1.out.cell 6
  have nl := Nw1.out.lt
  go_wp2_with fail
  refine (IJ.out (w1.alloc (.cells #[.int .i64 r.k, .int .i64 r.n, .string r.t] 29)) ((Bw1.out.alloc Bw1.out.size _))).mono ?_
  rintro e w2 ⟨rfl, hb⟩
  have Bw2 : Hid (Below w.heap.size w w2) := (Bw1.out.alloc Bw1.out.size (.cells #[.int .i64 r.k, .int .i64 r.n, .string r.t] 29)).trans (hb.mono (Bw1.out.alloc Bw1.out.size (.cells #[.int .i64 r.k, .int .i64 r.n, .string r.t] 29)).size)
  have Ew2 : Hid (Box w2 w.heap.size 43 #[.slice (some ⟨b, off, none⟩) n c]) := (Ew1.out.alloc _).belowS hb
  have Rw2 : Hid (Box w2 (w.heap.size + 1) 35 #[.int .i64 i, .int .i64 u.1, .int .i64 u.2.1, .string u.2.2, .int .i64 v.1, .int .i64 v.2.1, .string v.2.2]) := (Rw1.out.alloc _).belowS hb
  have Xw2 : Hid (Box w2 (w.heap.size + 2) 29 #[.int .i64 0, .int .i64 0, .string ⟨#[]⟩]) := (Xw1.out.alloc _).belowS hb
  have Nw2 : Hid (Box w2 w0.heap.size 121 #[.int .i64 x.o, .int .i64 x.a, .int .i64 x.b, .int .i64 x.c, .int .i64 x.k, .int .i64 x.n, .string x.t]) := (Nw1.out.alloc _).belowS hb
  have Yw2 : Hid (Box w2 w1.heap.size 29 #[.int .i64 r.k, .int .i64 r.n, .string r.t]) := (Box.new w1 #[.int .i64 r.k, .int .i64 r.n, .string r.t] 29).belowS hb
  clear hb
  clear ec0 el rc0 rc1 rc2 rc3 rc4 rc5 rc6 rl xc0 xc1 xc2 xl xt0 xt1 xt2 nc0 nc1 nc2 nc3 nc4 nc5 nc6 nl
  have ec0 : w2.cell? ⟨w.heap.size, 0, none⟩ = some (.slice (some ⟨b, off, none⟩) n c) := Ew2.out.cell 0
  have el := Ew2.out.lt
  have rc0 : w2.cell? ⟨(w.heap.size + 1), 0, none⟩ = some (.int .i64 i) := Rw2.out.cell 0
  have rc1 : w2.cell? ⟨(w.heap.size + 1), 1, none⟩ = some (.int .i64 u.1) := Rw2.out.cell 1
  have rc2 : w2.cell? ⟨(w.heap.size + 1), 2, none⟩ = some (.int .i64 u.2.1) := Rw2.out.cell 2
  have rc3 : w2.cell? ⟨(w.heap.size + 1), 3, none⟩ = some (.string u.2.2) := Rw2.out.cell 3
  have rc4 : w2.cell? ⟨(w.heap.size + 1), 4, none⟩ = some (.int .i64 v.1) := Rw2.out.cell 4
  have rc5 : w2.cell? ⟨(w.heap.size + 1), 5, none⟩ = some (.int .i64 v.2.1) := Rw2.out.cell 5
  have rc6 : w2.cell? ⟨(w.heap.size + 1), 6, none⟩ = some (.string v.2.2) := Rw2.out.cell 6
  have rl := Rw2.out.lt
  have xc0 : w2.cell? ⟨(w.heap.size + 2), 0, none⟩ = some (.int .i64 0) := Xw2.out.cell 0
  have xc1 : w2.cell? ⟨(w.heap.size + 2), 1, none⟩ = some (.int .i64 0) := Xw2.out.cell 1
  have xc2 : w2.cell? ⟨(w.heap.size + 2), 2, none⟩ = some (.string ⟨#[]⟩) := Xw2.out.cell 2
  have xl := Xw2.out.lt
  have xt0 := Xw2.out.thaw 0
  have xt1 := Xw2.out.thaw 1
  have xt2 := Xw2.out.thaw 2
  have nc0 : w2.cell? ⟨w0.heap.size, 0, none⟩ = some (.int .i64 x.o) := Nw2.out.cell 0
  have nc1 : w2.cell? ⟨w0.heap.size, 1, none⟩ = some (.int .i64 x.a) := Nw2.out.cell 1
  have nc2 : w2.cell? ⟨w0.heap.size, 2, none⟩ = some (.int .i64 x.b) := Nw2.out.cell 2
  have nc3 : w2.cell? ⟨w0.heap.size, 3, none⟩ = some (.int .i64 x.c) := Nw2.out.cell 3
  have nc4 : w2.cell? ⟨w0.heap.size, 4, none⟩ = some (.int .i64 x.k) := Nw2.out.cell 4
  have nc5 : w2.cell? ⟨w0.heap.size, 5, none⟩ = some (.int .i64 x.n) := Nw2.out.cell 5
  have nc6 : w2.cell? ⟨w0.heap.size, 6, none⟩ = some (.string x.t) := Nw2.out.cell 6
  have nl := Nw2.out.lt
  have yc0 : w2.cell? ⟨w1.heap.size, 0, none⟩ = some (.int .i64 r.k) := Yw2.out.cell 0
  have yc1 : w2.cell? ⟨w1.heap.size, 1, none⟩ = some (.int .i64 r.n) := Yw2.out.cell 1
  have yc2 : w2.cell? ⟨w1.heap.size, 2, none⟩ = some (.string r.t) := Yw2.out.cell 2
  have yl := Yw2.out.lt
  go_wp2_with fail
  refine (CB.out (w2.alloc (.cells #[.int .i64 s.k, .int .i64 s.n, .string s.t] 29))).mono ?_
  rintro e w3 ⟨rfl, hb⟩
  have Bw3 : Hid (Below w.heap.size w w3) := (Bw2.out.alloc Bw2.out.size (.cells #[.int .i64 s.k, .int .i64 s.n, .string s.t] 29)).trans (hb.mono (Bw2.out.alloc Bw2.out.size (.cells #[.int .i64 s.k, .int .i64 s.n, .string s.t] 29)).size)
  have Ew3 : Hid (Box w3 w.heap.size 43 #[.slice (some ⟨b, off, none⟩) n c]) := (Ew2.out.alloc _).belowS hb
  have Rw3 : Hid (Box w3 (w.heap.size + 1) 35 #[.int .i64 i, .int .i64 u.1, .int .i64 u.2.1, .string u.2.2, .int .i64 v.1, .int .i64 v.2.1, .string v.2.2]) := (Rw2.out.alloc _).belowS hb
  have Xw3 : Hid (Box w3 (w.heap.size + 2) 29 #[.int .i64 0, .int .i64 0, .string ⟨#[]⟩]) := (Xw2.out.alloc _).belowS hb
  have Nw3 : Hid (Box w3 w0.heap.size 121 #[.int .i64 x.o, .int .i64 x.a, .int .i64 x.b, .int .i64 x.c, .int .i64 x.k, .int .i64 x.n, .string x.t]) := (Nw2.out.alloc _).belowS hb
  have Yw3 : Hid (Box w3 w1.heap.size 29 #[.int .i64 r.k, .int .i64 r.n, .string r.t]) := (Yw2.out.alloc _).belowS hb
  have Zw3 : Hid (Box w3 w2.heap.size 29 #[.int .i64 s.k, .int .i64 s.n, .string s.t]) := (Box.new w2 #[.int .i64 s.k, .int .i64 s.n, .string s.t] 29).belowS hb
  clear hb
  clear ec0 el rc0 rc1 rc2 rc3 rc4 rc5 rc6 rl xc0 xc1 xc2 xl xt0 xt1 xt2 nc0 nc1 nc2 nc3 nc4 nc5 nc6 nl yc0 yc1 yc2 yl
  have xc0 : w3.cell? ⟨(w.heap.size + 2), 0, none⟩ = some (.int .i64 0) := Xw3.out.cell 0
  have xc1 : w3.cell? ⟨(w.heap.size + 2), 1, none⟩ = some (.int .i64 0) := Xw3.out.cell 1
  have xc2 : w3.cell? ⟨(w.heap.size + 2), 2, none⟩ = some (.string ⟨#[]⟩) := Xw3.out.cell 2
  have xl := Xw3.out.lt
  have xt0 := Xw3.out.thaw 0
  have xt1 := Xw3.out.thaw 1
  have xt2 := Xw3.out.thaw 2
  go_wp2
  refine ret32 Tryd.results37 rfl rfl rfl (put3_box Xw3.out _ _ _) ⟨?_, put3_below Bw3.out (by omega) _ _ _⟩
  rw [E.out]
  rfl
set_option maxRecDepth 100000 in
set_option maxHeartbeats 4000000 in
theorem c_le_Ed (L : List EN) (a : Option Addr) (n c k : Nat) (x : EN) (i : Int) (u v : VV) (w : World) (hr : RdE w a n L) (hk : k < n) (hn : n ≤ 1048576) (hx : x = L.getD k zeroE) (r : EV) (IH : Hid (∀ W, Below w.heap.size w W → Calls Tryd.prog 37 #[.agg #[.slice a n c], .int .i64 x.a, .agg #[.int .i64 i, .int .i64 u.1, .int .i64 u.2.1, .string u.2.2, .int .i64 v.1, .int .i64 v.2.1, .string v.2.2]] W fun e w' => e = .returned (.tuple #[.agg #[.int .i64 r.k, .int .i64 r.n, .string r.t], .int .i64 r.c]) ∧ Below W.heap.size W w')) (s : EV) (IJ : Hid (∀ W, Below w.heap.size w W → Calls Tryd.prog 37 #[.agg #[.slice a n c], .int .i64 x.b, .agg #[.int .i64 i, .int .i64 u.1, .int .i64 u.2.1, .string u.2.2, .int .i64 v.1, .int .i64 v.2.1, .string v.2.2]] W fun e w' => e = .returned (.tuple #[.agg #[.int .i64 s.k, .int .i64 s.n, .string s.t], .int .i64 s.c]) ∧ Below W.heap.size W w')) (o1 : (x.o == 1) = false) (o2 : (x.o == 2) = false) (cr : (r.c != 0) = false) (l5 : decide (x.o ≤ 5) = false) (o12 : (x.o == 12) = false) (o13 : (x.o == 13) = true) (k1 : (r.k == 1) = false) (cs : (s.c != 0) = true) (q : EV) (E : Hid (q = errE s.c)) :
    Calls Tryd.prog 37 #[.agg #[.slice a n c], .int .i64 (k : Int), .agg #[.int .i64 i, .int .i64 u.1, .int .i64 u.2.1, .string u.2.2, .int .i64 v.1, .int .i64 v.2.1, .string v.2.2]] w fun e w' => e = .returned (.tuple #[.agg #[.int .i64 q.k, .int .i64 q.n, .string q.t], .int .i64 q.c]) ∧ Below w.heap.size w w' := by
  obtain ⟨b, off, rfl, hbl, hc⟩ := hr.2 (by omega)
  obtain ⟨d0, d1, d2, d3, d4, d5, d6⟩ := RdE.at hc hk hx
  have g1 : (0 : Int) ≤ (k : Int) := by omega
  have g2 : (k : Int) < (n : Int) := by omega
  clear hc hx
  obtain ⟨w0, hw0⟩ : ∃ V, ((w.alloc (.cells #[.slice (some ⟨b, off, none⟩) n c] 43)).alloc (.cells #[.int .i64 i, .int .i64 u.1, .int .i64 u.2.1, .string u.2.2, .int .i64 v.1, .int .i64 v.2.1, .string v.2.2] 35)).alloc (.cells #[.int .i64 0, .int .i64 0, .string ⟨#[]⟩] 29) = V := ⟨_, rfl⟩
  have Bw0 : Hid (Below w.heap.size w w0) := by unfold Hid; rw [← hw0]; exact ((((Below.refl _ _).alloc (Nat.le_refl _) _).alloc (by simp) _).alloc (by simp; omega) _)
  have Ew0 : Hid (Box w0 w.heap.size 43 #[.slice (some ⟨b, off, none⟩) n c]) := by unfold Hid; rw [← hw0]; exact (((Box.new _ _ _).alloc _).alloc _)
  have Rw0 : Hid (Box w0 (w.heap.size + 1) 35 #[.int .i64 i, .int .i64 u.1, .int .i64 u.2.1, .string u.2.2, .int .i64 v.1, .int .i64 v.2.1, .string v.2.2]) := by unfold Hid; rw [← hw0]; exact ((Box.new2 _ _ _ _).alloc _)
  have Xw0 : Hid (Box w0 (w.heap.size + 2) 29 #[.int .i64 0, .int .i64 0, .string ⟨#[]⟩]) := by unfold Hid; rw [← hw0]; have := Box.new2 (w.alloc (.cells #[.slice (some ⟨b, off, none⟩) n c] 43)) (.cells #[.int .i64 i, .int .i64 u.1, .int .i64 u.2.1, .string u.2.2, .int .i64 v.1, .int .i64 v.2.1, .string v.2.2] 35) #[.int .i64 0, .int .i64 0, .string ⟨#[]⟩] 29; simpa using this
  have f0 := far6 (b := b) (o := off + k * 7) (Below.mono Bw0.out (Nat.le_refl _)) d0
  have f1 := far6 (b := b) (o := off + k * 7 + 1) (Below.mono Bw0.out (Nat.le_refl _)) d1
  have f2 := far6 (b := b) (o := off + k * 7 + 2) (Below.mono Bw0.out (Nat.le_refl _)) d2
  have f3 := far6 (b := b) (o := off + k * 7 + 3) (Below.mono Bw0.out (Nat.le_refl _)) d3
  have f4 := far6 (b := b) (o := off + k * 7 + 4) (Below.mono Bw0.out (Nat.le_refl _)) d4
  have f5 := far6 (b := b) (o := off + k * 7 + 5) (Below.mono Bw0.out (Nat.le_refl _)) d5
  have f6 := far6 (b := b) (o := off + k * 7 + 6) (Below.mono Bw0.out (Nat.le_refl _)) d6
  have bl0 : b < w0.heap.size := Nat.lt_of_lt_of_le hbl Bw0.out.size
  clear d0 d1 d2 d3 d4 d5 d6
  have ec0 : w0.cell? ⟨w.heap.size, 0, none⟩ = some (.slice (some ⟨b, off, none⟩) n c) := Ew0.out.cell 0
  have el := Ew0.out.lt
  have rc0 : w0.cell? ⟨(w.heap.size + 1), 0, none⟩ = some (.int .i64 i) := Rw0.out.cell 0
  have rc1 : w0.cell? ⟨(w.heap.size + 1), 1, none⟩ = some (.int .i64 u.1) := Rw0.out.cell 1
  have rc2 : w0.cell? ⟨(w.heap.size + 1), 2, none⟩ = some (.int .i64 u.2.1) := Rw0.out.cell 2
  have rc3 : w0.cell? ⟨(w.heap.size + 1), 3, none⟩ = some (.string u.2.2) := Rw0.out.cell 3
  have rc4 : w0.cell? ⟨(w.heap.size + 1), 4, none⟩ = some (.int .i64 v.1) := Rw0.out.cell 4
  have rc5 : w0.cell? ⟨(w.heap.size + 1), 5, none⟩ = some (.int .i64 v.2.1) := Rw0.out.cell 5
  have rc6 : w0.cell? ⟨(w.heap.size + 1), 6, none⟩ = some (.string v.2.2) := Rw0.out.cell 6
  have rl := Rw0.out.lt
  have xc0 : w0.cell? ⟨(w.heap.size + 2), 0, none⟩ = some (.int .i64 0) := Xw0.out.cell 0
  have xc1 : w0.cell? ⟨(w.heap.size + 2), 1, none⟩ = some (.int .i64 0) := Xw0.out.cell 1
  have xc2 : w0.cell? ⟨(w.heap.size + 2), 2, none⟩ = some (.string ⟨#[]⟩) := Xw0.out.cell 2
  have xl := Xw0.out.lt
  have xt0 := Xw0.out.thaw 0
  have xt1 := Xw0.out.thaw 1
  have xt2 := Xw0.out.thaw 2
  go_enter Tryd.func37, Tryd.ntmps37
  go_wp2_with fail
  refine (IH.out (w0.alloc (.cells #[.int .i64 x.o, .int .i64 x.a, .int .i64 x.b, .int .i64 x.c, .int .i64 x.k, .int .i64 x.n, .string x.t] 121)) ((Bw0.out.alloc Bw0.out.size _))).mono ?_
  rintro e w1 ⟨rfl, hb⟩
  have Bw1 : Hid (Below w.heap.size w w1) := (Bw0.out.alloc Bw0.out.size (.cells #[.int .i64 x.o, .int .i64 x.a, .int .i64 x.b, .int .i64 x.c, .int .i64 x.k, .int .i64 x.n, .string x.t] 121)).trans (hb.mono (Bw0.out.alloc Bw0.out.size (.cells #[.int .i64 x.o, .int .i64 x.a, .int .i64 x.b, .int .i64 x.c, .int .i64 x.k, .int .i64 x.n, .string x.t] 121)).size)
  have Ew1 : Hid (Box w1 w.heap.size 43 #[.slice (some ⟨b, off, none⟩) n c]) := (Ew0.out.alloc _).belowS hb
  have Rw1 : Hid (Box w1 (w.heap.size + 1) 35 #[.int .i64 i, .int .i64 u.1, .int .i64 u.2.1, .string u.2.2, .int .i64 v.1, .int .i64 v.2.1, .string v.2.2]) := (Rw0.out.alloc _).belowS hb
  have Xw1 : Hid (Box w1 (w.heap.size + 2) 29 #[.int .i64 0, .int .i64 0, .string ⟨#[]⟩]) := (Xw0.out.alloc _).belowS hb
  have Nw1 : Hid (Box w1 w0.heap.size 121 #[.int .i64 x.o, .int .i64 x.a, .int .i64 x.b, .int .i64 x.c, .int .i64 x.k, .int .i64 x.n, .string x.t]) := (Box.new w0 #[.int .i64 x.o, .int .i64 x.a, .int .i64 x.b, .int .i64 x.c, .int .i64 x.k, .int .i64 x.n, .string x.t] 121).belowS hb
  clear hb
  clear ec0 el rc0 rc1 rc2 rc3 rc4 rc5 rc6 rl xc0 xc1 xc2 xl xt0 xt1 xt2
  have ec0 : w1.cell? ⟨w.heap.size, 0, none⟩ = some (.slice (some ⟨b, off, none⟩) n c) := Ew1.out.cell 0
  have el := Ew1.out.lt
  have rc0 : w1.cell? ⟨(w.heap.size + 1), 0, none⟩ = some (.int .i64 i) := Rw1.out.cell 0
  have rc1 : w1.cell? ⟨(w.heap.size + 1), 1, none⟩ = some (.int .i64 u.1) := Rw1.out.cell 1
  have rc2 : w1.cell? ⟨(w.heap.size + 1), 2, none⟩ = some (.int .i64 u.2.1) := Rw1.out.cell 2
  have rc3 : w1.cell? ⟨(w.heap.size + 1), 3, none⟩ = some (.string u.2.2) := Rw1.out.cell 3
  have rc4 : w1.cell? ⟨(w.heap.size + 1), 4, none⟩ = some (.int .i64 v.1) := Rw1.out.cell 4
  have rc5 : w1.cell? ⟨(w.heap.size + 1), 5, none⟩ = some (.int .i64 v.2.1) := Rw1.out.cell 5
  have rc6 : w1.cell? ⟨(w.heap.size + 1), 6, none⟩ = some (.string v.2.2) := Rw1.out.cell 6
  have rl := Rw1.out.lt
  have xc0 : w1.cell? ⟨(w.heap.size + 2), 0, none⟩ = some (.int .i64 0) := Xw1.out.cell 0
  have xc1 : w1.cell? ⟨(w.heap.size + 2), 1, none⟩ = some (.int .i64 0) := Xw1.out.cell 1
  have xc2 : w1.cell? ⟨(w.heap.size + 2), 2, none⟩ = some (.string ⟨#[]⟩) := Xw1.out.cell 2
  have xl := Xw1.out.lt
  have xt0 := Xw1.out.thaw 0
  have xt1 := Xw1.out.thaw 1
  have xt2 := Xw1.out.thaw 2
  have nc0 : w1.cell? ⟨w0.heap.size, 0, none⟩ = some (.int .i64 x.o) := Nw1.out.cell 0
  have nc1 : w1.cell? ⟨w0.heap.size, 1, none⟩ = some (.int .i64 x.a) := Nw1.out.cell 1
  have nc2 : w1.cell? ⟨w0.heap.size, 2, none⟩ = some (.int .i64 x.b) := Nw1.out.cell 2
  have nc3 : w1.cell? ⟨w0.heap.size, 3, none⟩ = some (.int .i64 x.c) := Nw1.out.cell 3
  have nc4 : w1.cell? ⟨w0.heap.size, 4, none⟩ = some (.int .i64 x.k) := Nw1.out.cell 4
  have nc5 : w1.cell? ⟨w0.heap.size, 5, none⟩ = some (.int .i64 x.n) := Nw1.out.cell 5
  have nc6 : w1.cell? ⟨w0.heap.size, 6, none⟩ = some (.string x.t) := Nw1.out.cell 6
  have nl := Nw1.out.lt
  go_wp2_with fail
  refine (IJ.out (w1.alloc (.cells #[.int .i64 r.k, .int .i64 r.n, .string r.t] 29)) ((Bw1.out.alloc Bw1.out.size _))).mono ?_
  rintro e w2 ⟨rfl, hb⟩
  have Bw2 : Hid (Below w.heap.size w w2) := (Bw1.out.alloc Bw1.out.size (.cells #[.int .i64 r.k, .int .i64 r.n, .string r.t] 29)).trans (hb.mono (Bw1.out.alloc Bw1.out.size (.cells #[.int .i64 r.k, .int .i64 r.n, .string r.t] 29)).size)
  have Ew2 : Hid (Box w2 w.heap.size 43 #[.slice (some ⟨b, off, none⟩) n c]) := (Ew1.out.alloc _).belowS hb
  have Rw2 : Hid (Box w2 (w.heap.size + 1) 35 #[.int .i64 i, .int .i64 u.1, .int .i64 u.2.1, .string u.2.2, .int .i64 v.1, .int .i64 v.2.1, .string v.2.2]) := (Rw1.out.alloc _).belowS hb
  have Xw2 : Hid (Box w2 (w.heap.size + 2) 29 #[.int .i64 0, .int .i64 0, .string ⟨#[]⟩]) := (Xw1.out.alloc _).belowS hb
  have Nw2 : Hid (Box w2 w0.heap.size 121 #[.int .i64 x.o, .int .i64 x.a, .int .i64 x.b, .int .i64 x.c, .int .i64 x.k, .int .i64 x.n, .string x.t]) := (Nw1.out.alloc _).belowS hb
  have Yw2 : Hid (Box w2 w1.heap.size 29 #[.int .i64 r.k, .int .i64 r.n, .string r.t]) := (Box.new w1 #[.int .i64 r.k, .int .i64 r.n, .string r.t] 29).belowS hb
  clear hb
  clear ec0 el rc0 rc1 rc2 rc3 rc4 rc5 rc6 rl xc0 xc1 xc2 xl xt0 xt1 xt2 nc0 nc1 nc2 nc3 nc4 nc5 nc6 nl
  have ec0 : w2.cell? ⟨w.heap.size, 0, none⟩ = some (.slice (some ⟨b, off, none⟩) n c) := Ew2.out.cell 0
  have el := Ew2.out.lt
  have rc0 : w2.cell? ⟨(w.heap.size + 1), 0, none⟩ = some (.int .i64 i) := Rw2.out.cell 0
  have rc1 : w2.cell? ⟨(w.heap.size + 1), 1, none⟩ = some (.int .i64 u.1) := Rw2.out.cell 1
  have rc2 : w2.cell? ⟨(w.heap.size + 1), 2, none⟩ = some (.int .i64 u.2.1) := Rw2.out.cell 2
  have rc3 : w2.cell? ⟨(w.heap.size + 1), 3, none⟩ = some (.string u.2.2) := Rw2.out.cell 3
  have rc4 : w2.cell? ⟨(w.heap.size + 1), 4, none⟩ = some (.int .i64 v.1) := Rw2.out.cell 4
  have rc5 : w2.cell? ⟨(w.heap.size + 1), 5, none⟩ = some (.int .i64 v.2.1) := Rw2.out.cell 5
  have rc6 : w2.cell? ⟨(w.heap.size + 1), 6, none⟩ = some (.string v.2.2) := Rw2.out.cell 6
  have rl := Rw2.out.lt
  have xc0 : w2.cell? ⟨(w.heap.size + 2), 0, none⟩ = some (.int .i64 0) := Xw2.out.cell 0
  have xc1 : w2.cell? ⟨(w.heap.size + 2), 1, none⟩ = some (.int .i64 0) := Xw2.out.cell 1
  have xc2 : w2.cell? ⟨(w.heap.size + 2), 2, none⟩ = some (.string ⟨#[]⟩) := Xw2.out.cell 2
  have xl := Xw2.out.lt
  have xt0 := Xw2.out.thaw 0
  have xt1 := Xw2.out.thaw 1
  have xt2 := Xw2.out.thaw 2
  have nc0 : w2.cell? ⟨w0.heap.size, 0, none⟩ = some (.int .i64 x.o) := Nw2.out.cell 0
  have nc1 : w2.cell? ⟨w0.heap.size, 1, none⟩ = some (.int .i64 x.a) := Nw2.out.cell 1
  have nc2 : w2.cell? ⟨w0.heap.size, 2, none⟩ = some (.int .i64 x.b) := Nw2.out.cell 2
  have nc3 : w2.cell? ⟨w0.heap.size, 3, none⟩ = some (.int .i64 x.c) := Nw2.out.cell 3
  have nc4 : w2.cell? ⟨w0.heap.size, 4, none⟩ = some (.int .i64 x.k) := Nw2.out.cell 4
  have nc5 : w2.cell? ⟨w0.heap.size, 5, none⟩ = some (.int .i64 x.n) := Nw2.out.cell 5
  have nc6 : w2.cell? ⟨w0.heap.size, 6, none⟩ = some (.string x.t) := Nw2.out.cell 6
  have nl := Nw2.out.lt
  have yc0 : w2.cell? ⟨w1.heap.size, 0, none⟩ = some (.int .i64 r.k) := Yw2.out.cell 0
  have yc1 : w2.cell? ⟨w1.heap.size, 1, none⟩ = some (.int .i64 r.n) := Yw2.out.cell 1
  have yc2 : w2.cell? ⟨w1.heap.size, 2, none⟩ = some (.string r.t) := Yw2.out.cell 2
  have yl := Yw2.out.lt
  go_wp2
  have hbl9 : ∀ v0 v1 v2, Below w.heap.size w ((((w2).setCell ⟨(w.heap.size + 2), 0, none⟩ (v0)).setCell ⟨(w.heap.size + 2), 1, none⟩ (v1)).setCell ⟨(w.heap.size + 2), 2, none⟩ (v2)) := fun v0 v1 v2 => put3_below Bw2.out (by omega) v0 v1 v2
  refine ret32 Tryd.results37 rfl rfl rfl ((put3_box Xw2.out _ _ _).alloc _) ⟨?_, (hbl9 _ _ _).alloc (hbl9 _ _ _).size _⟩
  rw [E.out]
  rfl
set_option maxRecDepth 100000 in
set_option maxHeartbeats 4000000 in
theorem c_le_Vd (L : List EN) (a : Option Addr) (n c k : Nat) (x : EN) (i : Int) (u v : VV) (w : World) (hr : RdE w a n L) (hk : k < n) (hn : n ≤ 1048576) (hx : x = L.getD k zeroE) (r : EV) (IH : Hid (∀ W, Below w.heap.size w W → Calls Tryd.prog 37 #[.agg #[.slice a n c], .int .i64 x.a, .agg #[.int .i64 i, .int .i64 u.1, .int .i64 u.2.1, .string u.2.2, .int .i64 v.1, .int .i64 v.2.1, .string v.2.2]] W fun e w' => e = .returned (.tuple #[.agg #[.int .i64 r.k, .int .i64 r.n, .string r.t], .int .i64 r.c]) ∧ Below W.heap.size W w')) (s : EV) (IJ : Hid (∀ W, Below w.heap.size w W → Calls Tryd.prog 37 #[.agg #[.slice a n c], .int .i64 x.b, .agg #[.int .i64 i, .int .i64 u.1, .int .i64 u.2.1, .string u.2.2, .int .i64 v.1, .int .i64 v.2.1, .string v.2.2]] W fun e w' => e = .returned (.tuple #[.agg #[.int .i64 s.k, .int .i64 s.n, .string s.t], .int .i64 s.c]) ∧ Below W.heap.size W w')) (z : BR) (CB : Hid (∀ W, Calls Tryd.prog 44 #[.int .i64 x.o, .agg #[.int .i64 r.k, .int .i64 r.n, .string r.t], .agg #[.int .i64 s.k, .int .i64 s.n, .string s.t]] W fun e w' => e = .returned (.tuple #[.agg #[.int .i64 z.k, .int .i64 z.n, .string ⟨#[]⟩], .int .i64 z.c]) ∧ Below W.heap.size W w')) (o1 : (x.o == 1) = false) (o2 : (x.o == 2) = false) (cr : (r.c != 0) = false) (l5 : decide (x.o ≤ 5) = false) (o12 : (x.o == 12) = false) (o13 : (x.o == 13) = true) (k1 : (r.k == 1) = false) (cs : (s.c != 0) = false) (q : EV) (E : Hid (q = ofB z)) :
    Calls Tryd.prog 37 #[.agg #[.slice a n c], .int .i64 (k : Int), .agg #[.int .i64 i, .int .i64 u.1, .int .i64 u.2.1, .string u.2.2, .int .i64 v.1, .int .i64 v.2.1, .string v.2.2]] w fun e w' => e = .returned (.tuple #[.agg #[.int .i64 q.k, .int .i64 q.n, .string q.t], .int .i64 q.c]) ∧ Below w.heap.size w w' := by
  obtain ⟨b, off, rfl, hbl, hc⟩ := hr.2 (by omega)
  obtain ⟨d0, d1, d2, d3, d4, d5, d6⟩ := RdE.at hc hk hx
  have g1 : (0 : Int) ≤ (k : Int) := by omega
  have g2 : (k : Int) < (n : Int) := by omega
  clear hc hx
  obtain ⟨w0, hw0⟩ : ∃ V, ((w.alloc (.cells #[.slice (some ⟨b, off, none⟩) n c] 43)).alloc (.cells #[.int .i64 i, .int .i64 u.1, .int .i64 u.2.1, .string u.2.2, .int .i64 v.1, .int .i64 v.2.1, .string v.2.2] 35)).alloc (.cells #[.int .i64 0, .int .i64 0, .string ⟨#[]⟩] 29) = V := ⟨_, rfl⟩
  have Bw0 : Hid (Below w.heap.size w w0) := by unfold Hid; rw [← hw0]; exact ((((Below.refl _ _).alloc (Nat.le_refl _) _).alloc (by simp) _).alloc (by simp; omega) _)
  have Ew0 : Hid (Box w0 w.heap.size 43 #[.slice (some ⟨b, off, none⟩) n c]) := by unfold Hid; rw [← hw0]; exact (((Box.new _ _ _).alloc _).alloc _)
  have Rw0 : Hid (Box w0 (w.heap.size + 1) 35 #[.int .i64 i, .int .i64 u.1, .int .i64 u.2.1, .string u.2.2, .int .i64 v.1, .int .i64 v.2.1, .string v.2.2]) := by unfold Hid; rw [← hw0]; exact ((Box.new2 _ _ _ _).alloc _)
  have Xw0 : Hid (Box w0 (w.heap.size + 2) 29 #[.int .i64 0, .int .i64 0, .string ⟨#[]⟩]) := by unfold Hid; rw [← hw0]; have := Box.new2 (w.alloc (.cells #[.slice (some ⟨b, off, none⟩) n c] 43)) (.cells #[.int .i64 i, .int .i64 u.1, .int .i64 u.2.1, .string u.2.2, .int .i64 v.1, .int .i64 v.2.1, .string v.2.2] 35) #[.int .i64 0, .int .i64 0, .string ⟨#[]⟩] 29; simpa using this
  have f0 := far6 (b := b) (o := off + k * 7) (Below.mono Bw0.out (Nat.le_refl _)) d0
  have f1 := far6 (b := b) (o := off + k * 7 + 1) (Below.mono Bw0.out (Nat.le_refl _)) d1
  have f2 := far6 (b := b) (o := off + k * 7 + 2) (Below.mono Bw0.out (Nat.le_refl _)) d2
  have f3 := far6 (b := b) (o := off + k * 7 + 3) (Below.mono Bw0.out (Nat.le_refl _)) d3
  have f4 := far6 (b := b) (o := off + k * 7 + 4) (Below.mono Bw0.out (Nat.le_refl _)) d4
  have f5 := far6 (b := b) (o := off + k * 7 + 5) (Below.mono Bw0.out (Nat.le_refl _)) d5
  have f6 := far6 (b := b) (o := off + k * 7 + 6) (Below.mono Bw0.out (Nat.le_refl _)) d6
  have bl0 : b < w0.heap.size := Nat.lt_of_lt_of_le hbl Bw0.out.size
  clear d0 d1 d2 d3 d4 d5 d6
  have ec0 : w0.cell? ⟨w.heap.size, 0, none⟩ = some (.slice (some ⟨b, off, none⟩) n c) := Ew0.out.cell 0
  have el := Ew0.out.lt
  have rc0 : w0.cell? ⟨(w.heap.size + 1), 0, none⟩ = some (.int .i64 i) := Rw0.out.cell 0
  have rc1 : w0.cell? ⟨(w.heap.size + 1), 1, none⟩ = some (.int .i64 u.1) := Rw0.out.cell 1
  have rc2 : w0.cell? ⟨(w.heap.size + 1), 2, none⟩ = some (.int .i64 u.2.1) := Rw0.out.cell 2
  have rc3 : w0.cell? ⟨(w.heap.size + 1), 3, none⟩ = some (.string u.2.2) := Rw0.out.cell 3
  have rc4 : w0.cell? ⟨(w.heap.size + 1), 4, none⟩ = some (.int .i64 v.1) := Rw0.out.cell 4
  have rc5 : w0.cell? ⟨(w.heap.size + 1), 5, none⟩ = some (.int .i64 v.2.1) := Rw0.out.cell 5
  have rc6 : w0.cell? ⟨(w.heap.size + 1), 6, none⟩ = some (.string v.2.2) := Rw0.out.cell 6
  have rl := Rw0.out.lt
  have xc0 : w0.cell? ⟨(w.heap.size + 2), 0, none⟩ = some (.int .i64 0) := Xw0.out.cell 0
  have xc1 : w0.cell? ⟨(w.heap.size + 2), 1, none⟩ = some (.int .i64 0) := Xw0.out.cell 1
  have xc2 : w0.cell? ⟨(w.heap.size + 2), 2, none⟩ = some (.string ⟨#[]⟩) := Xw0.out.cell 2
  have xl := Xw0.out.lt
  have xt0 := Xw0.out.thaw 0
  have xt1 := Xw0.out.thaw 1
  have xt2 := Xw0.out.thaw 2
  go_enter Tryd.func37, Tryd.ntmps37
  go_wp2_with fail
  refine (IH.out (w0.alloc (.cells #[.int .i64 x.o, .int .i64 x.a, .int .i64 x.b, .int .i64 x.c, .int .i64 x.k, .int .i64 x.n, .string x.t] 121)) ((Bw0.out.alloc Bw0.out.size _))).mono ?_
  rintro e w1 ⟨rfl, hb⟩
  have Bw1 : Hid (Below w.heap.size w w1) := (Bw0.out.alloc Bw0.out.size (.cells #[.int .i64 x.o, .int .i64 x.a, .int .i64 x.b, .int .i64 x.c, .int .i64 x.k, .int .i64 x.n, .string x.t] 121)).trans (hb.mono (Bw0.out.alloc Bw0.out.size (.cells #[.int .i64 x.o, .int .i64 x.a, .int .i64 x.b, .int .i64 x.c, .int .i64 x.k, .int .i64 x.n, .string x.t] 121)).size)
  have Ew1 : Hid (Box w1 w.heap.size 43 #[.slice (some ⟨b, off, none⟩) n c]) := (Ew0.out.alloc _).belowS hb
  have Rw1 : Hid (Box w1 (w.heap.size + 1) 35 #[.int .i64 i, .int .i64 u.1, .int .i64 u.2.1, .string u.2.2, .int .i64 v.1, .int .i64 v.2.1, .string v.2.2]) := (Rw0.out.alloc _).belowS hb
  have Xw1 : Hid (Box w1 (w.heap.size + 2) 29 #[.int .i64 0, .int .i64 0, .string ⟨#[]⟩]) := (Xw0.out.alloc _).belowS hb
  have Nw1 : Hid (Box w1 w0.heap.size 121 #[.int .i64 x.o, .int .i64 x.a, .int .i64 x.b, .int .i64 x.c, .int .i64 x.k, .int .i64 x.n, .string x.t]) := (Box.new w0 #[.int .i64 x.o, .int .i64 x.a, .int .i64 x.b, .int .i64 x.c, .int .i64 x.k, .int .i64 x.n, .string x.t] 121).belowS hb
  clear hb
  clear ec0 el rc0 rc1 rc2 rc3 rc4 rc5 rc6 rl xc0 xc1 xc2 xl xt0 xt1 xt2
  have ec0 : w1.cell? ⟨w.heap.size, 0, none⟩ = some (.slice (some ⟨b, off, none⟩) n c) := Ew1.out.cell 0
  have el := Ew1.out.lt
  have rc0 : w1.cell? ⟨(w.heap.size + 1), 0, none⟩ = some (.int .i64 i) := Rw1.out.cell 0
  have rc1 : w1.cell? ⟨(w.heap.size + 1), 1, none⟩ = some (.int .i64 u.1) := Rw1.out.cell 1
  have rc2 : w1.cell? ⟨(w.heap.size + 1), 2, none⟩ = some (.int .i64 u.2.1) := Rw1.out.cell 2
  have rc3 : w1.cell? ⟨(w.heap.size + 1), 3, none⟩ = some (.string u.2.2) := Rw1.out.cell 3
  have rc4 : w1.cell? ⟨(w.heap.size + 1), 4, none⟩ = some (.int .i64 v.1) := Rw1.out.cell 4
  have rc5 : w1.cell? ⟨(w.heap.size + 1), 5, none⟩ = some (.int .i64 v.2.1) := Rw1.out.cell 5
  have rc6 : w1.cell? ⟨(w.heap.size + 1), 6, none⟩ = some (.string v.2.2) := Rw1.out.cell 6
  have rl := Rw1.out.lt
  have xc0 : w1.cell? ⟨(w.heap.size + 2), 0, none⟩ = some (.int .i64 0) := Xw1.out.cell 0
  have xc1 : w1.cell? ⟨(w.heap.size + 2), 1, none⟩ = some (.int .i64 0) := Xw1.out.cell 1
  have xc2 : w1.cell? ⟨(w.heap.size + 2), 2, none⟩ = some (.string ⟨#[]⟩) := Xw1.out.cell 2
  have xl := Xw1.out.lt
  have xt0 := Xw1.out.thaw 0
  have xt1 := Xw1.out.thaw 1
  have xt2 := Xw1.out.thaw 2
  have nc0 : w1.cell? ⟨w0.heap.size, 0, none⟩ = some (.int .i64 x.o) := Nw1.out.cell 0
  have nc1 : w1.cell? ⟨w0.heap.size, 1, none⟩ = some (.int .i64 x.a) := Nw1.out.cell 1
  have nc2 : w1.cell? ⟨w0.heap.size, 2, none⟩ = some (.int .i64 x.b) := Nw1.out.cell 2
  have nc3 : w1.cell? ⟨w0.heap.size, 3, none⟩ = some (.int .i64 x.c) := Nw1.out.cell 3
  have nc4 : w1.cell? ⟨w0.heap.size, 4, none⟩ = some (.int .i64 x.k) := Nw1.out.cell 4
  have nc5 : w1.cell? ⟨w0.heap.size, 5, none⟩ = some (.int .i64 x.n) := Nw1.out.cell 5
  have nc6 : w1.cell? ⟨w0.heap.size, 6, none⟩ = some (.string x.t) := Nw1.out.cell 6
  have nl := Nw1.out.lt
  go_wp2_with fail
  refine (IJ.out (w1.alloc (.cells #[.int .i64 r.k, .int .i64 r.n, .string r.t] 29)) ((Bw1.out.alloc Bw1.out.size _))).mono ?_
  rintro e w2 ⟨rfl, hb⟩
  have Bw2 : Hid (Below w.heap.size w w2) := (Bw1.out.alloc Bw1.out.size (.cells #[.int .i64 r.k, .int .i64 r.n, .string r.t] 29)).trans (hb.mono (Bw1.out.alloc Bw1.out.size (.cells #[.int .i64 r.k, .int .i64 r.n, .string r.t] 29)).size)
  have Ew2 : Hid (Box w2 w.heap.size 43 #[.slice (some ⟨b, off, none⟩) n c]) := (Ew1.out.alloc _).belowS hb
  have Rw2 : Hid (Box w2 (w.heap.size + 1) 35 #[.int .i64 i, .int .i64 u.1, .int .i64 u.2.1, .string u.2.2, .int .i64 v.1, .int .i64 v.2.1, .string v.2.2]) := (Rw1.out.alloc _).belowS hb
  have Xw2 : Hid (Box w2 (w.heap.size + 2) 29 #[.int .i64 0, .int .i64 0, .string ⟨#[]⟩]) := (Xw1.out.alloc _).belowS hb
  have Nw2 : Hid (Box w2 w0.heap.size 121 #[.int .i64 x.o, .int .i64 x.a, .int .i64 x.b, .int .i64 x.c, .int .i64 x.k, .int .i64 x.n, .string x.t]) := (Nw1.out.alloc _).belowS hb
  have Yw2 : Hid (Box w2 w1.heap.size 29 #[.int .i64 r.k, .int .i64 r.n, .string r.t]) := (Box.new w1 #[.int .i64 r.k, .int .i64 r.n, .string r.t] 29).belowS hb
  clear hb
  clear ec0 el rc0 rc1 rc2 rc3 rc4 rc5 rc6 rl xc0 xc1 xc2 xl xt0 xt1 xt2 nc0 nc1 nc2 nc3 nc4 nc5 nc6 nl
  have ec0 : w2.cell? ⟨w.heap.size, 0, none⟩ = some (.slice (some ⟨b, off, none⟩) n c) := Ew2.out.cell 0
  have el := Ew2.out.lt
  have rc0 : w2.cell? ⟨(w.heap.size + 1), 0, none⟩ = some (.int .i64 i) := Rw2.out.cell 0
  have rc1 : w2.cell? ⟨(w.heap.size + 1), 1, none⟩ = some (.int .i64 u.1) := Rw2.out.cell 1
  have rc2 : w2.cell? ⟨(w.heap.size + 1), 2, none⟩ = some (.int .i64 u.2.1) := Rw2.out.cell 2
  have rc3 : w2.cell? ⟨(w.heap.size + 1), 3, none⟩ = some (.string u.2.2) := Rw2.out.cell 3
  have rc4 : w2.cell? ⟨(w.heap.size + 1), 4, none⟩ = some (.int .i64 v.1) := Rw2.out.cell 4
  have rc5 : w2.cell? ⟨(w.heap.size + 1), 5, none⟩ = some (.int .i64 v.2.1) := Rw2.out.cell 5
  have rc6 : w2.cell? ⟨(w.heap.size + 1), 6, none⟩ = some (.string v.2.2) := Rw2.out.cell 6
  have rl := Rw2.out.lt
  have xc0 : w2.cell? ⟨(w.heap.size + 2), 0, none⟩ = some (.int .i64 0) := Xw2.out.cell 0
  have xc1 : w2.cell? ⟨(w.heap.size + 2), 1, none⟩ = some (.int .i64 0) := Xw2.out.cell 1
  have xc2 : w2.cell? ⟨(w.heap.size + 2), 2, none⟩ = some (.string ⟨#[]⟩) := Xw2.out.cell 2
  have xl := Xw2.out.lt
  have xt0 := Xw2.out.thaw 0
  have xt1 := Xw2.out.thaw 1
  have xt2 := Xw2.out.thaw 2
  have nc0 : w2.cell? ⟨w0.heap.size, 0, none⟩ = some (.int .i64 x.o) := Nw2.out.cell 0
  have nc1 : w2.cell? ⟨w0.heap.size, 1, none⟩ = some (.int .i64 x.a) := Nw2.out.cell 1
  have nc2 : w2.cell? ⟨w0.heap.size, 2, none⟩ = some (.int .i64 x.b) := Nw2.out.cell 2
  have nc3 : w2.cell? ⟨w0.heap.size, 3, none⟩ = some (.int .i64 x.c) := Nw2.out.cell 3
  have nc4 : w2.cell? ⟨w0.heap.size, 4, none⟩ = some (.int .i64 x.k) := Nw2.out.cell 4
  have nc5 : w2.cell? ⟨w0.heap.size, 5, none⟩ = some (.int .i64 x.n) := Nw2.out.cell 5
  have nc6 : w2.cell? ⟨w0.heap.size, 6, none⟩ = some (.string x.t) := Nw2.out.cell 6
  have nl := Nw2.out.lt
  have yc0 : w2.cell? ⟨w1.heap.size, 0, none⟩ = some (.int .i64 r.k) := Yw2.out.cell 0
  have yc1 : w2.cell? ⟨w1.heap.size, 1, none⟩ = some (.int .i64 r.n) := Yw2.out.cell 1
  have yc2 : w2.cell? ⟨w1.heap.size, 2, none⟩ = some (.string r.t) := Yw2.out.cell 2
  have yl := Yw2.out.lt
  go_wp2_with fail
  refine (CB.out (w2.alloc (.cells #[.int .i64 s.k, .int .i64 s.n, .string s.t] 29))).mono ?_
  rintro e w3 ⟨rfl, hb⟩
  have Bw3 : Hid (Below w.heap.size w w3) := (Bw2.out.alloc Bw2.out.size (.cells #[.int .i64 s.k, .int .i64 s.n, .string s.t] 29)).trans (hb.mono (Bw2.out.alloc Bw2.out.size (.cells #[.int .i64 s.k, .int .i64 s.n, .string s.t] 29)).size)
  have Ew3 : Hid (Box w3 w.heap.size 43 #[.slice (some ⟨b, off, none⟩) n c]) := (Ew2.out.alloc _).belowS hb
  have Rw3 : Hid (Box w3 (w.heap.size + 1) 35 #[.int .i64 i, .int .i64 u.1, .int .i64 u.2.1, .string u.2.2, .int .i64 v.1, .int .i64 v.2.1, .string v.2.2]) := (Rw2.out.alloc _).belowS hb
  have Xw3 : Hid (Box w3 (w.heap.size + 2) 29 #[.int .i64 0, .int .i64 0, .string ⟨#[]⟩]) := (Xw2.out.alloc _).belowS hb
  have Nw3 : Hid (Box w3 w0.heap.size 121 #[.int .i64 x.o, .int .i64 x.a, .int .i64 x.b, .int .i64 x.c, .int .i64 x.k, .int .i64 x.n, .string x.t]) := (Nw2.out.alloc _).belowS hb
  have Yw3 : Hid (Box w3 w1.heap.size 29 #[.int .i64 r.k, .int .i64 r.n, .string r.t]) := (Yw2.out.alloc _).belowS hb
  have Zw3 : Hid (Box w3 w2.heap.size 29 #[.int .i64 s.k, .int .i64 s.n, .string s.t]) := (Box.new w2 #[.int .i64 s.k, .int .i64 s.n, .string s.t] 29).belowS hb
  clear hb
  clear ec0 el rc0 rc1 rc2 rc3 rc4 rc5 rc6 rl xc0 xc1 xc2 xl xt0 xt1 xt2 nc0 nc1 nc2 nc3 nc4 nc5 nc6 nl yc0 yc1 yc2 yl
  have xc0 : w3.cell? ⟨(w.heap.size + 2), 0, none⟩ = some (.int .i64 0) := Xw3.out.cell 0
  have xc1 : w3.cell? ⟨(w.heap.size + 2), 1, none⟩ = some (.int .i64 0) := Xw3.out.cell 1
  have xc2 : w3.cell? ⟨(w.heap.size + 2), 2, none⟩ = some (.string ⟨#[]⟩) := Xw3.out.cell 2
  have xl := Xw3.out.lt
  have xt0 := Xw3.out.thaw 0
  have xt1 := Xw3.out.thaw 1
  have xt2 := Xw3.out.thaw 2
  go_wp2
  refine ret32 Tryd.results37 rfl rfl rfl (put3_box Xw3.out _ _ _) ⟨?_, put3_below Bw3.out (by omega) _ _ _⟩
  rw [E.out]
  rfl
set_option maxRecDepth 100000 in
set_option maxHeartbeats 4000000 in
theorem c_le_Ee (L : List EN) (a : Option Addr) (n c k : Nat) (x : EN) (i : Int) (u v : VV) (w : World) (hr : RdE w a n L) (hk : k < n) (hn : n ≤ 1048576) (hx : x = L.getD k zeroE) (r : EV) (IH : Hid (∀ W, Below w.heap.size w W → Calls Tryd.prog 37 #[.agg #[.slice a n c], .int .i64 x.a, .agg #[.int .i64 i, .int .i64 u.1, .int .i64 u.2.1, .string u.2.2, .int .i64 v.1, .int .i64 v.2.1, .string v.2.2]] W fun e w' => e = .returned (.tuple #[.agg #[.int .i64 r.k, .int .i64 r.n, .string r.t], .int .i64 r.c]) ∧ Below W.heap.size W w')) (s : EV) (IJ : Hid (∀ W, Below w.heap.size w W → Calls Tryd.prog 37 #[.agg #[.slice a n c], .int .i64 x.b, .agg #[.int .i64 i, .int .i64 u.1, .int .i64 u.2.1, .string u.2.2, .int .i64 v.1, .int .i64 v.2.1, .string v.2.2]] W fun e w' => e = .returned (.tuple #[.agg #[.int .i64 s.k, .int .i64 s.n, .string s.t], .int .i64 s.c]) ∧ Below W.heap.size W w')) (o1 : (x.o == 1) = false) (o2 : (x.o == 2) = false) (cr : (r.c != 0) = false) (l5 : decide (x.o ≤ 5) = false) (o12 : (x.o == 12) = false) (o13 : (x.o == 13) = true) (k1 : (r.k == 1) = true) (nn : (r.n != 0) = false) (cs : (s.c != 0) = true) (q : EV) (E : Hid (q = errE s.c)) :
    Calls Tryd.prog 37 #[.agg #[.slice a n c], .int .i64 (k : Int), .agg #[.int .i64 i, .int .i64 u.1, .int .i64 u.2.1, .string u.2.2, .int .i64 v.1, .int .i64 v.2.1, .string v.2.2]] w fun e w' => e = .returned (.tuple #[.agg #[.int .i64 q.k, .int .i64 q.n, .string q.t], .int .i64 q.c]) ∧ Below w.heap.size w w' := by
  obtain ⟨b, off, rfl, hbl, hc⟩ := hr.2 (by omega)
  obtain ⟨d0, d1, d2, d3, d4, d5, d6⟩ := RdE.at hc hk hx
  have g1 : (0 : Int) ≤ (k : Int) := by omega
  have g2 : (k : Int) < (n : Int) := by omega
  clear hc hx
  obtain ⟨w0, hw0⟩ : ∃ V, ((w.alloc (.cells #[.slice (some ⟨b, off, none⟩) n c] 43)).alloc (.cells #[.int .i64 i, .int .i64 u.1, .int .i64 u.2.1, .string u.2.2, .int .i64 v.1, .int .i64 v.2.1, .string v.2.2] 35)).alloc (.cells #[.int .i64 0, .int .i64 0, .string ⟨#[]⟩] 29) = V := ⟨_, rfl⟩
  have Bw0 : Hid (Below w.heap.size w w0) := by unfold Hid; rw [← hw0]; exact ((((Below.refl _ _).alloc (Nat.le_refl _) _).alloc (by simp) _).alloc (by simp; omega) _)
  have Ew0 : Hid (Box w0 w.heap.size 43 #[.slice (some ⟨b, off, none⟩) n c]) := by unfold Hid; rw [← hw0]; exact (((Box.new _ _ _).alloc _).alloc _)
  have Rw0 : Hid (Box w0 (w.heap.size + 1) 35 #[.int .i64 i, .int .i64 u.1, .int .i64 u.2.1, .string u.2.2, .int .i64 v.1, .int .i64 v.2.1, .string v.2.2]) := by unfold Hid; rw [← hw0]; exact ((Box.new2 _ _ _ _).alloc _)
  have Xw0 : Hid (Box w0 (w.heap.size + 2) 29 #[.int .i64 0, .int .i64 0, .string ⟨#[]⟩]) := by unfold Hid; rw [← hw0]; have := Box.new2 (w.alloc (.cells #[.slice (some ⟨b, off, none⟩) n c] 43)) (.cells #[.int .i64 i, .int .i64 u.1, .int .i64 u.2.1, .string u.2.2, .int .i64 v.1, .int .i64 v.2.1, .string v.2.2] 35) #[.int .i64 0, .int .i64 0, .string ⟨#[]⟩] 29; simpa using this
  have f0 := far6 (b := b) (o := off + k * 7) (Below.mono Bw0.out (Nat.le_refl _)) d0
  have f1 := far6 (b := b) (o := off + k * 7 + 1) (Below.mono Bw0.out (Nat.le_refl _)) d1
  have f2 := far6 (b := b) (o := off + k * 7 + 2) (Below.mono Bw0.out (Nat.le_refl _)) d2
  have f3 := far6 (b := b) (o := off + k * 7 + 3) (Below.mono Bw0.out (Nat.le_refl _)) d3
  have f4 := far6 (b := b) (o := off + k * 7 + 4) (Below.mono Bw0.out (Nat.le_refl _)) d4
  have f5 := far6 (b := b) (o := off + k * 7 + 5) (Below.mono Bw0.out (Nat.le_refl _)) d5
  have f6 := far6 (b := b) (o := off + k * 7 + 6) (Below.mono Bw0.out (Nat.le_refl _)) d6
  have bl0 : b < w0.heap.size := Nat.lt_of_lt_of_le hbl Bw0.out.size
  clear d0 d1 d2 d3 d4 d5 d6
  have ec0 : w0.cell? ⟨w.heap.size, 0, none⟩ = some (.slice (some ⟨b, off, none⟩) n c) := Ew0.out.cell 0
  have el := Ew0.out.lt
  have rc0 : w0.cell? ⟨(w.heap.size + 1), 0, none⟩ = some (.int .i64 i) := Rw0.out.cell 0
  have rc1 : w0.cell? ⟨(w.heap.size + 1), 1, none⟩ = some (.int .i64 u.1) := Rw0.out.cell 1
  have rc2 : w0.cell? ⟨(w.heap.size + 1), 2, none⟩ = some (.int .i64 u.2.1) := Rw0.out.cell 2
  have rc3 : w0.cell? ⟨(w.heap.size + 1), 3, none⟩ = some (.string u.2.2) := Rw0.out.cell 3
  have rc4 : w0.cell? ⟨(w.heap.size + 1), 4, none⟩ = some (.int .i64 v.1) := Rw0.out.cell 4
  have rc5 : w0.cell? ⟨(w.heap.size + 1), 5, none⟩ = some (.int .i64 v.2.1) := Rw0.out.cell 5
  have rc6 : w0.cell? ⟨(w.heap.size + 1), 6, none⟩ = some (.string v.2.2) := Rw0.out.cell 6
  have rl := Rw0.out.lt
  have xc0 : w0.cell? ⟨(w.heap.size + 2), 0, none⟩ = some (.int .i64 0) := Xw0.out.cell 0
  have xc1 : w0.cell? ⟨(w.heap.size + 2), 1, none⟩ = some (.int .i64 0) := Xw0.out.cell 1
  have xc2 : w0.cell? ⟨(w.heap.size + 2), 2, none⟩ = some (.string ⟨#[]⟩) := Xw0.out.cell 2
  have xl := Xw0.out.lt
  have xt0 := Xw0.out.thaw 0
  have xt1 := Xw0.out.thaw 1
  have xt2 := Xw0.out.thaw 2
  go_enter Tryd.func37, Tryd.ntmps37
  go_wp2_with fail
  refine (IH.out (w0.alloc (.cells #[.int .i64 x.o, .int .i64 x.a, .int .i64 x.b, .int .i64 x.c, .int .i64 x.k, .int .i64 x.n, .string x.t] 121)) ((Bw0.out.alloc Bw0.out.size _))).mono ?_
  rintro e w1 ⟨rfl, hb⟩
  have Bw1 : Hid (Below w.heap.size w w1) := (Bw0.out.alloc Bw0.out.size (.cells #[.int .i64 x.o, .int .i64 x.a, .int .i64 x.b, .int .i64 x.c, .int .i64 x.k, .int .i64 x.n, .string x.t] 121)).trans (hb.mono (Bw0.out.alloc Bw0.out.size (.cells #[.int .i64 x.o, .int .i64 x.a, .int .i64 x.b, .int .i64 x.c, .int .i64 x.k, .int .i64 x.n, .string x.t] 121)).size)
  have Ew1 : Hid (Box w1 w.heap.size 43 #[.slice (some ⟨b, off, none⟩) n c]) := (Ew0.out.alloc _).belowS hb
  have Rw1 : Hid (Box w1 (w.heap.size + 1) 35 #[.int .i64 i, .int .i64 u.1, .int .i64 u.2.1, .string u.2.2, .int .i64 v.1, .int .i64 v.2.1, .string v.2.2]) := (Rw0.out.alloc _).belowS hb
  have Xw1 : Hid (Box w1 (w.heap.size + 2) 29 #[.int .i64 0, .int .i64 0, .string ⟨#[]⟩]) := (Xw0.out.alloc _).belowS hb
  have Nw1 : Hid (Box w1 w0.heap.size 121 #[.int .i64 x.o, .int .i64 x.a, .int .i64 x.b, .int .i64 x.c, .int .i64 x.k, .int .i64 x.n, .string x.t]) := (Box.new w0 #[.int .i64 x.o, .int .i64 x.a, .int .i64 x.b, .int .i64 x.c, .int .i64 x.k, .int .i64 x.n, .string x.t] 121).belowS hb
  clear hb
  clear ec0 el rc0 rc1 rc2 rc3 rc4 rc5 rc6 rl xc0 xc1 xc2 xl xt0 xt1 xt2
  have ec0 : w1.cell? ⟨w.heap.size, 0, none⟩ = some (.slice (some ⟨b, off, none⟩) n c) := Ew1.out.cell 0
  have el := Ew1.out.lt
  have rc0 : w1.cell? ⟨(w.heap.size + 1), 0, none⟩ = some (.int .i64 i) := Rw1.out.cell 0
  have rc1 : w1.cell? ⟨(w.heap.size + 1), 1, none⟩ = some (.int .i64 u.1) := Rw1.out.cell 1
  have rc2 : w1.cell? ⟨(w.heap.size + 1), 2, none⟩ = some (.int .i64 u.2.1) := Rw1.out.cell 2
  have rc3 : w1.cell? ⟨(w.heap.size + 1), 3, none⟩ = some (.string u.2.2) := Rw1.out.cell 3
  have rc4 : w1.cell? ⟨(w.heap.size + 1), 4, none⟩ = some (.int .i64 v.1) := Rw1.out.cell 4
  have rc5 : w1.cell? ⟨(w.heap.size + 1), 5, none⟩ = some (.int .i64 v.2.1) := Rw1.out.cell 5
  have rc6 : w1.cell? ⟨(w.heap.size + 1), 6, none⟩ = some (.string v.2.2) := Rw1.out.cell 6
  have rl := Rw1.out.lt
  have xc0 : w1.cell? ⟨(w.heap.size + 2), 0, none⟩ = some (.int .i64 0) := Xw1.out.cell 0
  have xc1 : w1.cell? ⟨(w.heap.size + 2), 1, none⟩ = some (.int .i64 0) := Xw1.out.cell 1
  have xc2 : w1.cell? ⟨(w.heap.size + 2), 2, none⟩ = some (.string ⟨#[]⟩) := Xw1.out.cell 2
  have xl := Xw1.out.lt
  have xt0 := Xw1.out.thaw 0
  have xt1 := Xw1.out.thaw 1
  have xt2 := Xw1.out.thaw 2
  have nc0 : w1.cell? ⟨w0.heap.size, 0, none⟩ = some (.int .i64 x.o) := Nw1.out.cell 0
  have nc1 : w1.cell? ⟨w0.heap.size, 1, none⟩ = some (.int .i64 x.a) := Nw1.out.cell 1
  have nc2 : w1.cell? ⟨w0.heap.size, 2, none⟩ = some (.int .i64 x.b) := Nw1.out.cell 2
  have nc3 : w1.cell? ⟨w0.heap.size, 3, none⟩ = some (.int .i64 x.c) := Nw1.out.cell 3
  have nc4 : w1.cell? ⟨w0.heap.size, 4, none⟩ = some (.int .i64 x.k) := Nw1.out.cell 4
  have nc5 : w1.cell? ⟨w0.heap.size, 5, none⟩ = some (.int .i64 x.n) := Nw1.out.cell 5
  have nc6 : w1.cell? ⟨w0.heap.size, 6, none⟩ = some (.string x.t) := Nw1.out.cell 6
  have nl := Nw1.out.lt
  go_wp2_with fail
  refine (IJ.out (w1.alloc (.cells #[.int .i64 r.k, .int .i64 r.n, .string r.t] 29)) ((Bw1.out.alloc Bw1.out.size _))).mono ?_
  rintro e w2 ⟨rfl, hb⟩
  have Bw2 : Hid (Below w.heap.size w w2) := (Bw1.out.alloc Bw1.out.size (.cells #[.int .i64 r.k, .int .i64 r.n, .string r.t] 29)).trans (hb.mono (Bw1.out.alloc Bw1.out.size (.cells #[.int .i64 r.k, .int .i64 r.n, .string r.t] 29)).size)
  have Ew2 : Hid (Box w2 w.heap.size 43 #[.slice (some ⟨b, off, none⟩) n c]) := (Ew1.out.alloc _).belowS hb
  have Rw2 : Hid (Box w2 (w.heap.size + 1) 35 #[.int .i64 i, .int .i64 u.1, .int .i64 u.2.1, .string u.2.2, .int .i64 v.1, .int .i64 v.2.1, .string v.2.2]) := (Rw1.out.alloc _).belowS hb
  have Xw2 : Hid (Box w2 (w.heap.size + 2) 29 #[.int .i64 0, .int .i64 0, .string ⟨#[]⟩]) := (Xw1.out.alloc _).belowS hb
  have Nw2 : Hid (Box w2 w0.heap.size 121 #[.int .i64 x.o, .int .i64 x.a, .int .i64 x.b, .int .i64 x.c, .int .i64 x.k, .int .i64 x.n, .string x.t]) := (Nw1.out.alloc _).belowS hb
  have Yw2 : Hid (Box w2 w1.heap.size 29 #[.int .i64 r.k, .int .i64 r.n, .string r.t]) := (Box.new w1 #[.int .i64 r.k, .int .i64 r.n, .string r.t] 29).belowS hb
  clear hb
  clear ec0 el rc0 rc1 rc2 rc3 rc4 rc5 rc6 rl xc0 xc1 xc2 xl xt0 xt1 xt2 nc0 nc1 nc2 nc3 nc4 nc5 nc6 nl
  have ec0 : w2.cell? ⟨w.heap.size, 0, none⟩ = some (.slice (some ⟨b, off, none⟩) n c) := Ew2.out.cell 0
  have el := Ew2.out.lt
  have rc0 : w2.cell? ⟨(w.heap.size + 1), 0, none⟩ = some (.int .i64 i) := Rw2.out.cell 0
  have rc1 : w2.cell? ⟨(w.heap.size + 1), 1, none⟩ = some (.int .i64 u.1) := Rw2.out.cell 1
  have rc2 : w2.cell? ⟨(w.heap.size + 1), 2, none⟩ = some (.int .i64 u.2.1) := Rw2.out.cell 2
  have rc3 : w2.cell? ⟨(w.heap.size + 1), 3, none⟩ = some (.string u.2.2) := Rw2.out.cell 3
  have rc4 : w2.cell? ⟨(w.heap.size + 1), 4, none⟩ = some (.int .i64 v.1) := Rw2.out.cell 4
  have rc5 : w2.cell? ⟨(w.heap.size + 1), 5, none⟩ = some (.int .i64 v.2.1) := Rw2.out.cell 5
  have rc6 : w2.cell? ⟨(w.heap.size + 1), 6, none⟩ = some (.string v.2.2) := Rw2.out.cell 6
  have rl := Rw2.out.lt
  have xc0 : w2.cell? ⟨(w.heap.size + 2), 0, none⟩ = some (.int .i64 0) := Xw2.out.cell 0
  have xc1 : w2.cell? ⟨(w.heap.size + 2), 1, none⟩ = some (.int .i64 0) := Xw2.out.cell 1
  have xc2 : w2.cell? ⟨(w.heap.size + 2), 2, none⟩ = some (.string ⟨#[]⟩) := Xw2.out.cell 2
  have xl := Xw2.out.lt
  have xt0 := Xw2.out.thaw 0
  have xt1 := Xw2.out.thaw 1
  have xt2 := Xw2.out.thaw 2
  have nc0 : w2.cell? ⟨w0.heap.size, 0, none⟩ = some (.int .i64 x.o) := Nw2.out.cell 0
  have nc1 : w2.cell? ⟨w0.heap.size, 1, none⟩ = some (.int .i64 x.a) := Nw2.out.cell 1
  have nc2 : w2.cell? ⟨w0.heap.size, 2, none⟩ = some (.int .i64 x.b) := Nw2.out.cell 2
  have nc3 : w2.cell? ⟨w0.heap.size, 3, none⟩ = some (.int .i64 x.c) := Nw2.out.cell 3
  have nc4 : w2.cell? ⟨w0.heap.size, 4, none⟩ = some (.int .i64 x.k) := Nw2.out.cell 4
  have nc5 : w2.cell? ⟨w0.heap.size, 5, none⟩ = some (.int .i64 x.n) := Nw2.out.cell 5
  have nc6 : w2.cell? ⟨w0.heap.size, 6, none⟩ = some (.string x.t) := Nw2.out.cell 6
  have nl := Nw2.out.lt
  have yc0 : w2.cell? ⟨w1.heap.size, 0, none⟩ = some (.int .i64 r.k) := Yw2.out.cell 0
  have yc1 : w2.cell? ⟨w1.heap.size, 1, none⟩ = some (.int .i64 r.n) := Yw2.out.cell 1
  have yc2 : w2.cell? ⟨w1.heap.size, 2, none⟩ = some (.string r.t) := Yw2.out.cell 2
  have yl := Yw2.out.lt
  go_wp2
  have hbl9 : ∀ v0 v1 v2, Below w.heap.size w ((((w2).setCell ⟨(w.heap.size + 2), 0, none⟩ (v0)).setCell ⟨(w.heap.size + 2), 1, none⟩ (v1)).setCell ⟨(w.heap.size + 2), 2, none⟩ (v2)) := fun v0 v1 v2 => put3_below Bw2.out (by omega) v0 v1 v2
  refine ret32 Tryd.results37 rfl rfl rfl ((put3_box Xw2.out _ _ _).alloc _) ⟨?_, (hbl9 _ _ _).alloc (hbl9 _ _ _).size _⟩
  rw [E.out]
  rfl
set_option maxRecDepth 100000 in
set_option maxHeartbeats 4000000 in
theorem c_le_Ve (L : List EN) (a : Option Addr) (n c k : Nat) (x : EN) (i : Int) (u v : VV) (w : World) (hr : RdE w a n L) (hk : k < n) (hn : n ≤ 1048576) (hx : x = L.getD k zeroE) (r : EV) (IH : Hid (∀ W, Below w.heap.size w W → Calls Tryd.prog 37 #[.agg #[.slice a n c], .int .i64 x.a, .agg #[.int .i64 i, .int .i64 u.1, .int .i64 u.2.1, .string u.2.2, .int .i64 v.1, .int .i64 v.2.1, .string v.2.2]] W fun e w' => e = .returned (.tuple #[.agg #[.int .i64 r.k, .int .i64 r.n, .string r.t], .int .i64 r.c]) ∧ Below W.heap.size W w')) (s : EV) (IJ : Hid (∀ W, Below w.heap.size w W → Calls Tryd.prog 37 #[.agg #[.slice a n c], .int .i64 x.b, .agg #[.int .i64 i, .int .i64 u.1, .int .i64 u.2.1, .string u.2.2, .int .i64 v.1, .int .i64 v.2.1, .string v.2.2]] W fun e w' => e = .returned (.tuple #[.agg #[.int .i64 s.k, .int .i64 s.n, .string s.t], .int .i64 s.c]) ∧ Below W.heap.size W w')) (z : BR) (CB : Hid (∀ W, Calls Tryd.prog 44 #[.int .i64 x.o, .agg #[.int .i64 r.k, .int .i64 r.n, .string r.t], .agg #[.int .i64 s.k, .int .i64 s.n, .string s.t]] W fun e w' => e = .returned (.tuple #[.agg #[.int .i64 z.k, .int .i64 z.n, .string ⟨#[]⟩], .int .i64 z.c]) ∧ Below W.heap.size W w')) (o1 : (x.o == 1) = false) (o2 : (x.o == 2) = false) (cr : (r.c != 0) = false) (l5 : decide (x.o ≤ 5) = false) (o12 : (x.o == 12) = false) (o13 : (x.o == 13) = true) (k1 : (r.k == 1) = true) (nn : (r.n != 0) = false) (cs : (s.c != 0) = false) (q : EV) (E : Hid (q = ofB z)) :
    Calls Tryd.prog 37 #[.agg #[.slice a n c], .int .i64 (k : Int), .agg #[.int .i64 i, .int .i64 u.1, .int .i64 u.2.1, .string u.2.2, .int .i64 v.1, .int .i64 v.2.1, .string v.2.2]] w fun e w' => e = .returned (.tuple #[.agg #[.int .i64 q.k, .int .i64 q.n, .string q.t], .int .i64 q.c]) ∧ Below w.heap.size w w' := by
  obtain ⟨b, off, rfl, hbl, hc⟩ := hr.2 (by omega)
  obtain ⟨d0, d1, d2, d3, d4, d5, d6⟩ := RdE.at hc hk hx
  have g1 : (0 : Int) ≤ (k : Int) := by omega
  have g2 : (k : Int) < (n : Int) := by omega
  clear hc hx
  obtain ⟨w0, hw0⟩ : ∃ V, ((w.alloc (.cells #[.slice (some ⟨b, off, none⟩) n c] 43)).alloc (.cells #[.int .i64 i, .int .i64 u.1, .int .i64 u.2.1, .string u.2.2, .int .i64 v.1, .int .i64 v.2.1, .string v.2.2] 35)).alloc (.cells #[.int .i64 0, .int .i64 0, .string ⟨#[]⟩] 29) = V := ⟨_, rfl⟩
  have Bw0 : Hid (Below w.heap.size w w0) := by unfold Hid; rw [← hw0]; exact ((((Below.refl _ _).alloc (Nat.le_refl _) _).alloc (by simp) _).alloc (by simp; omega) _)
  have Ew0 : Hid (Box w0 w.heap.size 43 #[.slice (some ⟨b, off, none⟩) n c]) := by unfold Hid; rw [← hw0]; exact (((Box.new _ _ _).alloc _).alloc _)
  have Rw0 : Hid (Box w0 (w.heap.size + 1) 35 #[.int .i64 i, .int .i64 u.1, .int .i64 u.2.1, .string u.2.2, .int .i64 v.1, .int .i64 v.2.1, .string v.2.2]) := by unfold Hid; rw [← hw0]; exact ((Box.new2 _ _ _ _).alloc _)
  have Xw0 : Hid (Box w0 (w.heap.size + 2) 29 #[.int .i64 0, .int .i64 0, .string ⟨#[]⟩]) := by unfold Hid; rw [← hw0]; have := Box.new2 (w.alloc (.cells #[.slice (some ⟨b, off, none⟩) n c] 43)) (.cells #[.int .i64 i, .int .i64 u.1, .int .i64 u.2.1, .string u.2.2, .int .i64 v.1, .int .i64 v.2.1, .string v.2.2] 35) #[.int .i64 0, .int .i64 0, .string ⟨#[]⟩] 29; simpa using this
  have f0 := far6 (b := b) (o := off + k * 7) (Below.mono Bw0.out (Nat.le_refl _)) d0
  have f1 := far6 (b := b) (o := off + k * 7 + 1) (Below.mono Bw0.out (Nat.le_refl _)) d1
  have f2 := far6 (b := b) (o := off + k * 7 + 2) (Below.mono Bw0.out (Nat.le_refl _)) d2
  have f3 := far6 (b := b) (o := off + k * 7 + 3) (Below.mono Bw0.out (Nat.le_refl _)) d3
  have f4 := far6 (b := b) (o := off + k * 7 + 4) (Below.mono Bw0.out (Nat.le_refl _)) d4
  have f5 := far6 (b := b) (o := off + k * 7 + 5) (Below.mono Bw0.out (Nat.le_refl _)) d5
  have f6 := far6 (b := b) (o := off + k * 7 + 6) (Below.mono Bw0.out (Nat.le_refl _)) d6
  have bl0 : b < w0.heap.size := Nat.lt_of_lt_of_le hbl Bw0.out.size
  clear d0 d1 d2 d3 d4 d5 d6
  have ec0 : w0.cell? ⟨w.heap.size, 0, none⟩ = some (.slice (some ⟨b, off, none⟩) n c) := Ew0.out.cell 0
  have el := Ew0.out.lt
  have rc0 : w0.cell? ⟨(w.heap.size + 1), 0, none⟩ = some (.int .i64 i) := Rw0.out.cell 0
  have rc1 : w0.cell? ⟨(w.heap.size + 1), 1, none⟩ = some (.int .i64 u.1) := Rw0.out.cell 1
  have rc2 : w0.cell? ⟨(w.heap.size + 1), 2, none⟩ = some (.int .i64 u.2.1) := Rw0.out.cell 2
  have rc3 : w0.cell? ⟨(w.heap.size + 1), 3, none⟩ = some (.string u.2.2) := Rw0.out.cell 3
  have rc4 : w0.cell? ⟨(w.heap.size + 1), 4, none⟩ = some (.int .i64 v.1) := Rw0.out.cell 4
  have rc5 : w0.cell? ⟨(w.heap.size + 1), 5, none⟩ = some (.int .i64 v.2.1) := Rw0.out.cell 5
  have rc6 : w0.cell? ⟨(w.heap.size + 1), 6, none⟩ = some (.string v.2.2) := Rw0.out.cell 6
  have rl := Rw0.out.lt
  have xc0 : w0.cell? ⟨(w.heap.size + 2), 0, none⟩ = some (.int .i64 0) := Xw0.out.cell 0
  have xc1 : w0.cell? ⟨(w.heap.size + 2), 1, none⟩ = some (.int .i64 0) := Xw0.out.cell 1
  have xc2 : w0.cell? ⟨(w.heap.size + 2), 2, none⟩ = some (.string ⟨#[]⟩) := Xw0.out.cell 2
  have xl := Xw0.out.lt
  have xt0 := Xw0.out.thaw 0
  have xt1 := Xw0.out.thaw 1
  have xt2 := Xw0.out.thaw 2
  go_enter Tryd.func37, Tryd.ntmps37
  go_wp2_with fail
  refine (IH.out (w0.alloc (.cells #[.int .i64 x.o, .int .i64 x.a, .int .i64 x.b, .int .i64 x.c, .int .i64 x.k, .int .i64 x.n, .string x.t] 121)) ((Bw0.out.alloc Bw0.out.size _))).mono ?_
  rintro e w1 ⟨rfl, hb⟩
  have Bw1 : Hid (Below w.heap.size w w1) := (Bw0.out.alloc Bw0.out.size (.cells #[.int .i64 x.o, .int .i64 x.a, .int .i64 x.b, .int .i64 x.c, .int .i64 x.k, .int .i64 x.n, .string x.t] 121)).trans (hb.mono (Bw0.out.alloc Bw0.out.size (.cells #[.int .i64 x.o, .int .i64 x.a, .int .i64 x.b, .int .i64 x.c, .int .i64 x.k, .int .i64 x.n, .string x.t] 121)).size)
  have Ew1 : Hid (Box w1 w.heap.size 43 #[.slice (some ⟨b, off, none⟩) n c]) := (Ew0.out.alloc _).belowS hb
  have Rw1 : Hid (Box w1 (w.heap.size + 1) 35 #[.int .i64 i, .int .i64 u.1, .int .i64 u.2.1, .string u.2.2, .int .i64 v.1, .int .i64 v.2.1, .string v.2.2]) := (Rw0.out.alloc _).belowS hb
  have Xw1 : Hid (Box w1 (w.heap.size + 2) 29 #[.int .i64 0, .int .i64 0, .string ⟨#[]⟩]) := (Xw0.out.alloc _).belowS hb
  have Nw1 : Hid (Box w1 w0.heap.size 121 #[.int .i64 x.o, .int .i64 x.a, .int .i64 x.b, .int .i64 x.c, .int .i64 x.k, .int .i64 x.n, .string x.t]) := (Box.new w0 #[.int .i64 x.o, .int .i64 x.a, .int .i64 x.b, .int .i64 x.c, .int .i64 x.k, .int .i64 x.n, .string x.t] 121).belowS hb
  clear hb
  clear ec0 el rc0 rc1 rc2 rc3 rc4 rc5 rc6 rl xc0 xc1 xc2 xl xt0 xt1 xt2
  have ec0 : w1.cell? ⟨w.heap.size, 0, none⟩ = some (.slice (some ⟨b, off, none⟩) n c) := Ew1.out.cell 0
  have el := Ew1.out.lt
  have rc0 : w1.cell? ⟨(w.heap.size + 1), 0, none⟩ = some (.int .i64 i) := Rw1.out.cell 0
  have rc1 : w1.cell? ⟨(w.heap.size + 1), 1, none⟩ = some (.int .i64 u.1) := Rw1.out.cell 1
  have rc2 : w1.cell? ⟨(w.heap.size + 1), 2, none⟩ = some (.int .i64 u.2.1) := Rw1.out.cell 2
  have rc3 : w1.cell? ⟨(w.heap.size + 1), 3, none⟩ = some (.string u.2.2) := Rw1.out.cell 3
  have rc4 : w1.cell? ⟨(w.heap.size + 1), 4, none⟩ = some (.int .i64 v.1) := Rw1.out.cell 4
  have rc5 : w1.cell? ⟨(w.heap.size + 1), 5, none⟩ = some (.int .i64 v.2.1) := Rw1.out.cell 5
  have rc6 : w1.cell? ⟨(w.heap.size + 1), 6, none⟩ = some (.string v.2.2) := Rw1.out.cell 6
  have rl := Rw1.out.lt
  have xc0 : w1.cell? ⟨(w.heap.size + 2), 0, none⟩ = some (.int .i64 0) := Xw1.out.cell 0
  have xc1 : w1.cell? ⟨(w.heap.size + 2), 1, none⟩ = some (.int .i64 0) := Xw1.out.cell 1
  have xc2 : w1.cell? ⟨(w.heap.size + 2), 2, none⟩ = some (.string ⟨#[]⟩) := Xw1.out.cell 2
  have xl := Xw1.out.lt
  have xt0 := Xw1.out.thaw 0
  have xt1 := Xw1.out.thaw 1
  have xt2 := Xw1.out.thaw 2
  have nc0 : w1.cell? ⟨w0.heap.size, 0, none⟩ = some (.int .i64 x.o) := Nw1.out.cell 0
  have nc1 : w1.cell? ⟨w0.heap.size, 1, none⟩ = some (.int .i64 x.a) := Nw1.out.cell 1
  have nc2 : w1.cell? ⟨w0.heap.size, 2, none⟩ = some (.int .i64 x.b) := Nw1.out.cell 2
  have nc3 : w1.cell? ⟨w0.heap.size, 3, none⟩ = some (.int .i64 x.c) := Nw1.out.cell 3
  have nc4 : w1.cell? ⟨w0.heap.size, 4, none⟩ = some (.int .i64 x.k) := Nw1.out.cell 4
  have nc5 : w1.cell? ⟨w0.heap.size, 5, none⟩ = some (.int .i64 x.n) := Nw1.out.cell 5
  have nc6 : w1.cell? ⟨w0.heap.size, 6, none⟩ = some (.string x.t) := Nw1.out.cell 6
  have nl := Nw1.out.lt
  go_wp2_with fail
  refine (IJ.out (w1.alloc (.cells #[.int .i64 r.k, .int .i64 r.n, .string r.t] 29)) ((Bw1.out.alloc Bw1.out.size _))).mono ?_
  rintro e w2 ⟨rfl, hb⟩
  have Bw2 : Hid (Below w.heap.size w w2) := (Bw1.out.alloc Bw1.out.size (.cells #[.int .i64 r.k, .int .i64 r.n, .string r.t] 29)).trans (hb.mono (Bw1.out.alloc Bw1.out.size (.cells #[.int .i64 r.k, .int .i64 r.n, .string r.t] 29)).size)
  have Ew2 : Hid (Box w2 w.heap.size 43 #[.slice (some ⟨b, off, none⟩) n c]) := (Ew1.out.alloc _).belowS hb
  have Rw2 : Hid (Box w2 (w.heap.size + 1) 35 #[.int .i64 i, .int .i64 u.1, .int .i64 u.2.1, .string u.2.2, .int .i64 v.1, .int .i64 v.2.1, .string v.2.2]) := (Rw1.out.alloc _).belowS hb
  have Xw2 : Hid (Box w2 (w.heap.size + 2) 29 #[.int .i64 0, .int .i64 0, .string ⟨#[]⟩]) := (Xw1.out.alloc _).belowS hb
  have Nw2 : Hid (Box w2 w0.heap.size 121 #[.int .i64 x.o, .int .i64 x.a, .int .i64 x.b, .int .i64 x.c, .int .i64 x.k, .int .i64 x.n, .string x.t]) := (Nw1.out.alloc _).belowS hb
  have Yw2 : Hid (Box w2 w1.heap.size 29 #[.int .i64 r.k, .int .i64 r.n, .string r.t]) := (Box.new w1 #[.int .i64 r.k, .int .i64 r.n, .string r.t] 29).belowS hb
  clear hb
  clear ec0 el rc0 rc1 rc2 rc3 rc4 rc5 rc6 rl xc0 xc1 xc2 xl xt0 xt1 xt2 nc0 nc1 nc2 nc3 nc4 nc5 nc6 nl
  have ec0 : w2.cell? ⟨w.heap.size, 0, none⟩ = some (.slice (some ⟨b, off, none⟩) n c) := Ew2.out.cell 0
  have el := Ew2.out.lt
  have rc0 : w2.cell? ⟨(w.heap.size + 1), 0, none⟩ = some (.int .i64 i) := Rw2.out.cell 0
  have rc1 : w2.cell? ⟨(w.heap.size + 1), 1, none⟩ = some (.int .i64 u.1) := Rw2.out.cell 1
  have rc2 : w2.cell? ⟨(w.heap.size + 1), 2, none⟩ = some (.int .i64 u.2.1) := Rw2.out.cell 2
  have rc3 : w2.cell? ⟨(w.heap.size + 1), 3, none⟩ = some (.string u.2.2) := Rw2.out.cell 3
  have rc4 : w2.cell? ⟨(w.heap.size + 1), 4, none⟩ = some (.int .i64 v.1) := Rw2.out.cell 4
  have rc5 : w2.cell? ⟨(w.heap.size + 1), 5, none⟩ = some (.int .i64 v.2.1) := Rw2.out.cell 5
  have rc6 : w2.cell? ⟨(w.heap.size + 1), 6, none⟩ = some (.string v.2.2) := Rw2.out.cell 6
  have rl := Rw2.out.lt
  have xc0 : w2.cell? ⟨(w.heap.size + 2), 0, none⟩ = some (.int .i64 0) := Xw2.out.cell 0
  have xc1 : w2.cell? ⟨(w.heap.size + 2), 1, none⟩ = some (.int .i64 0) := Xw2.out.cell 1
  have xc2 : w2.cell? ⟨(w.heap.size + 2), 2, none⟩ = some (.string ⟨#[]⟩) := Xw2.out.cell 2
  have xl := Xw2.out.lt
  have xt0 := Xw2.out.thaw 0
  have xt1 := Xw2.out.thaw 1
  have xt2 := Xw2.out.thaw 2
  have nc0 : w2.cell? ⟨w0.heap.size, 0, none⟩ = some (.int .i64 x.o) := Nw2.out.cell 0
  have nc1 : w2.cell? ⟨w0.heap.size, 1, none⟩ = some (.int .i64 x.a) := Nw2.out.cell 1
  have nc2 : w2.cell? ⟨w0.heap.size, 2, none⟩ = some (.int .i64 x.b) := Nw2.out.cell 2
  have nc3 : w2.cell? ⟨w0.heap.size, 3, none⟩ = some (.int .i64 x.c) := Nw2.out.cell 3
  have nc4 : w2.cell? ⟨w0.heap.size, 4, none⟩ = some (.int .i64 x.k) := Nw2.out.cell 4
  have nc5 : w2.cell? ⟨w0.heap.size, 5, none⟩ = some (.int .i64 x.n) := Nw2.out.cell 5
  have nc6 : w2.cell? ⟨w0.heap.size, 6, none⟩ = some (.string x.t) := Nw2.out.cell 6
  have nl := Nw2.out.lt
  have yc0 : w2.cell? ⟨w1.heap.size, 0, none⟩ = some (.int .i64 r.k) := Yw2.out.cell 0
  have yc1 : w2.cell? ⟨w1.heap.size, 1, none⟩ = some (.int .i64 r.n) := Yw2.out.cell 1
  have yc2 : w2.cell? ⟨w1.heap.size, 2, none⟩ = some (.string r.t) := Yw2.out.cell 2
  have yl := Yw2.out.lt
  go_wp2_with fail
  refine (CB.out (w2.alloc (.cells #[.int .i64 s.k, .int .i64 s.n, .string s.t] 29))).mono ?_
  rintro e w3 ⟨rfl, hb⟩
  have Bw3 : Hid (Below w.heap.size w w3) := (Bw2.out.alloc Bw2.out.size (.cells #[.int .i64 s.k, .int .i64 s.n, .string s.t] 29)).trans (hb.mono (Bw2.out.alloc Bw2.out.size (.cells #[.int .i64 s.k, .int .i64 s.n, .string s.t] 29)).size)
  have Ew3 : Hid (Box w3 w.heap.size 43 #[.slice (some ⟨b, off, none⟩) n c]) := (Ew2.out.alloc _).belowS hb
  have Rw3 : Hid (Box w3 (w.heap.size + 1) 35 #[.int .i64 i, .int .i64 u.1, .int .i64 u.2.1, .string u.2.2, .int .i64 v.1, .int .i64 v.2.1, .string v.2.2]) := (Rw2.out.alloc _).belowS hb
  have Xw3 : Hid (Box w3 (w.heap.size + 2) 29 #[.int .i64 0, .int .i64 0, .string ⟨#[]⟩]) := (Xw2.out.alloc _).belowS hb
  have Nw3 : Hid (Box w3 w0.heap.size 121 #[.int .i64 x.o, .int .i64 x.a, .int .i64 x.b, .int .i64 x.c, .int .i64 x.k, .int .i64 x.n, .string x.t]) := (Nw2.out.alloc _).belowS hb
  have Yw3 : Hid (Box w3 w1.heap.size 29 #[.int .i64 r.k, .int .i64 r.n, .string r.t]) := (Yw2.out.alloc _).belowS hb
  have Zw3 : Hid (Box w3 w2.heap.size 29 #[.int .i64 s.k, .int .i64 s.n, .string s.t]) := (Box.new w2 #[.int .i64 s.k, .int .i64 s.n, .string s.t] 29).belowS hb
  clear hb
  clear ec0 el rc0 rc1 rc2 rc3 rc4 rc5 rc6 rl xc0 xc1 xc2 xl xt0 xt1 xt2 nc0 nc1 nc2 nc3 nc4 nc5 nc6 nl yc0 yc1 yc2 yl
  have xc0 : w3.cell? ⟨(w.heap.size + 2), 0, none⟩ = some (.int .i64 0) := Xw3.out.cell 0
  have xc1 : w3.cell? ⟨(w.heap.size + 2), 1, none⟩ = some (.int .i64 0) := Xw3.out.cell 1
  have xc2 : w3.cell? ⟨(w.heap.size + 2), 2, none⟩ = some (.string ⟨#[]⟩) := Xw3.out.cell 2
  have xl := Xw3.out.lt
  have xt0 := Xw3.out.thaw 0
  have xt1 := Xw3.out.thaw 1
  have xt2 := Xw3.out.thaw 2
  go_wp2
  refine ret32 Tryd.results37 rfl rfl rfl (put3_box Xw3.out _ _ _) ⟨?_, put3_below Bw3.out (by omega) _ _ _⟩
  rw [E.out]
  rfl

end Go.Proofs.YtcgcaomaofppiaaDoor
