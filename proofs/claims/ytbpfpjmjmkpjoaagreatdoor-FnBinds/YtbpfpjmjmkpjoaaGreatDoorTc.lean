/-
  Texts of expressions: the specification.
-/
import Derived.Test.YtbpfpjmjmkpjoaaGreatDoorTb
import Derived.Test.YtbpfpjmjmkpjoaaGreatDoorXj
import Derived.Deep.RegionHeld3
import Derived.Deep.QuietTactic
import Derived.BigQuiet
import Derived.Deep.RegionWith
namespace Go.Proofs.YtbpfpjmjmkpjoaaGreatDoor
open Go Go.RowKit
attribute [local go_sem ↓] Go.wp_at_zero Go.wp_at_succ

set_option linter.unusedVariables false
set_option linter.unusedSimpArgs false
theorem pF_inv (L : List EN) (fu k : Nat) (p : PT) (f : Nat) (x : EN) (hx : x = L.getD k zeroE) (h : pF L (fu + 1) (k + 1) = some (p, f)) :
    (∃ (_ : (x.o == 1) = true), p = .con x.k x.n x.t ∧ valB x.k x.n x.t = true) ∨
    (∃ (_ : (x.o == 1) = false) (_ : (x.o == 2) = true), p = .col x.c ∧ inB x.c 0 2 = true) ∨
    (∃ (_ : (x.o == 1) = false) (_ : (x.o == 2) = false) (q : PT), inB x.o 3 5 = true ∧ p = .una x.o q ∧ x.a = (k : Int) - 1 ∧ pF L fu k = some (q, f)) ∨
    (∃ (_ : (x.o == 1) = false) (_ : (x.o == 2) = false) (l r : PT) (m : Nat), inB x.o 6 13 = true ∧ p = .bin x.o l r ∧ x.a = (m : Int) - 1 ∧ x.b = (k : Int) - 1 ∧ pF L fu k = some (r, m) ∧ pF L fu m = some (l, f)) := by
  rw [pF_step, ← hx] at h
  cases o1 : (x.o == 1)
  · rw [o1] at h
    cases o2 : (x.o == 2)
    · rw [o2] at h
      cases uu : inB x.o 3 5
      · rw [uu] at h
        cases bi : inB x.o 6 13
        · rw [bi] at h; cases h
        · rw [bi] at h
          simp only [cond_true, cond_false] at h
          cases e : pF L fu k with
          | none => rw [e] at h; cases h
          | some q =>
            obtain ⟨r, m⟩ := q
            rw [e] at h
            dsimp only at h
            cases tt : (x.a == (m : Int) - 1 && (x.b == (k : Int) - 1 && (x.c == 0 && noV x)))
            · rw [tt] at h; cases h
            · rw [tt] at h
              simp only [cond_true] at h
              cases e2 : pF L fu m with
              | none => rw [e2] at h; cases h
              | some q2 =>
                obtain ⟨l, g⟩ := q2
                rw [e2] at h
                simp only [Option.some.injEq, Prod.mk.injEq] at h
                simp only [Bool.and_eq_true, beq_iff_eq] at tt
                exact .inr (.inr (.inr ⟨rfl, rfl, l, r, m, rfl, h.1.symm, tt.1, tt.2.1, rfl, by rw [← h.2]; exact e2⟩))
      · rw [uu] at h
        simp only [cond_true, cond_false] at h
        cases tt : (x.a == (k : Int) - 1 && (x.b == 0 && (x.c == 0 && noV x)))
        · rw [tt] at h; cases h
        · rw [tt] at h
          simp only [cond_true] at h
          cases e : pF L fu k with
          | none => rw [e] at h; cases h
          | some q =>
            obtain ⟨r, m⟩ := q
            rw [e] at h
            simp only [Option.some.injEq, Prod.mk.injEq] at h
            simp only [Bool.and_eq_true, beq_iff_eq] at tt
            exact .inr (.inr (.inl ⟨rfl, rfl, r, rfl, h.1.symm, tt.1, by rw [← h.2]⟩))
    · rw [o2] at h
      simp only [cond_true, cond_false] at h
      cases tt : (x.a == 0 && (x.b == 0 && (noV x && inB x.c 0 2)))
      · rw [tt] at h; cases h
      · rw [tt] at h
        simp only [cond_true, Option.some.injEq, Prod.mk.injEq] at h
        simp only [Bool.and_eq_true] at tt
        exact .inr (.inl ⟨rfl, rfl, h.1.symm, tt.2.2.2⟩)
  · rw [o1] at h
    simp only [cond_true] at h
    cases tt : (x.a == 0 && (x.b == 0 && (x.c == 0 && valB x.k x.n x.t)))
    · rw [tt] at h; cases h
    · rw [tt] at h
      simp only [cond_true, Option.some.injEq, Prod.mk.injEq] at h
      simp only [Bool.and_eq_true] at tt
      exact .inl ⟨rfl, h.1.symm, tt.2.2.2⟩
theorem c_l01T (k n : Int) (t : ByteArray) (w : World) (h : valB k n t = true) : Calls Tryz.prog 106 #[.agg #[.int .i64 k, .int .i64 n, .string t]] w fun e w' => e = .returned (.string (vtS k n t)) ∧ Below w.heap.size w w' := by
  rcases val_kind h with rfl | ⟨rfl, h0, h1⟩ | ⟨rfl, h0⟩
  · rw [(vt_0 h).1]; exact c_text0 n t w
  · rw [(vt_1 h).1]; exact c_text1 n t w h0 h1
  · rw [(vt_2 h).1]; exact c_text2 n t w h0
set_option maxRecDepth 100000 in
set_option maxHeartbeats 4000000 in
theorem c_cols (w : World) : Calls Tryz.prog 107 #[] w fun e w' => e = .returned (.slice (some ⟨w.heap.size, 0, none⟩) 3 3) ∧ w' = w.alloc (.cells #[.string ⟨#[105, 100]⟩, .string ⟨#[110]⟩, .string ⟨#[110, 97, 109, 101]⟩] 9) := by
  go_enter Tryz.func107, Tryz.ntmps107
  go_wp2
  go_ret
  exact ⟨rfl, rfl⟩
set_option maxRecDepth 100000 in
set_option maxHeartbeats 4000000 in
theorem c_sign (op : Nat) (w : World) (h6 : 6 ≤ op) (h13 : op < 14) : Calls Tryz.prog 108 #[.int .i64 (op : Int)] w fun e w' => e = .returned (.string (sgT (op : Int))) ∧ Below w.heap.size w w' := by
  match op, h6, h13 with
  | 6, _, _ =>
    go_enter Tryz.func108, Tryz.ntmps108
    go_wp2
    go_ret
    exact ⟨rfl, (Below.refl _ _).alloc (Nat.le_refl _) _⟩
  | 7, _, _ =>
    go_enter Tryz.func108, Tryz.ntmps108
    go_wp2
    go_ret
    exact ⟨rfl, (Below.refl _ _).alloc (Nat.le_refl _) _⟩
  | 8, _, _ =>
    go_enter Tryz.func108, Tryz.ntmps108
    go_wp2
    go_ret
    exact ⟨rfl, (Below.refl _ _).alloc (Nat.le_refl _) _⟩
  | 9, _, _ =>
    go_enter Tryz.func108, Tryz.ntmps108
    go_wp2
    go_ret
    exact ⟨rfl, (Below.refl _ _).alloc (Nat.le_refl _) _⟩
  | 10, _, _ =>
    go_enter Tryz.func108, Tryz.ntmps108
    go_wp2
    go_ret
    exact ⟨rfl, (Below.refl _ _).alloc (Nat.le_refl _) _⟩
  | 11, _, _ =>
    go_enter Tryz.func108, Tryz.ntmps108
    go_wp2
    go_ret
    exact ⟨rfl, (Below.refl _ _).alloc (Nat.le_refl _) _⟩
  | 12, _, _ =>
    go_enter Tryz.func108, Tryz.ntmps108
    go_wp2
    go_ret
    exact ⟨rfl, (Below.refl _ _).alloc (Nat.le_refl _) _⟩
  | 13, _, _ =>
    go_enter Tryz.func108, Tryz.ntmps108
    go_wp2
    go_ret
    exact ⟨rfl, (Below.refl _ _).alloc (Nat.le_refl _) _⟩
set_option maxRecDepth 100000 in
set_option maxHeartbeats 4000000 in
theorem c_lt_con (L : List EN) (a : Option Addr) (n c k : Nat) (x : EN) (w : World) (hr : RdE w a n L) (hk : k < n) (hn : n ≤ 1048576) (hx : x = L.getD k zeroE) (h : valB x.k x.n x.t = true) (o1 : (x.o == 1) = true) :
    Calls Tryz.prog 52 #[.agg #[.slice a n c], .int .i64 (k : Int)] w fun e w' => e = .returned (.string (vtS x.k x.n x.t)) ∧ Below w.heap.size w w' := by
  obtain ⟨b, off, rfl, hbl, hc⟩ := hr.2 (by omega)
  obtain ⟨d0, d1, d2, d3, d4, d5, d6⟩ := RdE.at hc hk hx
  have g1 : (0 : Int) ≤ (k : Int) := by omega
  have g2 : (k : Int) < (n : Int) := by omega
  clear hc hx
  obtain ⟨w0, hw0⟩ : ∃ V, w.alloc (.cells #[.slice (some ⟨b, off, none⟩) n c] 24) = V := ⟨_, rfl⟩
  have B0 : Below w.heap.size w w0 := by rw [← hw0]; exact (Below.refl _ _).alloc (Nat.le_refl _) _
  have E0 : Box w0 w.heap.size 24 #[.slice (some ⟨b, off, none⟩) n c] := by rw [← hw0]; exact Box.new _ _ _
  have f0 := far6 B0 d0
  have f1 := far6 B0 d1
  have f2 := far6 B0 d2
  have f3 := far6 B0 d3
  have f4 := far6 B0 d4
  have f5 := far6 B0 d5
  have f6 := far6 B0 d6
  have e0 : w0.cell? ⟨w.heap.size, 0, none⟩ = some (.slice (some ⟨b, off, none⟩) n c) := E0.cell 0
  have l0 : w.heap.size < w0.heap.size := E0.lt
  obtain ⟨w1, hw1⟩ : ∃ V, w0.alloc (.cells #[.int .i64 x.o, .int .i64 x.a, .int .i64 x.b, .int .i64 x.c, .int .i64 x.k, .int .i64 x.n, .string x.t] 86) = V := ⟨_, rfl⟩
  have bb : Below w0.heap.size w0 w1 := by rw [← hw1]; exact (Below.refl _ _).alloc (Nat.le_refl _) _
  have B1 : Hid (Below w.heap.size w w1) := B0.trans (bb.mono B0.size)
  have E1 : Hid (Box w1 w.heap.size 24 #[.slice (some ⟨b, off, none⟩) n c]) := E0.belowS bb
  have N1 : Hid (Box w1 w0.heap.size 86 #[.int .i64 x.o, .int .i64 x.a, .int .i64 x.b, .int .i64 x.c, .int .i64 x.k, .int .i64 x.n, .string x.t]) := by unfold Hid; rw [← hw1]; exact Box.new _ _ _
  have e1 : w1.cell? ⟨w.heap.size, 0, none⟩ = some (.slice (some ⟨b, off, none⟩) n c) := E1.out.cell 0
  obtain ⟨x0, x1, x2, x3, x4, x5, x6⟩ := box7 N1.out
  clear B0 E0 bb d0 d1 d2 d3 d4 d5 d6
  have C := c_l01T x.k x.n x.t w1 h
  go_enter Tryz.func52, Tryz.ntmps52
  go_wp2_with fail
  refine C.mono ?_
  rintro e w2 ⟨rfl, hb⟩
  have B2 : Hid (Below w.heap.size w w2) := B1.out.trans (hb.mono B1.out.size)
  clear hb C f0 f1 f2 f3 f4 f5 f6 e0 hw0 hw1 x0 x1 x2 x3 x4 x5 x6
  go_wp2
  go_ret
  exact ⟨rfl, B2.out⟩
set_option maxRecDepth 100000 in
set_option maxHeartbeats 4000000 in
theorem c_lt_col (L : List EN) (a : Option Addr) (n c k : Nat) (x : EN) (w : World) (hr : RdE w a n L) (hk : k < n) (hn : n ≤ 1048576) (hx : x = L.getD k zeroE) (g3 : 0 ≤ x.c) (g4 : x.c < 3) (o1 : (x.o == 1) = false) (o2 : (x.o == 2) = true) :
    Calls Tryz.prog 52 #[.agg #[.slice a n c], .int .i64 (k : Int)] w fun e w' => e = .returned (.string (clT x.c)) ∧ Below w.heap.size w w' := by
  obtain ⟨b, off, rfl, hbl, hc⟩ := hr.2 (by omega)
  obtain ⟨d0, d1, d2, d3, d4, d5, d6⟩ := RdE.at hc hk hx
  have g1 : (0 : Int) ≤ (k : Int) := by omega
  have g2 : (k : Int) < (n : Int) := by omega
  clear hc hx
  obtain ⟨w0, hw0⟩ : ∃ V, w.alloc (.cells #[.slice (some ⟨b, off, none⟩) n c] 24) = V := ⟨_, rfl⟩
  have B0 : Below w.heap.size w w0 := by rw [← hw0]; exact (Below.refl _ _).alloc (Nat.le_refl _) _
  have E0 : Box w0 w.heap.size 24 #[.slice (some ⟨b, off, none⟩) n c] := by rw [← hw0]; exact Box.new _ _ _
  have f0 := far6 B0 d0
  have f1 := far6 B0 d1
  have f2 := far6 B0 d2
  have f3 := far6 B0 d3
  have f4 := far6 B0 d4
  have f5 := far6 B0 d5
  have f6 := far6 B0 d6
  have e0 : w0.cell? ⟨w.heap.size, 0, none⟩ = some (.slice (some ⟨b, off, none⟩) n c) := E0.cell 0
  have l0 : w.heap.size < w0.heap.size := E0.lt
  obtain ⟨w1, hw1⟩ : ∃ V, w0.alloc (.cells #[.int .i64 x.o, .int .i64 x.a, .int .i64 x.b, .int .i64 x.c, .int .i64 x.k, .int .i64 x.n, .string x.t] 86) = V := ⟨_, rfl⟩
  have bb : Below w0.heap.size w0 w1 := by rw [← hw1]; exact (Below.refl _ _).alloc (Nat.le_refl _) _
  have B1 : Hid (Below w.heap.size w w1) := B0.trans (bb.mono B0.size)
  have E1 : Hid (Box w1 w.heap.size 24 #[.slice (some ⟨b, off, none⟩) n c]) := E0.belowS bb
  have N1 : Hid (Box w1 w0.heap.size 86 #[.int .i64 x.o, .int .i64 x.a, .int .i64 x.b, .int .i64 x.c, .int .i64 x.k, .int .i64 x.n, .string x.t]) := by unfold Hid; rw [← hw1]; exact Box.new _ _ _
  have e1 : w1.cell? ⟨w.heap.size, 0, none⟩ = some (.slice (some ⟨b, off, none⟩) n c) := E1.out.cell 0
  obtain ⟨x0, x1, x2, x3, x4, x5, x6⟩ := box7 N1.out
  clear B0 E0 bb d0 d1 d2 d3 d4 d5 d6
  obtain ⟨s, hs⟩ : ∃ s, clT x.c = s := ⟨_, rfl⟩
  have HC : Hid (∀ W, Calls Tryz.prog 107 #[] W fun e w' => e = .returned (.slice (some ⟨W.heap.size, 0, none⟩) 3 3) ∧ w'.cell? ⟨W.heap.size, x.c.toNat, none⟩ = some (.string s) ∧ Below W.heap.size W w') := fun W => (c_cols W).mono fun e w' h => by
    obtain ⟨he, hw⟩ := h
    refine ⟨he, ?_, by rw [hw]; exact (Below.refl _ _).alloc (Nat.le_refl _) _⟩
    rw [hw, ← hs]
    have h3 : x.c = 0 ∨ x.c = 1 ∨ x.c = 2 := by omega
    rcases h3 with e | e | e
    · rw [e]; exact (Box.new W _ 9).cell 0
    · rw [e]; exact (Box.new W _ 9).cell 1
    · rw [e]; exact (Box.new W _ 9).cell 2
  rw [hs]
  clear hs
  go_enter Tryz.func52, Tryz.ntmps52
  go_wp2_with fail
  clear f0 f1 f2 f3 f4 f5 f6 e0 hw0 hw1
  go_region_with (go_at_call 107; refine (HC.out _).mono ?_; rintro e w2 ⟨rfl, kn, hb2⟩; have kn2 : w2.cell? ⟨w1.heap.size, x.c.toNat, none⟩ = some (.string s) := kn; have y3 : w2.cell? ⟨w0.heap.size, 3, none⟩ = some (.int .i64 x.c) := far6 (w := w1.drew) hb2 x3)
  all_goals
    have B2 : Hid (Below w.heap.size w w2) := B1.out.trans (((Below.refl w1.heap.size w1).drew.trans hb2).mono B1.out.size)
    clear hb2 kn
    go_wp2
    go_ret
    exact ⟨rfl, B2.out⟩
set_option maxRecDepth 100000 in
set_option maxHeartbeats 4000000 in
theorem c_lt_u3 (L : List EN) (a : Option Addr) (n c k : Nat) (x : EN) (w : World) (hr : RdE w a n L) (hk : k < n) (hn : n ≤ 1048576) (hx : x = L.getD k zeroE) (s : ByteArray) (hs : s.size ≤ 1000000) (IH : Hid (∀ W, Below w.heap.size w W → Calls Tryz.prog 52 #[.agg #[.slice a n c], .int .i64 x.a] W fun e w' => e = .returned (.string s) ∧ Below W.heap.size W w')) (o1 : (x.o == 1) = false) (o2 : (x.o == 2) = false) (o3 : (x.o == 3) = true) :
    Calls Tryz.prog 52 #[.agg #[.slice a n c], .int .i64 (k : Int)] w fun e w' => e = .returned (.string (⟨#[40, 110, 111, 116, 32]⟩ ++ s ++ ⟨#[41]⟩)) ∧ Below w.heap.size w w' := by
  obtain ⟨b, off, rfl, hbl, hc⟩ := hr.2 (by omega)
  obtain ⟨d0, d1, d2, d3, d4, d5, d6⟩ := RdE.at hc hk hx
  have g1 : (0 : Int) ≤ (k : Int) := by omega
  have g2 : (k : Int) < (n : Int) := by omega
  clear hc hx
  obtain ⟨w0, hw0⟩ : ∃ V, w.alloc (.cells #[.slice (some ⟨b, off, none⟩) n c] 24) = V := ⟨_, rfl⟩
  have B0 : Below w.heap.size w w0 := by rw [← hw0]; exact (Below.refl _ _).alloc (Nat.le_refl _) _
  have E0 : Box w0 w.heap.size 24 #[.slice (some ⟨b, off, none⟩) n c] := by rw [← hw0]; exact Box.new _ _ _
  have f0 := far6 B0 d0
  have f1 := far6 B0 d1
  have f2 := far6 B0 d2
  have f3 := far6 B0 d3
  have f4 := far6 B0 d4
  have f5 := far6 B0 d5
  have f6 := far6 B0 d6
  have e0 : w0.cell? ⟨w.heap.size, 0, none⟩ = some (.slice (some ⟨b, off, none⟩) n c) := E0.cell 0
  have l0 : w.heap.size < w0.heap.size := E0.lt
  obtain ⟨w1, hw1⟩ : ∃ V, w0.alloc (.cells #[.int .i64 x.o, .int .i64 x.a, .int .i64 x.b, .int .i64 x.c, .int .i64 x.k, .int .i64 x.n, .string x.t] 86) = V := ⟨_, rfl⟩
  have bb : Below w0.heap.size w0 w1 := by rw [← hw1]; exact (Below.refl _ _).alloc (Nat.le_refl _) _
  have B1 : Hid (Below w.heap.size w w1) := B0.trans (bb.mono B0.size)
  have E1 : Hid (Box w1 w.heap.size 24 #[.slice (some ⟨b, off, none⟩) n c]) := E0.belowS bb
  have N1 : Hid (Box w1 w0.heap.size 86 #[.int .i64 x.o, .int .i64 x.a, .int .i64 x.b, .int .i64 x.c, .int .i64 x.k, .int .i64 x.n, .string x.t]) := by unfold Hid; rw [← hw1]; exact Box.new _ _ _
  have e1 : w1.cell? ⟨w.heap.size, 0, none⟩ = some (.slice (some ⟨b, off, none⟩) n c) := E1.out.cell 0
  obtain ⟨x0, x1, x2, x3, x4, x5, x6⟩ := box7 N1.out
  clear B0 E0 bb d0 d1 d2 d3 d4 d5 d6
  have C := IH.out w1 B1.out
  clear IH
  go_enter Tryz.func52, Tryz.ntmps52
  go_wp2_with fail
  refine C.mono ?_
  rintro e w2 ⟨rfl, hb⟩
  have B2 : Hid (Below w.heap.size w w2) := B1.out.trans (hb.mono B1.out.size)
  clear hb C f0 f1 f2 f3 f4 f5 f6 e0 hw0 hw1 x0 x1 x2 x3 x4 x5 x6
  go_wp2
  go_ret
  exact ⟨rfl, B2.out⟩
set_option maxRecDepth 100000 in
set_option maxHeartbeats 4000000 in
theorem c_lt_u4 (L : List EN) (a : Option Addr) (n c k : Nat) (x : EN) (w : World) (hr : RdE w a n L) (hk : k < n) (hn : n ≤ 1048576) (hx : x = L.getD k zeroE) (s : ByteArray) (hs : s.size ≤ 1000000) (IH : Hid (∀ W, Below w.heap.size w W → Calls Tryz.prog 52 #[.agg #[.slice a n c], .int .i64 x.a] W fun e w' => e = .returned (.string s) ∧ Below W.heap.size W w')) (o1 : (x.o == 1) = false) (o2 : (x.o == 2) = false) (o3 : (x.o == 3) = false) (o4 : (x.o == 4) = true) :
    Calls Tryz.prog 52 #[.agg #[.slice a n c], .int .i64 (k : Int)] w fun e w' => e = .returned (.string (⟨#[40]⟩ ++ s ++ ⟨#[32, 105, 115, 32, 110, 117, 108, 108, 41]⟩)) ∧ Below w.heap.size w w' := by
  obtain ⟨b, off, rfl, hbl, hc⟩ := hr.2 (by omega)
  obtain ⟨d0, d1, d2, d3, d4, d5, d6⟩ := RdE.at hc hk hx
  have g1 : (0 : Int) ≤ (k : Int) := by omega
  have g2 : (k : Int) < (n : Int) := by omega
  clear hc hx
  obtain ⟨w0, hw0⟩ : ∃ V, w.alloc (.cells #[.slice (some ⟨b, off, none⟩) n c] 24) = V := ⟨_, rfl⟩
  have B0 : Below w.heap.size w w0 := by rw [← hw0]; exact (Below.refl _ _).alloc (Nat.le_refl _) _
  have E0 : Box w0 w.heap.size 24 #[.slice (some ⟨b, off, none⟩) n c] := by rw [← hw0]; exact Box.new _ _ _
  have f0 := far6 B0 d0
  have f1 := far6 B0 d1
  have f2 := far6 B0 d2
  have f3 := far6 B0 d3
  have f4 := far6 B0 d4
  have f5 := far6 B0 d5
  have f6 := far6 B0 d6
  have e0 : w0.cell? ⟨w.heap.size, 0, none⟩ = some (.slice (some ⟨b, off, none⟩) n c) := E0.cell 0
  have l0 : w.heap.size < w0.heap.size := E0.lt
  obtain ⟨w1, hw1⟩ : ∃ V, w0.alloc (.cells #[.int .i64 x.o, .int .i64 x.a, .int .i64 x.b, .int .i64 x.c, .int .i64 x.k, .int .i64 x.n, .string x.t] 86) = V := ⟨_, rfl⟩
  have bb : Below w0.heap.size w0 w1 := by rw [← hw1]; exact (Below.refl _ _).alloc (Nat.le_refl _) _
  have B1 : Hid (Below w.heap.size w w1) := B0.trans (bb.mono B0.size)
  have E1 : Hid (Box w1 w.heap.size 24 #[.slice (some ⟨b, off, none⟩) n c]) := E0.belowS bb
  have N1 : Hid (Box w1 w0.heap.size 86 #[.int .i64 x.o, .int .i64 x.a, .int .i64 x.b, .int .i64 x.c, .int .i64 x.k, .int .i64 x.n, .string x.t]) := by unfold Hid; rw [← hw1]; exact Box.new _ _ _
  have e1 : w1.cell? ⟨w.heap.size, 0, none⟩ = some (.slice (some ⟨b, off, none⟩) n c) := E1.out.cell 0
  obtain ⟨x0, x1, x2, x3, x4, x5, x6⟩ := box7 N1.out
  clear B0 E0 bb d0 d1 d2 d3 d4 d5 d6
  have C := IH.out w1 B1.out
  clear IH
  go_enter Tryz.func52, Tryz.ntmps52
  go_wp2_with fail
  refine C.mono ?_
  rintro e w2 ⟨rfl, hb⟩
  have B2 : Hid (Below w.heap.size w w2) := B1.out.trans (hb.mono B1.out.size)
  clear hb C f0 f1 f2 f3 f4 f5 f6 e0 hw0 hw1 x0 x1 x2 x3 x4 x5 x6
  go_wp2
  go_ret
  exact ⟨rfl, B2.out⟩
set_option maxRecDepth 100000 in
set_option maxHeartbeats 4000000 in
theorem c_lt_u5 (L : List EN) (a : Option Addr) (n c k : Nat) (x : EN) (w : World) (hr : RdE w a n L) (hk : k < n) (hn : n ≤ 1048576) (hx : x = L.getD k zeroE) (s : ByteArray) (hs : s.size ≤ 1000000) (IH : Hid (∀ W, Below w.heap.size w W → Calls Tryz.prog 52 #[.agg #[.slice a n c], .int .i64 x.a] W fun e w' => e = .returned (.string s) ∧ Below W.heap.size W w')) (o1 : (x.o == 1) = false) (o2 : (x.o == 2) = false) (o3 : (x.o == 3) = false) (o4 : (x.o == 4) = false) (o5 : (x.o == 5) = true) :
    Calls Tryz.prog 52 #[.agg #[.slice a n c], .int .i64 (k : Int)] w fun e w' => e = .returned (.string (⟨#[40, 45, 32, 40]⟩ ++ s ++ ⟨#[41, 41]⟩)) ∧ Below w.heap.size w w' := by
  obtain ⟨b, off, rfl, hbl, hc⟩ := hr.2 (by omega)
  obtain ⟨d0, d1, d2, d3, d4, d5, d6⟩ := RdE.at hc hk hx
  have g1 : (0 : Int) ≤ (k : Int) := by omega
  have g2 : (k : Int) < (n : Int) := by omega
  clear hc hx
  obtain ⟨w0, hw0⟩ : ∃ V, w.alloc (.cells #[.slice (some ⟨b, off, none⟩) n c] 24) = V := ⟨_, rfl⟩
  have B0 : Below w.heap.size w w0 := by rw [← hw0]; exact (Below.refl _ _).alloc (Nat.le_refl _) _
  have E0 : Box w0 w.heap.size 24 #[.slice (some ⟨b, off, none⟩) n c] := by rw [← hw0]; exact Box.new _ _ _
  have f0 := far6 B0 d0
  have f1 := far6 B0 d1
  have f2 := far6 B0 d2
  have f3 := far6 B0 d3
  have f4 := far6 B0 d4
  have f5 := far6 B0 d5
  have f6 := far6 B0 d6
  have e0 : w0.cell? ⟨w.heap.size, 0, none⟩ = some (.slice (some ⟨b, off, none⟩) n c) := E0.cell 0
  have l0 : w.heap.size < w0.heap.size := E0.lt
  obtain ⟨w1, hw1⟩ : ∃ V, w0.alloc (.cells #[.int .i64 x.o, .int .i64 x.a, .int .i64 x.b, .int .i64 x.c, .int .i64 x.k, .int .i64 x.n, .string x.t] 86) = V := ⟨_, rfl⟩
  have bb : Below w0.heap.size w0 w1 := by rw [← hw1]; exact (Below.refl _ _).alloc (Nat.le_refl _) _
  have B1 : Hid (Below w.heap.size w w1) := B0.trans (bb.mono B0.size)
  have E1 : Hid (Box w1 w.heap.size 24 #[.slice (some ⟨b, off, none⟩) n c]) := E0.belowS bb
  have N1 : Hid (Box w1 w0.heap.size 86 #[.int .i64 x.o, .int .i64 x.a, .int .i64 x.b, .int .i64 x.c, .int .i64 x.k, .int .i64 x.n, .string x.t]) := by unfold Hid; rw [← hw1]; exact Box.new _ _ _
  have e1 : w1.cell? ⟨w.heap.size, 0, none⟩ = some (.slice (some ⟨b, off, none⟩) n c) := E1.out.cell 0
  obtain ⟨x0, x1, x2, x3, x4, x5, x6⟩ := box7 N1.out
  clear B0 E0 bb d0 d1 d2 d3 d4 d5 d6
  have C := IH.out w1 B1.out
  clear IH
  go_enter Tryz.func52, Tryz.ntmps52
  go_wp2_with fail
  refine C.mono ?_
  rintro e w2 ⟨rfl, hb⟩
  have B2 : Hid (Below w.heap.size w w2) := B1.out.trans (hb.mono B1.out.size)
  clear hb C f0 f1 f2 f3 f4 f5 f6 e0 hw0 hw1 x0 x1 x2 x3 x4 x5 x6
  go_wp2
  go_ret
  exact ⟨rfl, B2.out⟩
set_option maxRecDepth 100000 in
set_option maxHeartbeats 4000000 in
theorem c_lt_bin (L : List EN) (a : Option Addr) (n c k : Nat) (x : EN) (w : World) (hr : RdE w a n L) (hk : k < n) (hn : n ≤ 1048576) (hx : x = L.getD k zeroE) (op : Nat) (h6 : 6 ≤ op) (h13 : op < 14) (hop : x.o = (op : Int)) (s r : ByteArray) (hsz : s.size ≤ 1000000) (hrz : r.size ≤ 1000000) (IH : Hid (∀ W, Below w.heap.size w W → Calls Tryz.prog 52 #[.agg #[.slice a n c], .int .i64 x.a] W fun e w' => e = .returned (.string s) ∧ Below W.heap.size W w')) (IJ : Hid (∀ W, Below w.heap.size w W → Calls Tryz.prog 52 #[.agg #[.slice a n c], .int .i64 x.b] W fun e w' => e = .returned (.string r) ∧ Below W.heap.size W w')) (o1 : (x.o == 1) = false) (o2 : (x.o == 2) = false) (o3 : (x.o == 3) = false) (o4 : (x.o == 4) = false) (o5 : (x.o == 5) = false) :
    Calls Tryz.prog 52 #[.agg #[.slice a n c], .int .i64 (k : Int)] w fun e w' => e = .returned (.string (biT x.o s r)) ∧ Below w.heap.size w w' := by
  obtain ⟨b, off, rfl, hbl, hc⟩ := hr.2 (by omega)
  obtain ⟨d0, d1, d2, d3, d4, d5, d6⟩ := RdE.at hc hk hx
  have g1 : (0 : Int) ≤ (k : Int) := by omega
  have g2 : (k : Int) < (n : Int) := by omega
  clear hc hx
  obtain ⟨w0, hw0⟩ : ∃ V, w.alloc (.cells #[.slice (some ⟨b, off, none⟩) n c] 24) = V := ⟨_, rfl⟩
  have B0 : Below w.heap.size w w0 := by rw [← hw0]; exact (Below.refl _ _).alloc (Nat.le_refl _) _
  have E0 : Box w0 w.heap.size 24 #[.slice (some ⟨b, off, none⟩) n c] := by rw [← hw0]; exact Box.new _ _ _
  have f0 := far6 B0 d0
  have f1 := far6 B0 d1
  have f2 := far6 B0 d2
  have f3 := far6 B0 d3
  have f4 := far6 B0 d4
  have f5 := far6 B0 d5
  have f6 := far6 B0 d6
  have e0 : w0.cell? ⟨w.heap.size, 0, none⟩ = some (.slice (some ⟨b, off, none⟩) n c) := E0.cell 0
  have l0 : w.heap.size < w0.heap.size := E0.lt
  obtain ⟨w1, hw1⟩ : ∃ V, w0.alloc (.cells #[.int .i64 x.o, .int .i64 x.a, .int .i64 x.b, .int .i64 x.c, .int .i64 x.k, .int .i64 x.n, .string x.t] 86) = V := ⟨_, rfl⟩
  have bb : Below w0.heap.size w0 w1 := by rw [← hw1]; exact (Below.refl _ _).alloc (Nat.le_refl _) _
  have B1 : Hid (Below w.heap.size w w1) := B0.trans (bb.mono B0.size)
  have E1 : Hid (Box w1 w.heap.size 24 #[.slice (some ⟨b, off, none⟩) n c]) := E0.belowS bb
  have N1 : Hid (Box w1 w0.heap.size 86 #[.int .i64 x.o, .int .i64 x.a, .int .i64 x.b, .int .i64 x.c, .int .i64 x.k, .int .i64 x.n, .string x.t]) := by unfold Hid; rw [← hw1]; exact Box.new _ _ _
  have e1 : w1.cell? ⟨w.heap.size, 0, none⟩ = some (.slice (some ⟨b, off, none⟩) n c) := E1.out.cell 0
  obtain ⟨x0, x1, x2, x3, x4, x5, x6⟩ := box7 N1.out
  clear B0 E0 bb d0 d1 d2 d3 d4 d5 d6
  have CL : Hid (∀ r' : Out w1, Calls Tryz.prog 52 #[.agg #[.slice (some ⟨b, off, none⟩) n c], .int .i64 x.a] r'.y fun e w' => e = .returned (.string s) ∧ Below r'.y.heap.size r'.y w') := fun r' => IH.out r'.y (B1.out.trans (r'.p.mono B1.out.size))
  have CR : Hid (∀ r' : Out w1, Calls Tryz.prog 52 #[.agg #[.slice (some ⟨b, off, none⟩) n c], .int .i64 x.b] r'.y fun e w' => e = .returned (.string r) ∧ Below r'.y.heap.size r'.y w') := fun r' => IJ.out r'.y (B1.out.trans (r'.p.mono B1.out.size))
  have CG : Hid (∀ r' : Out w1, Calls Tryz.prog 108 #[.int .i64 x.o] r'.y fun e w' => e = .returned (.string (sgT x.o)) ∧ Below r'.y.heap.size r'.y w') := fun r' => by rw [hop]; exact c_sign op r'.y h6 h13
  obtain ⟨sg, hs⟩ : ∃ sg, sgT x.o = sg := ⟨_, rfl⟩
  have hg : (sgT x.o).size ≤ 3 := sgT_size _
  have E : Hid (biT x.o s r = ⟨#[40]⟩ ++ s ++ ⟨#[32]⟩ ++ sg ++ ⟨#[32]⟩ ++ r ++ ⟨#[41]⟩) := by unfold Hid biT; rw [hs]
  rw [hs] at CG hg
  have q0 := fun r' : Out w1 => q_cell x0 r'
  have q1 := fun r' : Out w1 => q_cell x1 r'
  have q2 := fun r' : Out w1 => q_cell x2 r'
  have qe := fun r' : Out w1 => q_cell e1 r'
  clear IH IJ hs hop
  go_enter Tryz.func52, Tryz.ntmps52
  go_wp2_with fail
  clear f0 f1 f2 f3 f4 f5 f6 e0 hw0 hw1 x0 x1 x2 x3 x4 x5 x6 e1
  haveI nonE := Out.some w1
  refine q_begin (by kernel_rfl) (by kernel_rfl) ?_
  repeat (go_big_quiet_step (first | with_reducible exact q_call (CL.out _) | with_reducible exact q_call (CR.out _) | with_reducible exact q_call (CG.out _)))
  refine wpQuiet_nil ?_
  rintro w3 ⟨⟨y', hb3⟩, hy⟩
  have hy' : w3 = y' := hy
  clear hy
  subst hy'
  have B3 : Hid (Below w.heap.size w w3) := B1.out.trans (hb3.mono B1.out.size)
  clear hb3 q0 q1 q2 qe CL CR CG
  go_wp2
  go_ret
  exact ⟨by rw [E.out]; rfl, B3.out⟩
theorem pF_fine (L : List EN) (hs : ∀ v ∈ L, v.t.size ≤ maxLen) : ∀ (fu k : Nat) (p : PT) (f : Nat), pF L fu k = some (p, f) → k ≤ L.length → p.fine ∧ p.wt ≤ 30 * (k - f) ∧ f ≤ k
  | 0, _, _, _, h, _ => by simp [pF] at h
  | _ + 1, 0, _, _, h, _ => by simp [pF] at h
  | fu + 1, k + 1, p, f, h, hk => by
    have hlt := pF_lt L _ _ _ _ h
    rcases pF_inv L fu k p f _ rfl h with ⟨_, rfl, h1⟩ | ⟨_, _, rfl, h1⟩ | ⟨_, _, q, h1, rfl, _, h2⟩ | ⟨_, _, l, r, m, h1, rfl, _, _, h2, h3⟩
    · refine ⟨⟨h1, ?_⟩, by show 30 ≤ _; omega, by omega⟩
      exact getD_ofX (d := zeroE) (Q := fun v : EN => v.t.size ≤ maxLen) hs (show k < L.length by omega)
    · exact ⟨by unfold inB at h1; simp at h1; exact h1, by show 30 ≤ _; omega, by omega⟩
    · obtain ⟨a, b, c⟩ := pF_fine L hs fu k q f h2 (by omega)
      unfold inB at h1
      simp at h1
      exact ⟨⟨h1.1, h1.2, a⟩, by show q.wt + 30 ≤ _; omega, by omega⟩
    · obtain ⟨a, b, c⟩ := pF_fine L hs fu k r m h2 (by omega)
      have := pF_lt L _ _ _ _ h2
      obtain ⟨a', b', c'⟩ := pF_fine L hs fu m l f h3 (by omega)
      unfold inB at h1
      simp at h1
      exact ⟨⟨h1.1, h1.2, a', a⟩, by show l.wt + r.wt + 30 ≤ _; omega, by omega⟩
set_option maxHeartbeats 2000000 in
theorem c_lt (L : List EN) (a : Option Addr) (n c : Nat) (hn : n ≤ 40) (hs : ∀ v ∈ L, v.t.size ≤ maxLen) : ∀ (fu k : Nat) (p : PT) (f : Nat) (w : World), pF L fu (k + 1) = some (p, f) → k < n → RdE w a n L →
    Calls Tryz.prog 52 #[.agg #[.slice a n c], .int .i64 (k : Int)] w fun e w' => e = .returned (.string (txP p)) ∧ Below w.heap.size w w'
  | 0, _, _, _, _, h, _, _ => by simp [pF] at h
  | fu + 1, k, p, f, w, h, hk, hr => by
    have hL : L.length = n := hr.1
    obtain ⟨x, hx⟩ : ∃ x, x = L.getD k zeroE := ⟨_, rfl⟩
    rcases pF_inv L fu k p f x hx h with ⟨o1, rfl, h1⟩ | ⟨o1, o2, rfl, h1⟩ | ⟨o1, o2, p', h1, rfl, ha, h2⟩ | ⟨o1, o2, l, r', m, h1, rfl, ha, hb, h2, h3⟩
    · exact c_lt_con L a n c k x w hr hk (by omega) hx h1 o1
    · unfold inB at h1
      simp at h1
      exact c_lt_col L a n c k x w hr hk (by omega) hx h1.1 (by omega) o1 o2
    · obtain ⟨f1, f2, f3⟩ := pF_fine L hs fu k p' f h2 (by omega)
      have hsz := txP_size p' f1
      have IH : Hid (∀ W, Below w.heap.size w W → Calls Tryz.prog 52 #[.agg #[.slice a n c], .int .i64 x.a] W fun e w' => e = .returned (.string (txP p')) ∧ Below W.heap.size W w') := fun W hW => by
        have hk0 : 0 < k := by have := pF_lt L fu k p' f h2; omega
        obtain ⟨j, rfl⟩ : ∃ j, k = j + 1 := ⟨k - 1, by omega⟩
        rw [ha, show ((j + 1 : Nat) : Int) - 1 = (j : Int) by omega]
        exact c_lt L a n c hn hs fu j p' f W h2 (by omega) (hr.below hW)
      unfold inB at h1
      simp at h1
      have h3 : x.o = 3 ∨ x.o = 4 ∨ x.o = 5 := by omega
      rcases h3 with e | e | e
      · have := c_lt_u3 L a n c k x w hr hk (by omega) hx (txP p') (by omega) IH o1 o2 (by rw [e]; rfl)
        rw [txP, unT, if_pos e]; exact this
      · have := c_lt_u4 L a n c k x w hr hk (by omega) hx (txP p') (by omega) IH o1 o2 (by rw [e]; rfl) (by rw [e]; rfl)
        rw [txP, unT, if_neg (by omega), if_pos e]; exact this
      · have := c_lt_u5 L a n c k x w hr hk (by omega) hx (txP p') (by omega) IH o1 o2 (by rw [e]; rfl) (by rw [e]; rfl) (by rw [e]; rfl)
        rw [txP, unT, if_neg (by omega), if_neg (by omega)]; exact this
    · have hm := pF_lt L fu k r' m h2
      obtain ⟨f1, f2, f3⟩ := pF_fine L hs fu k r' m h2 (by omega)
      obtain ⟨e1, e2, e3⟩ := pF_fine L hs fu m l f h3 (by omega)
      have hs1 := txP_size r' f1
      have hs2 := txP_size l e1
      have IH : Hid (∀ W, Below w.heap.size w W → Calls Tryz.prog 52 #[.agg #[.slice a n c], .int .i64 x.a] W fun e w' => e = .returned (.string (txP l)) ∧ Below W.heap.size W w') := fun W hW => by
        have hk0 : 0 < m := by have := pF_lt L fu m l f h3; omega
        obtain ⟨j, rfl⟩ : ∃ j, m = j + 1 := ⟨m - 1, by omega⟩
        rw [ha, show ((j + 1 : Nat) : Int) - 1 = (j : Int) by omega]
        exact c_lt L a n c hn hs fu j l f W h3 (by omega) (hr.below hW)
      have IJ : Hid (∀ W, Below w.heap.size w W → Calls Tryz.prog 52 #[.agg #[.slice a n c], .int .i64 x.b] W fun e w' => e = .returned (.string (txP r')) ∧ Below W.heap.size W w') := fun W hW => by
        obtain ⟨j, rfl⟩ : ∃ j, k = j + 1 := ⟨k - 1, by omega⟩
        rw [hb, show ((j + 1 : Nat) : Int) - 1 = (j : Int) by omega]
        exact c_lt L a n c hn hs fu j r' m W h2 (by omega) (hr.below hW)
      unfold inB at h1
      simp at h1
      obtain ⟨op, hop⟩ : ∃ op : Nat, x.o = (op : Int) := ⟨x.o.toNat, by omega⟩
      have nz : ∀ z : Int, z < 6 → (x.o == z) = false := fun z hz => by simp; omega
      exact c_lt_bin L a n c k x w hr hk (by omega) hx op (by omega) (by omega) hop (txP l) (txP r') (by omega) (by omega) IH IJ (nz 1 (by omega)) (nz 2 (by omega)) (nz 3 (by omega)) (nz 4 (by omega)) (nz 5 (by omega))

end Go.Proofs.YtbpfpjmjmkpjoaaGreatDoor
