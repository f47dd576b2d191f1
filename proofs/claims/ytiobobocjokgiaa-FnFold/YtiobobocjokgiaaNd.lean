/-
  A row out of a code.
-/
import Derived.Test.YtiobobocjokgiaaFka
import Derived.Test.YtiobobocjokgiaaXr
import Derived.Deep.RegionHeld3
import Derived.Laws.OwnMore
namespace Go.Proofs.Ytiobobocjokgiaa
open Go Go.RowKit
attribute [local go_sem ↓] Go.wp_at_zero Go.wp_at_succ

set_option linter.unusedVariables false
set_option linter.unusedSimpArgs false
def lst3 : List ByteArray := [⟨#[97]⟩, ⟨#[98]⟩, ⟨#[110, 97, 109, 101]⟩]
theorem lst3_ok (s : ByteArray) (h : s ∈ lst3) : okV (2, 0, s) = true := by
  unfold lst3 at h
  simp only [List.mem_cons, List.not_mem_nil, or_false] at h
  rcases h with rfl | rfl | rfl <;> decide
theorem lst3_rd (w : World) : RdV (w.alloc (.cells #[.string ⟨#[97]⟩, .string ⟨#[98]⟩, .string ⟨#[110, 97, 109, 101]⟩] 9)) (some ⟨w.heap.size, 0, none⟩) 3 (lst3.map Value.string) :=
  RdV.own (World.ownsRow_lit (base := w.heap.size) (e := 9) (size := 1) w #[.string ⟨#[97]⟩, .string ⟨#[98]⟩, .string ⟨#[110, 97, 109, 101]⟩] 3 (Nat.le_refl _) (by unfold maxLen; omega) rfl)
theorem loadVarR {w : World} {r : Nat} {v0 v1 v2 v3 v4 v5 v6 : Value} (hb : Box w r 40 #[v0, v1, v2, v3, v4, v5, v6]) : (loadVar 40 ⟨r, 0, none⟩).run Try.prog w = .ok (.agg #[v0, v1, v2, v3, v4, v5, v6]) w := by
  obtain ⟨x0, x1, x2, x3, x4, x5, x6⟩ := box7 hb
  simp [go_sem, x0, x1, x2, x3, x4, x5, x6]
theorem retR {fn : Func} {p : Tmp} (h : fn.results = #[.cell p 40]) {R : Ending → World → Prop} {a : Act} {w : World} {r : Nat} {v0 v1 v2 v3 v4 v5 v6 : Value} (hp : a.tmps.getD p undef = .pointer (some ⟨r, 0, none⟩)) (hd : a.defers = []) (hb : Box w r 40 #[v0, v1, v2, v3, v4, v5, v6]) (hR : R (.returned (.agg #[v0, v1, v2, v3, v4, v5, v6])) w) : bodyPost Try.prog fn R .ret a w := by
  refine bodyPost_ret ?_ hd hR
  have hp' : a.tmps[p]?.getD undef = .pointer (some ⟨r, 0, none⟩) := by simpa using hp
  simp only [results, h]
  simp [hp', asAddr, loadVarR hb]
def RPost (e : Ending) : Prop := ∃ (i : Int) (u v : VV), e = .returned (.agg #[.int .i64 i, .int .i64 u.1, .int .i64 u.2.1, .string u.2.2, .int .i64 v.1, .int .i64 v.2.1, .string v.2.2]) ∧ rowB i u v = true
set_option maxRecDepth 100000 in
set_option maxHeartbeats 8000000 in
theorem c_row (w0 w : World) (g : Nat) (a : Option Addr) (n c T : Nat) (zs : List Int) (h : Drw w0 w g a n c T zs) (hT : T ≤ 1000) :
    Calls Try.prog 43 #[.pointer (some ⟨g, 0, none⟩)] w fun e w' => RPost e ∧ Drw w0 w' g a n c (T + 12) zs ∧ Inn g (g + 1) w w' := by
  have lg : g < w.heap.size := h.src.lt
  have lb : w0.heap.size ≤ g := h.behind
  obtain ⟨w1, hw1⟩ : ∃ Q, w.alloc (.cells #[.int .i64 0, .int .i64 0, .int .i64 0, .string ⟨#[]⟩, .int .i64 0, .int .i64 0, .string ⟨#[]⟩] 40) = Q := ⟨_, rfl⟩
  have b1 : Below w.heap.size w w1 := by rw [← hw1]; exact (Below.refl _ _).alloc (Nat.le_refl _) _
  have X1 : Hid (Box w1 w.heap.size 40 #[.int .i64 0, .int .i64 0, .int .i64 0, .string ⟨#[]⟩, .int .i64 0, .int .i64 0, .string ⟨#[]⟩]) := by unfold Hid; rw [← hw1]; exact Box.new _ _ _
  have D1 : Hid (Drw w0 w1 g a n c (T + 0) zs) := h.below b1
  have I1 : Hid (Inn g (g + 1) w w1) := Inn.ofB b1
  clear h b1
  go_enter Try.func43, Try.ntmps43
  go_wp2_with fail
  refine (c_next w0 w1 g a n c (T + 0) zs 6 D1.out (by omega) (by omega)).mono ?_
  rintro e w2 ⟨⟨r2, rfl, p2, q2⟩, hd, hi⟩
  have D2 : Hid (Drw w0 w2 g a n c (T + 1) zs) := hd
  have I2 : Hid (Inn g (g + 1) w w2) := I1.out.trans hi
  have X2 : Hid (Box w2 w.heap.size 40 #[.int .i64 0, .int .i64 0, .int .i64 0, .string ⟨#[]⟩, .int .i64 0, .int .i64 0, .string ⟨#[]⟩]) := X1.out.innO hi (.inr (by omega))
  clear hd hi D1 I1 X1
  go_wp2_with fail
  refine (c_value w0 w2 g a n c (T + 1) zs D2.out (by omega)).mono ?_
  rintro e w3 ⟨⟨u, rfl, hu⟩, hd, hi⟩
  have HU : Hid (okV u = true) := hu
  clear hu
  have D3 : Hid (Drw w0 w3 g a n c (T + 1 + 4) zs) := hd
  have I3 : Hid (Inn g (g + 1) w w3) := I2.out.trans hi
  have X3 : Hid (Box w3 w.heap.size 40 #[.int .i64 0, .int .i64 0, .int .i64 0, .string ⟨#[]⟩, .int .i64 0, .int .i64 0, .string ⟨#[]⟩]) := X2.out.innO hi (.inr (by omega))
  clear hd hi D2 I2 X2
  go_wp2_with fail
  refine (c_value w0 w3 g a n c (T + 5) zs D3.out (by omega)).mono ?_
  rintro e w4 ⟨⟨v, rfl, hv⟩, hd, hi⟩
  have HV : Hid (okV v = true) := hv
  clear hv
  have D4 : Hid (Drw w0 w4 g a n c (T + 5 + 4) zs) := hd
  have I4 : Hid (Inn g (g + 1) w w4) := I3.out.trans hi
  have X4 : Hid (Box w4 w.heap.size 40 #[.int .i64 0, .int .i64 0, .int .i64 0, .string ⟨#[]⟩, .int .i64 0, .int .i64 0, .string ⟨#[]⟩]) := X3.out.innO hi (.inr (by omega))
  clear hd hi D3 I3 X3
  obtain ⟨w5, hw5⟩ : ∃ Q, w4.alloc (.cells #[.int .i64 r2, .int .i64 u.1, .int .i64 u.2.1, .string u.2.2, .int .i64 v.1, .int .i64 v.2.1, .string v.2.2] 40) = Q := ⟨_, rfl⟩
  have b : Below w4.heap.size w4 w5 := by rw [← hw5]; exact (Below.refl _ _).alloc (Nat.le_refl _) _
  have Y5 : Hid (Box w5 w4.heap.size 40 #[.int .i64 r2, .int .i64 u.1, .int .i64 u.2.1, .string u.2.2, .int .i64 v.1, .int .i64 v.2.1, .string v.2.2]) := by unfold Hid; rw [← hw5]; exact Box.new _ _ _
  have l4 : w.heap.size < w4.heap.size := X4.out.lt
  have D5 : Hid (Drw w0 w5 g a n c (T + 9) zs) := D4.out.below b
  have I5 : Hid (Inn g (g + 1) w w5) := I4.out.trans (Inn.ofB b)
  have X5 : Hid (Box w5 w.heap.size 40 #[.int .i64 0, .int .i64 0, .int .i64 0, .string ⟨#[]⟩, .int .i64 0, .int .i64 0, .string ⟨#[]⟩]) := X4.out.belowS b
  clear b D4 I4 X4
  by_cases ku : u.1 = 2
  · have eu : (u.1 == 2) = true := by simp [ku]
    clear ku
    obtain ⟨y0, y1, y2, y3, y4, y5, y6⟩ := box7 Y5.out
    go_wp2_with fail
    refine (c_next w0 w5 g a n c (T + 9) zs 9 D5.out (by omega) (by omega)).mono ?_
    rintro e w6 ⟨⟨r6, rfl, p6, q6⟩, hd, hi⟩
    have D6 : Hid (Drw w0 w6 g a n c (T + 10) zs) := hd
    have I6 : Hid (Inn g (g + 1) w w6) := I5.out.trans hi
    have X6 : Hid (Box w6 w.heap.size 40 #[.int .i64 0, .int .i64 0, .int .i64 0, .string ⟨#[]⟩, .int .i64 0, .int .i64 0, .string ⟨#[]⟩]) := X5.out.innO hi (.inr (by omega))
    have Y6 : Hid (Box w6 w4.heap.size 40 #[.int .i64 r2, .int .i64 u.1, .int .i64 u.2.1, .string u.2.2, .int .i64 v.1, .int .i64 v.2.1, .string v.2.2]) := Y5.out.innO hi (.inr (by omega))
    clear hd hi D5 I5 X5 Y5
    clear y0 y1 y2 y3 y4 y5 y6 hw5
    have z1 := Y6.out.thaw 1
    have z2 := Y6.out.thaw 2
    have z3 := Y6.out.thaw 3
    obtain ⟨y0, y1, y2, y3, y4, y5, y6⟩ := box7 Y6.out
    obtain ⟨w7, hw7⟩ : ∃ Q, (((w6.setCell ⟨w4.heap.size, 1, none⟩ (.int .i64 1)).setCell ⟨w4.heap.size, 2, none⟩ (.int .i64 r6)).setCell ⟨w4.heap.size, 3, none⟩ (.string ⟨#[]⟩)) = Q := ⟨_, rfl⟩
    have iN : Inn w4.heap.size (w4.heap.size + 1) w6 w7 := by rw [← hw7]; exact ((((((Inn.refl _ _ _).set ⟨w4.heap.size, 1, none⟩ (.int .i64 1) (by simp))).set ⟨w4.heap.size, 2, none⟩ (.int .i64 r6) (by simp))).set ⟨w4.heap.size, 3, none⟩ (.string ⟨#[]⟩) (by simp))
    have Y7 : Hid (Box w7 w4.heap.size 40 #[.int .i64 r2, .int .i64 ((1, r6, ⟨#[]⟩) : VV).1, .int .i64 ((1, r6, ⟨#[]⟩) : VV).2.1, .string ((1, r6, ⟨#[]⟩) : VV).2.2, .int .i64 v.1, .int .i64 v.2.1, .string v.2.2]) := by unfold Hid; rw [← hw7]; exact (((Y6.out.set 1 (.int .i64 1)).set 2 (.int .i64 r6)).set 3 (.string ⟨#[]⟩))
    have X7 : Hid (Box w7 w.heap.size 40 #[.int .i64 0, .int .i64 0, .int .i64 0, .string ⟨#[]⟩, .int .i64 0, .int .i64 0, .string ⟨#[]⟩]) := by unfold Hid; rw [← hw7]; exact (((X6.out.setOther ⟨w4.heap.size, 1, none⟩ (.int .i64 1) (by simp; omega)).setOther ⟨w4.heap.size, 2, none⟩ (.int .i64 r6) (by simp; omega)).setOther ⟨w4.heap.size, 3, none⟩ (.string ⟨#[]⟩) (by simp; omega))
    have D7 : Hid (Drw w0 w7 g a n c (T + 10) zs) := D6.out.inn iN (.inl (by omega)) (by omega)
    have I7 : Hid (Inn g (g + 1) w w7) := inn_fresh I6.out iN (by omega)
    clear iN D6 I6 X6 Y6
    by_cases kv : v.1 = 1
    · have ev : (v.1 == 1) = true := by simp [kv]
      obtain ⟨y0, y1, y2, y3, y4, y5, y6⟩ := box7 Y7.out
      obtain ⟨w8, hw8⟩ : ∃ Q, w7.alloc (.cells #[.string ⟨#[97]⟩, .string ⟨#[98]⟩, .string ⟨#[110, 97, 109, 101]⟩] 9) = Q := ⟨_, rfl⟩
      have b : Below w7.heap.size w7 w8 := by rw [← hw8]; exact (Below.refl _ _).alloc (Nat.le_refl _) _
      have RL : Hid (RdV w8 (some ⟨w7.heap.size, 0, none⟩) 3 (lst3.map Value.string)) := by unfold Hid; rw [← hw8]; exact lst3_rd w7
      have lh7 : w4.heap.size < w7.heap.size := Y7.out.lt
      have D8 : Hid (Drw w0 w8 g a n c (T + 10) zs) := D7.out.below b
      have I8 : Hid (Inn g (g + 1) w w8) := I7.out.trans (Inn.ofB b)
      have X8 : Hid (Box w8 w.heap.size 40 #[.int .i64 0, .int .i64 0, .int .i64 0, .string ⟨#[]⟩, .int .i64 0, .int .i64 0, .string ⟨#[]⟩]) := X7.out.belowS b
      have Y8 : Hid (Box w8 w4.heap.size 40 #[.int .i64 r2, .int .i64 ((1, r6, ⟨#[]⟩) : VV).1, .int .i64 ((1, r6, ⟨#[]⟩) : VV).2.1, .string ((1, r6, ⟨#[]⟩) : VV).2.2, .int .i64 v.1, .int .i64 v.2.1, .string v.2.2]) := Y7.out.belowS b
      clear b D7 I7 X7 Y7
      clear kv
      go_wp2_with fail
      refine (c_pick w0 w8 g a n c (T + 10) zs (some ⟨w7.heap.size, 0, none⟩) 3 3 lst3 D8.out (by omega) (by omega) RL.out (fun b e => by have e1 : w7.heap.size = b := Option.some.inj e; omega)).mono ?_
      rintro e w9 ⟨⟨s, hs, rfl⟩, hd, hi⟩
      have HS : Hid (okV (2, 0, s) = true) := lst3_ok s hs
      have D9 : Hid (Drw w0 w9 g a n c (T + 10 + 1) zs) := hd
      have I9 : Hid (Inn g (g + 1) w w9) := I8.out.trans hi
      have X9 : Hid (Box w9 w.heap.size 40 #[.int .i64 0, .int .i64 0, .int .i64 0, .string ⟨#[]⟩, .int .i64 0, .int .i64 0, .string ⟨#[]⟩]) := X8.out.innO hi (.inr (by omega))
      have Y9 : Hid (Box w9 w4.heap.size 40 #[.int .i64 r2, .int .i64 ((1, r6, ⟨#[]⟩) : VV).1, .int .i64 ((1, r6, ⟨#[]⟩) : VV).2.1, .string ((1, r6, ⟨#[]⟩) : VV).2.2, .int .i64 v.1, .int .i64 v.2.1, .string v.2.2]) := Y8.out.innO hi (.inr (by omega))
      clear hd hi D8 I8 X8 Y8
      clear hs RL hw8 y0 y1 y2 y3 y4 y5 y6
      have z1 := Y9.out.thaw 4
      have z2 := Y9.out.thaw 5
      have z3 := Y9.out.thaw 6
      obtain ⟨y0, y1, y2, y3, y4, y5, y6⟩ := box7 Y9.out
      obtain ⟨w10, hw10⟩ : ∃ Q, (((w9.setCell ⟨w4.heap.size, 4, none⟩ (.int .i64 2)).setCell ⟨w4.heap.size, 5, none⟩ (.int .i64 0)).setCell ⟨w4.heap.size, 6, none⟩ (.string s)) = Q := ⟨_, rfl⟩
      have iN : Inn w4.heap.size (w4.heap.size + 1) w9 w10 := by rw [← hw10]; exact ((((((Inn.refl _ _ _).set ⟨w4.heap.size, 4, none⟩ (.int .i64 2) (by simp))).set ⟨w4.heap.size, 5, none⟩ (.int .i64 0) (by simp))).set ⟨w4.heap.size, 6, none⟩ (.string s) (by simp))
      have Y10 : Hid (Box w10 w4.heap.size 40 #[.int .i64 r2, .int .i64 ((1, r6, ⟨#[]⟩) : VV).1, .int .i64 ((1, r6, ⟨#[]⟩) : VV).2.1, .string ((1, r6, ⟨#[]⟩) : VV).2.2, .int .i64 ((2, 0, s) : VV).1, .int .i64 ((2, 0, s) : VV).2.1, .string ((2, 0, s) : VV).2.2]) := by unfold Hid; rw [← hw10]; exact (((Y9.out.set 4 (.int .i64 2)).set 5 (.int .i64 0)).set 6 (.string s))
      have X10 : Hid (Box w10 w.heap.size 40 #[.int .i64 0, .int .i64 0, .int .i64 0, .string ⟨#[]⟩, .int .i64 0, .int .i64 0, .string ⟨#[]⟩]) := by unfold Hid; rw [← hw10]; exact (((X9.out.setOther ⟨w4.heap.size, 4, none⟩ (.int .i64 2) (by simp; omega)).setOther ⟨w4.heap.size, 5, none⟩ (.int .i64 0) (by simp; omega)).setOther ⟨w4.heap.size, 6, none⟩ (.string s) (by simp; omega))
      have D10 : Hid (Drw w0 w10 g a n c (T + 10 + 1) zs) := D9.out.inn iN (.inl (by omega)) (by omega)
      have I10 : Hid (Inn g (g + 1) w w10) := inn_fresh I9.out iN (by omega)
      clear iN D9 I9 X9 Y9
      obtain ⟨y0, y1, y2, y3, y4, y5, y6⟩ := box7 Y10.out
      obtain ⟨x0, x1, x2, x3, x4, x5, x6⟩ := box7 X10.out
      have t0 := X10.out.thaw 0
      have t1 := X10.out.thaw 1
      have t2 := X10.out.thaw 2
      have t3 := X10.out.thaw 3
      have t4 := X10.out.thaw 4
      have t5 := X10.out.thaw 5
      have t6 := X10.out.thaw 6
      obtain ⟨N, hN⟩ : ∃ Q, (((((((w10.setCell ⟨w.heap.size, 0, none⟩ (.int .i64 r2)).setCell ⟨w.heap.size, 1, none⟩ (.int .i64 ((1, r6, ⟨#[]⟩) : VV).1)).setCell ⟨w.heap.size, 2, none⟩ (.int .i64 ((1, r6, ⟨#[]⟩) : VV).2.1)).setCell ⟨w.heap.size, 3, none⟩ (.string ((1, r6, ⟨#[]⟩) : VV).2.2)).setCell ⟨w.heap.size, 4, none⟩ (.int .i64 ((2, 0, s) : VV).1)).setCell ⟨w.heap.size, 5, none⟩ (.int .i64 ((2, 0, s) : VV).2.1)).setCell ⟨w.heap.size, 6, none⟩ (.string ((2, 0, s) : VV).2.2)) = Q := ⟨_, rfl⟩
      have XN : Hid (Box N w.heap.size 40 #[.int .i64 r2, .int .i64 ((1, r6, ⟨#[]⟩) : VV).1, .int .i64 ((1, r6, ⟨#[]⟩) : VV).2.1, .string ((1, r6, ⟨#[]⟩) : VV).2.2, .int .i64 ((2, 0, s) : VV).1, .int .i64 ((2, 0, s) : VV).2.1, .string ((2, 0, s) : VV).2.2]) := by unfold Hid; rw [← hN]; exact put7_box X10.out _ _ _ _ _ _ _
      have iN : Inn w.heap.size (w.heap.size + 1) w10 N := by rw [← hN]; exact ((((((((((((((Inn.refl _ _ _).set ⟨w.heap.size, 0, none⟩ (.int .i64 r2) (by simp))).set ⟨w.heap.size, 1, none⟩ (.int .i64 ((1, r6, ⟨#[]⟩) : VV).1) (by simp))).set ⟨w.heap.size, 2, none⟩ (.int .i64 ((1, r6, ⟨#[]⟩) : VV).2.1) (by simp))).set ⟨w.heap.size, 3, none⟩ (.string ((1, r6, ⟨#[]⟩) : VV).2.2) (by simp))).set ⟨w.heap.size, 4, none⟩ (.int .i64 ((2, 0, s) : VV).1) (by simp))).set ⟨w.heap.size, 5, none⟩ (.int .i64 ((2, 0, s) : VV).2.1) (by simp))).set ⟨w.heap.size, 6, none⟩ (.string ((2, 0, s) : VV).2.2) (by simp))
      have IN' : Hid (Inn g (g + 1) w N) := inn_fresh I10.out iN (Nat.le_refl _)
      have OK : Hid (rowB r2 ((1, r6, ⟨#[]⟩) : VV) ((2, 0, s) : VV) = true) := row_yes (decide_eq_true (by omega)) (okV_num (by omega) (by omega)) HS.out (by show ¬ (1 : Int) = 2; decide) (by show ¬ (2 : Int) = 1; decide)
      have DN : Hid (Drw w0 _ g a n c (T + 12) zs) := (D10.out.inn iN (.inl (by omega)) (by omega)).mono (by omega)
      clear iN D10 I10 X10 Y10
      go_wp2
      exact retR Try.results43 rfl rfl XN.out ⟨⟨r2, ((1, r6, ⟨#[]⟩) : VV), ((2, 0, s) : VV), rfl, OK.out⟩, DN.out, IN'.out⟩
    · have ev : (v.1 == 1) = false := by simp [kv]
      have KV : Hid (¬ v.1 = 1) := kv
      clear kv
      obtain ⟨y0, y1, y2, y3, y4, y5, y6⟩ := box7 Y7.out
      obtain ⟨x0, x1, x2, x3, x4, x5, x6⟩ := box7 X7.out
      have t0 := X7.out.thaw 0
      have t1 := X7.out.thaw 1
      have t2 := X7.out.thaw 2
      have t3 := X7.out.thaw 3
      have t4 := X7.out.thaw 4
      have t5 := X7.out.thaw 5
      have t6 := X7.out.thaw 6
      obtain ⟨N, hN⟩ : ∃ Q, (((((((w7.setCell ⟨w.heap.size, 0, none⟩ (.int .i64 r2)).setCell ⟨w.heap.size, 1, none⟩ (.int .i64 ((1, r6, ⟨#[]⟩) : VV).1)).setCell ⟨w.heap.size, 2, none⟩ (.int .i64 ((1, r6, ⟨#[]⟩) : VV).2.1)).setCell ⟨w.heap.size, 3, none⟩ (.string ((1, r6, ⟨#[]⟩) : VV).2.2)).setCell ⟨w.heap.size, 4, none⟩ (.int .i64 v.1)).setCell ⟨w.heap.size, 5, none⟩ (.int .i64 v.2.1)).setCell ⟨w.heap.size, 6, none⟩ (.string v.2.2)) = Q := ⟨_, rfl⟩
      have XN : Hid (Box N w.heap.size 40 #[.int .i64 r2, .int .i64 ((1, r6, ⟨#[]⟩) : VV).1, .int .i64 ((1, r6, ⟨#[]⟩) : VV).2.1, .string ((1, r6, ⟨#[]⟩) : VV).2.2, .int .i64 v.1, .int .i64 v.2.1, .string v.2.2]) := by unfold Hid; rw [← hN]; exact put7_box X7.out _ _ _ _ _ _ _
      have iN : Inn w.heap.size (w.heap.size + 1) w7 N := by rw [← hN]; exact ((((((((((((((Inn.refl _ _ _).set ⟨w.heap.size, 0, none⟩ (.int .i64 r2) (by simp))).set ⟨w.heap.size, 1, none⟩ (.int .i64 ((1, r6, ⟨#[]⟩) : VV).1) (by simp))).set ⟨w.heap.size, 2, none⟩ (.int .i64 ((1, r6, ⟨#[]⟩) : VV).2.1) (by simp))).set ⟨w.heap.size, 3, none⟩ (.string ((1, r6, ⟨#[]⟩) : VV).2.2) (by simp))).set ⟨w.heap.size, 4, none⟩ (.int .i64 v.1) (by simp))).set ⟨w.heap.size, 5, none⟩ (.int .i64 v.2.1) (by simp))).set ⟨w.heap.size, 6, none⟩ (.string v.2.2) (by simp))
      have IN' : Hid (Inn g (g + 1) w N) := inn_fresh I7.out iN (Nat.le_refl _)
      have OK : Hid (rowB r2 ((1, r6, ⟨#[]⟩) : VV) v = true) := row_yes (decide_eq_true (by omega)) (okV_num (by omega) (by omega)) HV.out (by show ¬ (1 : Int) = 2; decide) KV.out
      have DN : Hid (Drw w0 _ g a n c (T + 12) zs) := (D7.out.inn iN (.inl (by omega)) (by omega)).mono (by omega)
      clear iN D7 I7 X7 Y7
      go_wp2
      exact retR Try.results43 rfl rfl XN.out ⟨⟨r2, ((1, r6, ⟨#[]⟩) : VV), v, rfl, OK.out⟩, DN.out, IN'.out⟩
  · have eu : (u.1 == 2) = false := by simp [ku]
    have KU : Hid (¬ u.1 = 2) := ku
    clear ku
    by_cases kv : v.1 = 1
    · have ev : (v.1 == 1) = true := by simp [kv]
      obtain ⟨y0, y1, y2, y3, y4, y5, y6⟩ := box7 Y5.out
      obtain ⟨w8, hw8⟩ : ∃ Q, w5.alloc (.cells #[.string ⟨#[97]⟩, .string ⟨#[98]⟩, .string ⟨#[110, 97, 109, 101]⟩] 9) = Q := ⟨_, rfl⟩
      have b : Below w5.heap.size w5 w8 := by rw [← hw8]; exact (Below.refl _ _).alloc (Nat.le_refl _) _
      have RL : Hid (RdV w8 (some ⟨w5.heap.size, 0, none⟩) 3 (lst3.map Value.string)) := by unfold Hid; rw [← hw8]; exact lst3_rd w5
      have lh5 : w4.heap.size < w5.heap.size := Y5.out.lt
      have D8 : Hid (Drw w0 w8 g a n c (T + 9) zs) := D5.out.below b
      have I8 : Hid (Inn g (g + 1) w w8) := I5.out.trans (Inn.ofB b)
      have X8 : Hid (Box w8 w.heap.size 40 #[.int .i64 0, .int .i64 0, .int .i64 0, .string ⟨#[]⟩, .int .i64 0, .int .i64 0, .string ⟨#[]⟩]) := X5.out.belowS b
      have Y8 : Hid (Box w8 w4.heap.size 40 #[.int .i64 r2, .int .i64 u.1, .int .i64 u.2.1, .string u.2.2, .int .i64 v.1, .int .i64 v.2.1, .string v.2.2]) := Y5.out.belowS b
      clear b D5 I5 X5 Y5
      clear kv
      go_wp2_with fail
      refine (c_pick w0 w8 g a n c (T + 9) zs (some ⟨w5.heap.size, 0, none⟩) 3 3 lst3 D8.out (by omega) (by omega) RL.out (fun b e => by have e1 : w5.heap.size = b := Option.some.inj e; omega)).mono ?_
      rintro e w9 ⟨⟨s, hs, rfl⟩, hd, hi⟩
      have HS : Hid (okV (2, 0, s) = true) := lst3_ok s hs
      have D9 : Hid (Drw w0 w9 g a n c (T + 9 + 1) zs) := hd
      have I9 : Hid (Inn g (g + 1) w w9) := I8.out.trans hi
      have X9 : Hid (Box w9 w.heap.size 40 #[.int .i64 0, .int .i64 0, .int .i64 0, .string ⟨#[]⟩, .int .i64 0, .int .i64 0, .string ⟨#[]⟩]) := X8.out.innO hi (.inr (by omega))
      have Y9 : Hid (Box w9 w4.heap.size 40 #[.int .i64 r2, .int .i64 u.1, .int .i64 u.2.1, .string u.2.2, .int .i64 v.1, .int .i64 v.2.1, .string v.2.2]) := Y8.out.innO hi (.inr (by omega))
      clear hd hi D8 I8 X8 Y8
      clear hs RL hw8 y0 y1 y2 y3 y4 y5 y6
      have z1 := Y9.out.thaw 4
      have z2 := Y9.out.thaw 5
      have z3 := Y9.out.thaw 6
      obtain ⟨y0, y1, y2, y3, y4, y5, y6⟩ := box7 Y9.out
      obtain ⟨w10, hw10⟩ : ∃ Q, (((w9.setCell ⟨w4.heap.size, 4, none⟩ (.int .i64 2)).setCell ⟨w4.heap.size, 5, none⟩ (.int .i64 0)).setCell ⟨w4.heap.size, 6, none⟩ (.string s)) = Q := ⟨_, rfl⟩
      have iN : Inn w4.heap.size (w4.heap.size + 1) w9 w10 := by rw [← hw10]; exact ((((((Inn.refl _ _ _).set ⟨w4.heap.size, 4, none⟩ (.int .i64 2) (by simp))).set ⟨w4.heap.size, 5, none⟩ (.int .i64 0) (by simp))).set ⟨w4.heap.size, 6, none⟩ (.string s) (by simp))
      have Y10 : Hid (Box w10 w4.heap.size 40 #[.int .i64 r2, .int .i64 u.1, .int .i64 u.2.1, .string u.2.2, .int .i64 ((2, 0, s) : VV).1, .int .i64 ((2, 0, s) : VV).2.1, .string ((2, 0, s) : VV).2.2]) := by unfold Hid; rw [← hw10]; exact (((Y9.out.set 4 (.int .i64 2)).set 5 (.int .i64 0)).set 6 (.string s))
      have X10 : Hid (Box w10 w.heap.size 40 #[.int .i64 0, .int .i64 0, .int .i64 0, .string ⟨#[]⟩, .int .i64 0, .int .i64 0, .string ⟨#[]⟩]) := by unfold Hid; rw [← hw10]; exact (((X9.out.setOther ⟨w4.heap.size, 4, none⟩ (.int .i64 2) (by simp; omega)).setOther ⟨w4.heap.size, 5, none⟩ (.int .i64 0) (by simp; omega)).setOther ⟨w4.heap.size, 6, none⟩ (.string s) (by simp; omega))
      have D10 : Hid (Drw w0 w10 g a n c (T + 9 + 1) zs) := D9.out.inn iN (.inl (by omega)) (by omega)
      have I10 : Hid (Inn g (g + 1) w w10) := inn_fresh I9.out iN (by omega)
      clear iN D9 I9 X9 Y9
      obtain ⟨y0, y1, y2, y3, y4, y5, y6⟩ := box7 Y10.out
      obtain ⟨x0, x1, x2, x3, x4, x5, x6⟩ := box7 X10.out
      have t0 := X10.out.thaw 0
      have t1 := X10.out.thaw 1
      have t2 := X10.out.thaw 2
      have t3 := X10.out.thaw 3
      have t4 := X10.out.thaw 4
      have t5 := X10.out.thaw 5
      have t6 := X10.out.thaw 6
      obtain ⟨N, hN⟩ : ∃ Q, (((((((w10.setCell ⟨w.heap.size, 0, none⟩ (.int .i64 r2)).setCell ⟨w.heap.size, 1, none⟩ (.int .i64 u.1)).setCell ⟨w.heap.size, 2, none⟩ (.int .i64 u.2.1)).setCell ⟨w.heap.size, 3, none⟩ (.string u.2.2)).setCell ⟨w.heap.size, 4, none⟩ (.int .i64 ((2, 0, s) : VV).1)).setCell ⟨w.heap.size, 5, none⟩ (.int .i64 ((2, 0, s) : VV).2.1)).setCell ⟨w.heap.size, 6, none⟩ (.string ((2, 0, s) : VV).2.2)) = Q := ⟨_, rfl⟩
      have XN : Hid (Box N w.heap.size 40 #[.int .i64 r2, .int .i64 u.1, .int .i64 u.2.1, .string u.2.2, .int .i64 ((2, 0, s) : VV).1, .int .i64 ((2, 0, s) : VV).2.1, .string ((2, 0, s) : VV).2.2]) := by unfold Hid; rw [← hN]; exact put7_box X10.out _ _ _ _ _ _ _
      have iN : Inn w.heap.size (w.heap.size + 1) w10 N := by rw [← hN]; exact ((((((((((((((Inn.refl _ _ _).set ⟨w.heap.size, 0, none⟩ (.int .i64 r2) (by simp))).set ⟨w.heap.size, 1, none⟩ (.int .i64 u.1) (by simp))).set ⟨w.heap.size, 2, none⟩ (.int .i64 u.2.1) (by simp))).set ⟨w.heap.size, 3, none⟩ (.string u.2.2) (by simp))).set ⟨w.heap.size, 4, none⟩ (.int .i64 ((2, 0, s) : VV).1) (by simp))).set ⟨w.heap.size, 5, none⟩ (.int .i64 ((2, 0, s) : VV).2.1) (by simp))).set ⟨w.heap.size, 6, none⟩ (.string ((2, 0, s) : VV).2.2) (by simp))
      have IN' : Hid (Inn g (g + 1) w N) := inn_fresh I10.out iN (Nat.le_refl _)
      have OK : Hid (rowB r2 u ((2, 0, s) : VV) = true) := row_yes (decide_eq_true (by omega)) HU.out HS.out KU.out (by show ¬ (2 : Int) = 1; decide)
      have DN : Hid (Drw w0 _ g a n c (T + 12) zs) := (D10.out.inn iN (.inl (by omega)) (by omega)).mono (by omega)
      clear iN D10 I10 X10 Y10
      go_wp2
      exact retR Try.results43 rfl rfl XN.out ⟨⟨r2, u, ((2, 0, s) : VV), rfl, OK.out⟩, DN.out, IN'.out⟩
    · have ev : (v.1 == 1) = false := by simp [kv]
      have KV : Hid (¬ v.1 = 1) := kv
      clear kv
      obtain ⟨y0, y1, y2, y3, y4, y5, y6⟩ := box7 Y5.out
      obtain ⟨x0, x1, x2, x3, x4, x5, x6⟩ := box7 X5.out
      have t0 := X5.out.thaw 0
      have t1 := X5.out.thaw 1
      have t2 := X5.out.thaw 2
      have t3 := X5.out.thaw 3
      have t4 := X5.out.thaw 4
      have t5 := X5.out.thaw 5
      have t6 := X5.out.thaw 6
      obtain ⟨N, hN⟩ : ∃ Q, (((((((w5.setCell ⟨w.heap.size, 0, none⟩ (.int .i64 r2)).setCell ⟨w.heap.size, 1, none⟩ (.int .i64 u.1)).setCell ⟨w.heap.size, 2, none⟩ (.int .i64 u.2.1)).setCell ⟨w.heap.size, 3, none⟩ (.string u.2.2)).setCell ⟨w.heap.size, 4, none⟩ (.int .i64 v.1)).setCell ⟨w.heap.size, 5, none⟩ (.int .i64 v.2.1)).setCell ⟨w.heap.size, 6, none⟩ (.string v.2.2)) = Q := ⟨_, rfl⟩
      have XN : Hid (Box N w.heap.size 40 #[.int .i64 r2, .int .i64 u.1, .int .i64 u.2.1, .string u.2.2, .int .i64 v.1, .int .i64 v.2.1, .string v.2.2]) := by unfold Hid; rw [← hN]; exact put7_box X5.out _ _ _ _ _ _ _
      have iN : Inn w.heap.size (w.heap.size + 1) w5 N := by rw [← hN]; exact ((((((((((((((Inn.refl _ _ _).set ⟨w.heap.size, 0, none⟩ (.int .i64 r2) (by simp))).set ⟨w.heap.size, 1, none⟩ (.int .i64 u.1) (by simp))).set ⟨w.heap.size, 2, none⟩ (.int .i64 u.2.1) (by simp))).set ⟨w.heap.size, 3, none⟩ (.string u.2.2) (by simp))).set ⟨w.heap.size, 4, none⟩ (.int .i64 v.1) (by simp))).set ⟨w.heap.size, 5, none⟩ (.int .i64 v.2.1) (by simp))).set ⟨w.heap.size, 6, none⟩ (.string v.2.2) (by simp))
      have IN' : Hid (Inn g (g + 1) w N) := inn_fresh I5.out iN (Nat.le_refl _)
      have OK : Hid (rowB r2 u v = true) := row_yes (decide_eq_true (by omega)) HU.out HV.out KU.out KV.out
      have DN : Hid (Drw w0 _ g a n c (T + 12) zs) := (D5.out.inn iN (.inl (by omega)) (by omega)).mono (by omega)
      clear iN D5 I5 X5 Y5
      go_wp2
      exact retR Try.results43 rfl rfl XN.out ⟨⟨r2, u, v, rfl, OK.out⟩, DN.out, IN'.out⟩


end Go.Proofs.Ytiobobocjokgiaa
