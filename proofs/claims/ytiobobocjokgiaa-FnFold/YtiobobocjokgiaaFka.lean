/-
  Values that are drawn.
-/
import Derived.Test.YtiobobocjokgiaaDn
import Derived.Test.YtiobobocjokgiaaXr
import Derived.Laws.OwnMore
namespace Go.Proofs.Ytiobobocjokgiaa
open Go Go.RowKit
attribute [local go_sem ↓] Go.wp_at_zero Go.wp_at_succ

def lst6 : List ByteArray := [⟨#[]⟩, ⟨#[97]⟩, ⟨#[97, 98]⟩, ⟨#[97, 98, 99]⟩, ⟨#[98]⟩, ⟨#[122, 122]⟩]
theorem lst6_ok (s : ByteArray) (h : s ∈ lst6) : okV (2, 0, s) = true := by
  unfold lst6 at h
  simp only [List.mem_cons, List.not_mem_nil, or_false] at h
  rcases h with rfl | rfl | rfl | rfl | rfl | rfl <;> decide
theorem lst6_rd (w : World) : RdV (w.alloc (.cells #[.string ⟨#[]⟩, .string ⟨#[97]⟩, .string ⟨#[97, 98]⟩, .string ⟨#[97, 98, 99]⟩, .string ⟨#[98]⟩, .string ⟨#[122, 122]⟩] 9)) (some ⟨w.heap.size, 0, none⟩) 6 (lst6.map Value.string) :=
  RdV.own (World.ownsRow_lit (base := w.heap.size) (e := 9) (size := 1) w #[.string ⟨#[]⟩, .string ⟨#[97]⟩, .string ⟨#[97, 98]⟩, .string ⟨#[97, 98, 99]⟩, .string ⟨#[98]⟩, .string ⟨#[122, 122]⟩] 6 (Nat.le_refl _) (by unfold maxLen; omega) rfl)
theorem okV_num {n : Int} (h0 : -1000000000 ≤ n) (h1 : n ≤ 1000000000) : okV (1, n, ⟨#[]⟩) = true := by
  show valB 1 n ⟨#[]⟩ = true
  rw [val1]
  have : inB n (-1000000000) 1000000000 = true := by unfold inB; exact decide_eq_true ⟨h0, h1⟩
  rw [this]
  simp
theorem okV_null : okV (0, 0, ⟨#[]⟩) = true := by
  show valB 0 0 ⟨#[]⟩ = true
  rw [val0]
  simp
theorem thaw3 {w : World} {g : Nat} {t : TypeId} {c : Array Value} (h : Box w g t c) : w.frozen? ⟨g, 0, none⟩ = false ∧ w.frozen? ⟨g, 1, none⟩ = false ∧ w.frozen? ⟨g, 2, none⟩ = false := ⟨h.thaw 0, h.thaw 1, h.thaw 2⟩
def put3v (w : World) (g : Nat) (v0 v1 v2 : Value) : World := ((w.setCell ⟨g, 0, none⟩ v0).setCell ⟨g, 1, none⟩ v1).setCell ⟨g, 2, none⟩ v2
theorem put3v_box {w : World} {g : Nat} {t : TypeId} {a0 a1 a2 : Value} (h : Box w g t #[a0, a1, a2]) (v0 v1 v2 : Value) : Box (put3v w g v0 v1 v2) g t #[v0, v1, v2] := ((h.set 0 v0).set 1 v1).set 2 v2
theorem put3v_inn (w : World) (g : Nat) (v0 v1 v2 : Value) : Inn g (g + 1) w (put3v w g v0 v1 v2) := by
  have st : ∀ (W : World) (i : Nat) (v : Value), Inn g (g + 1) W (W.setCell ⟨g, i, none⟩ v) := fun W i v => ⟨rfl, rfl, rfl, by simp, fun k _ ho => Below.heap_setCell W ⟨g, i, none⟩ v k (by show k ≠ g; omega)⟩
  exact ((st _ 0 _).trans (st _ 1 _)).trans (st _ 2 _)
theorem retV {fn : Func} {R : Ending → World → Prop} {w' : World} {g : Nat} {a : Act} {v0 v1 v2 : Value} (hres : fn.results = #[.cell 2 38]) (h2 : a.tmps.getD 2 undef = .pointer (some ⟨g, 0, none⟩)) (hd : a.defers = []) (hb : Box w' g 38 #[v0, v1, v2]) (hR : R (.returned (.agg #[v0, v1, v2])) w') : bodyPost Try.prog fn R .ret a w' := by
  have b0 : w'.cell? ⟨g, 0, none⟩ = some v0 := hb.cell 0
  have b1 : w'.cell? ⟨g, 1, none⟩ = some v1 := hb.cell 1
  have b2 : w'.cell? ⟨g, 2, none⟩ = some v2 := hb.cell 2
  refine bodyPost_ret (v := .agg #[v0, v1, v2]) ?_ hd hR
  have h2' : a.tmps[2]?.getD undef = .pointer (some ⟨g, 0, none⟩) := by simpa using h2
  have hl : (loadVar 38 ⟨g, 0, none⟩).run Try.prog w' = .ok (.agg #[v0, v1, v2]) w' := by simp [go_sem, b0, b1, b2]
  simp only [results, hres]
  simp [h2', asAddr, hl]
theorem inn_fresh {g E B F : Nat} {w w1 w2 : World} (h : Inn g E w w1) (i : Inn B F w1 w2) (hB : w.heap.size ≤ B) : Inn g E w w2 :=
  ⟨i.os.trans h.os, i.tape.trans h.tape, i.output.trans h.output, Nat.le_trans h.size i.size, fun k hk ho => (i.block k (Nat.lt_of_lt_of_le hk h.size) (.inl (by omega))).trans (h.block k hk ho)⟩
theorem Inn.ofB {B E : Nat} {w w' : World} (h : Below w.heap.size w w') : Inn B E w w' := ⟨h.os, h.tape, h.output, h.size, fun k hk _ => h.block k hk⟩
set_option maxRecDepth 100000 in
set_option maxHeartbeats 4000000 in
theorem c_value (w0 w : World) (g : Nat) (a : Option Addr) (n c T : Nat) (zs : List Int) (h : Drw w0 w g a n c T zs) (hT : T ≤ 900000) :
    Calls Try.prog 55 #[.pointer (some ⟨g, 0, none⟩)] w fun e w' => (∃ u : VV, e = .returned (.agg #[.int .i64 u.1, .int .i64 u.2.1, .string u.2.2]) ∧ okV u = true) ∧ Drw w0 w' g a n c (T + 4) zs ∧ Inn g (g + 1) w w' := by
  have lg : g < w.heap.size := h.src.lt
  have lb : w0.heap.size ≤ g := h.behind
  obtain ⟨w1, hw1⟩ : ∃ Q, w.alloc (.cells #[.int .i64 0, .int .i64 0, .string ⟨#[]⟩] 38) = Q := ⟨_, rfl⟩
  have b1 : Below w.heap.size w w1 := by rw [← hw1]; exact (Below.refl _ _).alloc (Nat.le_refl _) _
  have X1 : Hid (Box w1 w.heap.size 38 #[.int .i64 0, .int .i64 0, .string ⟨#[]⟩]) := by unfold Hid; rw [← hw1]; exact Box.new _ _ _
  have D1 : Hid (Drw w0 w1 g a n c (T + 0) zs) := h.below b1
  have I1 : Hid (Inn g (g + 1) w w1) := Inn.ofB b1
  clear h b1
  go_enter Try.func55, Try.ntmps55
  go_wp2_with fail
  refine (c_next w0 w1 g a n c (T + 0) zs 4 D1.out (by omega) (by omega)).mono ?_
  rintro e w2 ⟨⟨r2, rfl, p2, q2⟩, hd, hi⟩
  have D2 : Hid (Drw w0 w2 g a n c (T + 1) zs) := hd
  have I2 : Hid (Inn g (g + 1) w w2) := I1.out.trans hi
  have X2 : Hid (Box w2 w.heap.size 38 #[.int .i64 0, .int .i64 0, .string ⟨#[]⟩]) := X1.out.innO hi (.inr (by omega))
  clear hd hi D1 I1 X1
  clear hw1
  by_cases k0 : r2 = 0
  · subst k0
    obtain ⟨s0, s1, s2⟩ := thaw3 X2.out
    have y0 : w2.cell? ⟨w.heap.size, 0, none⟩ = some (.int .i64 0) := X2.out.cell 0
    have y1 : w2.cell? ⟨w.heap.size, 1, none⟩ = some (.int .i64 0) := X2.out.cell 1
    have y2 : w2.cell? ⟨w.heap.size, 2, none⟩ = some (.string ⟨#[]⟩) := X2.out.cell 2
    obtain ⟨N, hN⟩ : ∃ Q, put3v w2 w.heap.size (.int .i64 0) (.int .i64 0) (.string ⟨#[]⟩) = Q := ⟨_, rfl⟩
    have iN : Inn w.heap.size (w.heap.size + 1) w2 N := by rw [← hN]; exact put3v_inn _ _ _ _ _
    have XN : Hid (Box N w.heap.size 38 #[.int .i64 ((0, 0, ⟨#[]⟩) : VV).1, .int .i64 ((0, 0, ⟨#[]⟩) : VV).2.1, .string ((0, 0, ⟨#[]⟩) : VV).2.2]) := by unfold Hid; rw [← hN]; exact put3v_box X2.out _ _ _
    have DN : Hid (Drw w0 N g a n c (T + 4) zs) := (D2.out.inn iN (.inl lg) (by have := D2.out.behind; omega)).mono (by omega)
    have IN : Hid (Inn g (g + 1) w N) := inn_fresh I2.out iN (Nat.le_refl _)
    unfold put3v at hN
    clear iN
    go_wp2
    exact retV Try.results55 rfl rfl XN.out ⟨⟨((0, 0, ⟨#[]⟩) : VV), rfl, okV_null⟩, DN.out, IN.out⟩
  have e0 : (r2 == 0) = false := by simpa using k0
  by_cases k1 : r2 = 1
  · subst k1
    obtain ⟨w3, hw3⟩ : ∃ Q, w2.alloc (.cells #[.string ⟨#[]⟩, .string ⟨#[97]⟩, .string ⟨#[97, 98]⟩, .string ⟨#[97, 98, 99]⟩, .string ⟨#[98]⟩, .string ⟨#[122, 122]⟩] 9) = Q := ⟨_, rfl⟩
    have b3 : Below w2.heap.size w2 w3 := by rw [← hw3]; exact (Below.refl _ _).alloc (Nat.le_refl _) _
    have X3 : Hid (Box w3 w.heap.size 38 #[.int .i64 0, .int .i64 0, .string ⟨#[]⟩]) := X2.out.belowS b3
    have D3 : Hid (Drw w0 w3 g a n c (T + 1) zs) := D2.out.below b3
    have I3 : Hid (Inn g (g + 1) w w3) := I2.out.trans (Inn.ofB b3)
    have RL : Hid (RdV w3 (some ⟨w2.heap.size, 0, none⟩) 6 (lst6.map Value.string)) := by unfold Hid; rw [← hw3]; exact lst6_rd w2
    have l3 : w.heap.size < w2.heap.size := X2.out.lt
    clear b3 X2 D2 I2
    go_wp2_with fail
    refine (c_pick w0 w3 g a n c (T + 1) zs (some ⟨w2.heap.size, 0, none⟩) 6 6 lst6 D3.out (by omega) (by omega) RL.out (fun b e => by have e1 : w2.heap.size = b := Option.some.inj e; omega)).mono ?_
    rintro e w4 ⟨⟨s, hs, rfl⟩, hd, hi⟩
    have D4 : Hid (Drw w0 w4 g a n c (T + 2) zs) := hd
    have I4 : Hid (Inn g (g + 1) w w4) := I3.out.trans hi
    have X4 : Hid (Box w4 w.heap.size 38 #[.int .i64 0, .int .i64 0, .string ⟨#[]⟩]) := X3.out.innO hi (.inr (by omega))
    have HS : Hid (okV (2, 0, s) = true) := lst6_ok s hs
    clear hd hi D3 I3 X3 RL hs hw3
    obtain ⟨s0, s1, s2⟩ := thaw3 X4.out
    have y0 : w4.cell? ⟨w.heap.size, 0, none⟩ = some (.int .i64 0) := X4.out.cell 0
    have y1 : w4.cell? ⟨w.heap.size, 1, none⟩ = some (.int .i64 0) := X4.out.cell 1
    have y2 : w4.cell? ⟨w.heap.size, 2, none⟩ = some (.string ⟨#[]⟩) := X4.out.cell 2
    obtain ⟨N, hN⟩ : ∃ Q, put3v w4 w.heap.size (.int .i64 2) (.int .i64 0) (.string s) = Q := ⟨_, rfl⟩
    have iN : Inn w.heap.size (w.heap.size + 1) w4 N := by rw [← hN]; exact put3v_inn _ _ _ _ _
    have XN : Hid (Box N w.heap.size 38 #[.int .i64 ((2, 0, s) : VV).1, .int .i64 ((2, 0, s) : VV).2.1, .string ((2, 0, s) : VV).2.2]) := by unfold Hid; rw [← hN]; exact put3v_box X4.out _ _ _
    have DN : Hid (Drw w0 N g a n c (T + 4) zs) := (D4.out.inn iN (.inl lg) (by have := D4.out.behind; omega)).mono (by omega)
    have IN : Hid (Inn g (g + 1) w N) := inn_fresh I4.out iN (Nat.le_refl _)
    unfold put3v at hN
    clear iN
    go_wp2
    exact retV Try.results55 rfl rfl XN.out ⟨⟨((2, 0, s) : VV), rfl, HS.out⟩, DN.out, IN.out⟩
  have e1 : (r2 == 1) = false := by simpa using k1
  go_wp2_with fail
  refine (c_next w0 w2 g a n c (T + 1) zs 20 D2.out (by omega) (by omega)).mono ?_
  rintro e w3 ⟨⟨r3, rfl, p3, q3⟩, hd, hi⟩
  have D3 : Hid (Drw w0 w3 g a n c (T + 2) zs) := hd
  have I3 : Hid (Inn g (g + 1) w w3) := I2.out.trans hi
  have X3 : Hid (Box w3 w.heap.size 38 #[.int .i64 0, .int .i64 0, .string ⟨#[]⟩]) := X2.out.innO hi (.inr (by omega))
  clear hd hi D2 I2 X2
  have s3 : IntKind.i64.wrap (r3 - 5) = r3 - 5 := by simp [IntKind.wrap_i64]; omega
  go_wp2_with fail
  refine (c_next w0 w3 g a n c (T + 2) zs 20 D3.out (by omega) (by omega)).mono ?_
  rintro e w4 ⟨⟨r4, rfl, p4, q4⟩, hd, hi⟩
  have D4 : Hid (Drw w0 w4 g a n c (T + 3) zs) := hd
  have I4 : Hid (Inn g (g + 1) w w4) := I3.out.trans hi
  have X4 : Hid (Box w4 w.heap.size 38 #[.int .i64 0, .int .i64 0, .string ⟨#[]⟩]) := X3.out.innO hi (.inr (by omega))
  clear hd hi D3 I3 X3
  obtain ⟨w5, hw5⟩ : ∃ Q, w4.alloc (.cells #[.int .i64 (r3 - 5), .int .i64 r4, .int .i64 1000000000, .int .i64 (-1000000000)] 3) = Q := ⟨_, rfl⟩
  have b5 : Below w4.heap.size w4 w5 := by rw [← hw5]; exact (Below.refl _ _).alloc (Nat.le_refl _) _
  have X5 : Hid (Box w5 w.heap.size 38 #[.int .i64 0, .int .i64 0, .string ⟨#[]⟩]) := X4.out.belowS b5
  have D5 : Hid (Drw w0 w5 g a n c (T + 3) zs) := D4.out.below b5
  have I5 : Hid (Inn g (g + 1) w w5) := I4.out.trans (Inn.ofB b5)
  have A5 : Hid (Box w5 w4.heap.size 3 #[.int .i64 (r3 - 5), .int .i64 r4, .int .i64 1000000000, .int .i64 (-1000000000)]) := by unfold Hid; rw [← hw5]; exact Box.new _ _ _
  have l4 : w.heap.size < w4.heap.size := X4.out.lt
  clear b5 X4 D4 I4
  go_wp2_with fail
  refine (c_next w0 w5 g a n c (T + 3) zs 8 D5.out (by omega) (by omega)).mono ?_
  rintro e w6 ⟨⟨r6, rfl, p6, q6⟩, hd, hi⟩
  have D6 : Hid (Drw w0 w6 g a n c (T + 4) zs) := hd
  have I6 : Hid (Inn g (g + 1) w w6) := I5.out.trans hi
  have X6 : Hid (Box w6 w.heap.size 38 #[.int .i64 0, .int .i64 0, .string ⟨#[]⟩]) := X5.out.innO hi (.inr (by omega))
  have A6 : Hid (Box w6 w4.heap.size 3 #[.int .i64 (r3 - 5), .int .i64 r4, .int .i64 1000000000, .int .i64 (-1000000000)]) := A5.out.innO hi (.inr (by omega))
  clear hd hi D5 I5 X5 A5 hw5
  have a0 : w6.cell? ⟨w4.heap.size, 0, none⟩ = some (.int .i64 (r3 - 5)) := A6.out.cell 0
  have a1 : w6.cell? ⟨w4.heap.size, 1, none⟩ = some (.int .i64 r4) := A6.out.cell 1
  have a2 : w6.cell? ⟨w4.heap.size, 2, none⟩ = some (.int .i64 1000000000) := A6.out.cell 2
  have a3 : w6.cell? ⟨w4.heap.size, 3, none⟩ = some (.int .i64 (-1000000000)) := A6.out.cell 3
  have cs : r6 = 0 ∨ r6 = 1 ∨ r6 = 2 ∨ r6 = 3 ∨ r6 = 4 ∨ r6 = 5 ∨ r6 = 6 ∨ r6 = 7 := by omega
  obtain ⟨s0, s1, s2⟩ := thaw3 X6.out
  have y0 : w6.cell? ⟨w.heap.size, 0, none⟩ = some (.int .i64 0) := X6.out.cell 0
  have y1 : w6.cell? ⟨w.heap.size, 1, none⟩ = some (.int .i64 0) := X6.out.cell 1
  have y2 : w6.cell? ⟨w.heap.size, 2, none⟩ = some (.string ⟨#[]⟩) := X6.out.cell 2
  have FIN : Hid (∀ z : Int, -1000000000 ≤ z → z ≤ 1000000000 → ∀ N, put3v w6 w.heap.size (.int .i64 1) (.int .i64 z) (.string ⟨#[]⟩) = N → Box N w.heap.size 38 #[.int .i64 ((1, z, ⟨#[]⟩) : VV).1, .int .i64 ((1, z, ⟨#[]⟩) : VV).2.1, .string ((1, z, ⟨#[]⟩) : VV).2.2] ∧ ((∃ u : VV, Ending.returned (.agg #[.int .i64 ((1, z, ⟨#[]⟩) : VV).1, .int .i64 ((1, z, ⟨#[]⟩) : VV).2.1, .string ((1, z, ⟨#[]⟩) : VV).2.2]) = .returned (.agg #[.int .i64 u.1, .int .i64 u.2.1, .string u.2.2]) ∧ okV u = true) ∧ Drw w0 N g a n c (T + 4) zs ∧ Inn g (g + 1) w N)) := fun z z0 z1 N hN => by
    have iN : Inn w.heap.size (w.heap.size + 1) w6 N := by rw [← hN]; exact put3v_inn _ _ _ _ _
    refine ⟨by rw [← hN]; exact put3v_box X6.out _ _ _, ⟨(1, z, ⟨#[]⟩), rfl, okV_num z0 z1⟩, ?_, inn_fresh I6.out iN (Nat.le_refl _)⟩
    exact (D6.out.inn iN (.inl lg) (by have := D6.out.behind; omega)).mono (by omega)
  clear p6 q6
  rcases cs with rfl | rfl | rfl | rfl | rfl | rfl | rfl | rfl
  · obtain ⟨N, hN⟩ : ∃ Q, put3v w6 w.heap.size (.int .i64 1) (.int .i64 (r3 - 5)) (.string ⟨#[]⟩) = Q := ⟨_, rfl⟩
    have HF := FIN.out (r3 - 5) (by omega) (by omega) N hN
    have XN : Hid (Box N w.heap.size 38 _) := HF.1
    unfold put3v at hN
    go_wp2
    exact retV Try.results55 rfl rfl XN.out HF.2
  · obtain ⟨N, hN⟩ : ∃ Q, put3v w6 w.heap.size (.int .i64 1) (.int .i64 (r3 - 5)) (.string ⟨#[]⟩) = Q := ⟨_, rfl⟩
    have HF := FIN.out (r3 - 5) (by omega) (by omega) N hN
    have XN : Hid (Box N w.heap.size 38 _) := HF.1
    unfold put3v at hN
    go_wp2
    exact retV Try.results55 rfl rfl XN.out HF.2
  · obtain ⟨N, hN⟩ : ∃ Q, put3v w6 w.heap.size (.int .i64 1) (.int .i64 (r4)) (.string ⟨#[]⟩) = Q := ⟨_, rfl⟩
    have HF := FIN.out (r4) (by omega) (by omega) N hN
    have XN : Hid (Box N w.heap.size 38 _) := HF.1
    unfold put3v at hN
    go_wp2
    exact retV Try.results55 rfl rfl XN.out HF.2
  · obtain ⟨N, hN⟩ : ∃ Q, put3v w6 w.heap.size (.int .i64 1) (.int .i64 (r4)) (.string ⟨#[]⟩) = Q := ⟨_, rfl⟩
    have HF := FIN.out (r4) (by omega) (by omega) N hN
    have XN : Hid (Box N w.heap.size 38 _) := HF.1
    unfold put3v at hN
    go_wp2
    exact retV Try.results55 rfl rfl XN.out HF.2
  · obtain ⟨N, hN⟩ : ∃ Q, put3v w6 w.heap.size (.int .i64 1) (.int .i64 (1000000000)) (.string ⟨#[]⟩) = Q := ⟨_, rfl⟩
    have HF := FIN.out (1000000000) (by omega) (by omega) N hN
    have XN : Hid (Box N w.heap.size 38 _) := HF.1
    unfold put3v at hN
    go_wp2
    exact retV Try.results55 rfl rfl XN.out HF.2
  · obtain ⟨N, hN⟩ : ∃ Q, put3v w6 w.heap.size (.int .i64 1) (.int .i64 (1000000000)) (.string ⟨#[]⟩) = Q := ⟨_, rfl⟩
    have HF := FIN.out (1000000000) (by omega) (by omega) N hN
    have XN : Hid (Box N w.heap.size 38 _) := HF.1
    unfold put3v at hN
    go_wp2
    exact retV Try.results55 rfl rfl XN.out HF.2
  · obtain ⟨N, hN⟩ : ∃ Q, put3v w6 w.heap.size (.int .i64 1) (.int .i64 (-1000000000)) (.string ⟨#[]⟩) = Q := ⟨_, rfl⟩
    have HF := FIN.out (-1000000000) (by omega) (by omega) N hN
    have XN : Hid (Box N w.heap.size 38 _) := HF.1
    unfold put3v at hN
    go_wp2
    exact retV Try.results55 rfl rfl XN.out HF.2
  · obtain ⟨N, hN⟩ : ∃ Q, put3v w6 w.heap.size (.int .i64 1) (.int .i64 (-1000000000)) (.string ⟨#[]⟩) = Q := ⟨_, rfl⟩
    have HF := FIN.out (-1000000000) (by omega) (by omega) N hN
    have XN : Hid (Box N w.heap.size 38 _) := HF.1
    unfold put3v at hN
    go_wp2
    exact retV Try.results55 rfl rfl XN.out HF.2

end Go.Proofs.Ytiobobocjokgiaa
