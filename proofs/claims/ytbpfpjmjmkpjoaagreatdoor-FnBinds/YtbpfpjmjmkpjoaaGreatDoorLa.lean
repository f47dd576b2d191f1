/-
  LexSql: kinds of bytes and runes; how far a span of runes goes.
-/
import Derived.Test.YtbpfpjmjmkpjoaaGreatDoorBx
import Derived.Laws.RangeAny
namespace Go.Proofs.YtbpfpjmjmkpjoaaGreatDoor
open Go Go.RowKit
attribute [local go_sem ↓] Go.wp_at_zero Go.wp_at_succ

set_option linter.unusedVariables false
set_option linter.unusedSimpArgs false
def lowI (r : Int) : Bool := decide (97 ≤ r ∧ r ≤ 122)
def digI (r : Int) : Bool := decide (48 ≤ r ∧ r ≤ 57)
def lodI (r : Int) : Bool := lowI r || digI r
set_option maxRecDepth 100000 in
set_option maxHeartbeats 8000000 in
theorem c_lowB (r : Int) (w : World) : Calls Tryz.prog 110 #[.int .u8 r] w fun e w' => e = .returned (.bool (lowI r)) ∧ w' = w := by
  by_cases h1 : 97 ≤ r
  · by_cases h2 : r ≤ 122
    · have E : Hid (lowI r = true) := by unfold Hid lowI; exact decide_eq_true ⟨h1, h2⟩
      go_enter Tryz.func110, Tryz.ntmps110
      go_wp2
      go_ret
      exact ⟨by rw [E.out]; rfl, rfl⟩
    · have E : Hid (lowI r = false) := by unfold Hid lowI; exact decide_eq_false (fun h => h2 h.2)
      go_enter Tryz.func110, Tryz.ntmps110
      go_wp2
      go_ret
      exact ⟨by rw [E.out]; rfl, rfl⟩
  · have E : Hid (lowI r = false) := by unfold Hid lowI; exact decide_eq_false (fun h => h1 h.1)
    go_enter Tryz.func110, Tryz.ntmps110
    go_wp2
    go_ret
    exact ⟨by rw [E.out]; rfl, rfl⟩
set_option maxRecDepth 100000 in
set_option maxHeartbeats 8000000 in
theorem c_lowR (r : Int) (w : World) : Calls Tryz.prog 115 #[.int .i32 r] w fun e w' => e = .returned (.bool (lowI r)) ∧ w' = w := by
  by_cases h1 : 97 ≤ r
  · by_cases h2 : r ≤ 122
    · have E : Hid (lowI r = true) := by unfold Hid lowI; exact decide_eq_true ⟨h1, h2⟩
      go_enter Tryz.func115, Tryz.ntmps115
      go_wp2
      go_ret
      exact ⟨by rw [E.out]; rfl, rfl⟩
    · have E : Hid (lowI r = false) := by unfold Hid lowI; exact decide_eq_false (fun h => h2 h.2)
      go_enter Tryz.func115, Tryz.ntmps115
      go_wp2
      go_ret
      exact ⟨by rw [E.out]; rfl, rfl⟩
  · have E : Hid (lowI r = false) := by unfold Hid lowI; exact decide_eq_false (fun h => h1 h.1)
    go_enter Tryz.func115, Tryz.ntmps115
    go_wp2
    go_ret
    exact ⟨by rw [E.out]; rfl, rfl⟩
set_option maxRecDepth 100000 in
set_option maxHeartbeats 8000000 in
theorem c_digB (r : Int) (w : World) : Calls Tryz.prog 113 #[.int .u8 r] w fun e w' => e = .returned (.bool (digI r)) ∧ w' = w := by
  by_cases h1 : 48 ≤ r
  · by_cases h2 : r ≤ 57
    · have E : Hid (digI r = true) := by unfold Hid digI; exact decide_eq_true ⟨h1, h2⟩
      go_enter Tryz.func113, Tryz.ntmps113
      go_wp2
      go_ret
      exact ⟨by rw [E.out]; rfl, rfl⟩
    · have E : Hid (digI r = false) := by unfold Hid digI; exact decide_eq_false (fun h => h2 h.2)
      go_enter Tryz.func113, Tryz.ntmps113
      go_wp2
      go_ret
      exact ⟨by rw [E.out]; rfl, rfl⟩
  · have E : Hid (digI r = false) := by unfold Hid digI; exact decide_eq_false (fun h => h1 h.1)
    go_enter Tryz.func113, Tryz.ntmps113
    go_wp2
    go_ret
    exact ⟨by rw [E.out]; rfl, rfl⟩
set_option maxRecDepth 100000 in
set_option maxHeartbeats 8000000 in
theorem c_digR (r : Int) (w : World) : Calls Tryz.prog 114 #[.int .i32 r] w fun e w' => e = .returned (.bool (digI r)) ∧ w' = w := by
  by_cases h1 : 48 ≤ r
  · by_cases h2 : r ≤ 57
    · have E : Hid (digI r = true) := by unfold Hid digI; exact decide_eq_true ⟨h1, h2⟩
      go_enter Tryz.func114, Tryz.ntmps114
      go_wp2
      go_ret
      exact ⟨by rw [E.out]; rfl, rfl⟩
    · have E : Hid (digI r = false) := by unfold Hid digI; exact decide_eq_false (fun h => h2 h.2)
      go_enter Tryz.func114, Tryz.ntmps114
      go_wp2
      go_ret
      exact ⟨by rw [E.out]; rfl, rfl⟩
  · have E : Hid (digI r = false) := by unfold Hid digI; exact decide_eq_false (fun h => h1 h.1)
    go_enter Tryz.func114, Tryz.ntmps114
    go_wp2
    go_ret
    exact ⟨by rw [E.out]; rfl, rfl⟩
set_option maxRecDepth 100000 in
set_option maxHeartbeats 8000000 in
theorem c_lodR (r : Int) (w : World) : Calls Tryz.prog 112 #[.int .i32 r] w fun e w' => e = .returned (.bool (lodI r)) ∧ w' = w := by
  have C1 : Hid (∀ W, Calls Tryz.prog 115 #[.int .i32 r] W fun e w' => e = .returned (.bool (lowI r)) ∧ w' = W) := fun W => c_lowR r W
  have C2 : Hid (∀ W, Calls Tryz.prog 114 #[.int .i32 r] W fun e w' => e = .returned (.bool (digI r)) ∧ w' = W) := fun W => c_digR r W
  unfold lodI
  cases h1 : lowI r
  · rw [h1] at C1
    go_enter Tryz.func112, Tryz.ntmps112
    go_wp2_with fail
    refine (C1.out w).mono ?_
    rintro e w1 ⟨rfl, rfl⟩
    go_wp2_with fail
    refine (C2.out _).mono ?_
    rintro e w2 ⟨rfl, rfl⟩
    go_wp2
    go_ret
    exact ⟨rfl, rfl⟩
  · rw [h1] at C1
    go_enter Tryz.func112, Tryz.ntmps112
    go_wp2_with fail
    refine (C1.out w).mono ?_
    rintro e w1 ⟨rfl, rfl⟩
    go_wp2
    go_ret
    exact ⟨rfl, rfl⟩
/-- Where a span of fitting bytes that begins at a place ends. -/
def spanP (p : Int → Bool) (s : ByteArray) : Nat → Nat → Nat
  | 0, pos => pos
  | b + 1, pos => if h : pos < s.size then (if p ((s[pos]'h).toNat : Int) then spanP p s b (pos + 1) else pos) else pos
theorem spanP_end (p : Int → Bool) (s : ByteArray) (b pos : Nat) (h : ¬ pos < s.size) : spanP p s b pos = pos := by
  cases b with
  | zero => rfl
  | succ b => rw [spanP, dif_neg h]
theorem spanP_stop (p : Int → Bool) (s : ByteArray) (b pos : Nat) (h : pos < s.size) (hp : p ((s[pos]'h).toNat : Int) = false) : spanP p s b pos = pos := by
  cases b with
  | zero => rfl
  | succ b => rw [spanP, dif_pos h, hp]; rfl
theorem spanP_go (p : Int → Bool) (s : ByteArray) (b pos : Nat) (h : pos < s.size) (hp : p ((s[pos]'h).toNat : Int) = true) : spanP p s (b + 1) pos = spanP p s b (pos + 1) := by
  rw [spanP, dif_pos h, hp]; rfl
theorem iter_below (w : World) (s : ByteArray) (pos : Nat) : Below w.heap.size w (w.iter s pos) := (Below.refl _ _).alloc (Nat.le_refl _) _
set_option maxRecDepth 100000 in
set_option maxHeartbeats 8000000 in
theorem c_spanLod (s : ByteArray) (w : World) (hs : s.size ≤ maxLen) : Calls Tryz.prog 111 #[.string s, .func (Fn.func 112) #[] #[]] w fun e w' => e = .returned (.int .i64 (spanP lodI s s.size 0 : Nat)) ∧ Below w.heap.size w w' := by
  have CF : Hid (∀ (r : Int) W, Calls Tryz.prog 112 #[.int .i32 r] W fun e w' => e = .returned (.bool (lodI r)) ∧ w' = W) := fun r W => c_lodR r W
  obtain ⟨N, hN⟩ : ∃ n, spanP lodI s s.size 0 = n := ⟨_, rfl⟩
  have HN : Hid (spanP lodI s s.size 0 = N) := hN
  rw [hN]
  clear hN
  go_enter Tryz.func111, Tryz.ntmps111
  go_wp2
  go_loopw [] (fun w' => ∃ (pos b : Nat), w' = w.iter s pos ∧ Hid (spanP lodI s b pos = N) ∧ s.size ≤ pos + b ∧ pos ≤ s.size) (fun w' => s.size - w'.iterPos w.heap.size)
  case atStart => exact ⟨0, s.size, rfl, HN.out, by omega, by omega⟩
  case round =>
    obtain ⟨pos, b, rfl, hc, hb, hps⟩ := hrel
    by_cases hp : pos < s.size
    · by_cases ha : (s[pos]'hp).toNat < 128
      · have hnx : ∀ ty, (Instr.next (.pointer (some ⟨w.heap.size, 0, none⟩)) true ty).run Tryz.prog (w.iter s pos) = _ := fun ty => run_next_ascii w s pos ty hp ha
        obtain ⟨x, hx⟩ : ∃ x : Int, (((s[pos]'hp).toNat : Nat) : Int) = x := ⟨_, rfl⟩
        have C := CF.out x (w.iter s (pos + 1))
        cases hpx : lodI x
        · have E : Hid (N = pos) := by unfold Hid; rw [← hc.out, spanP_stop lodI s b pos hp (by rw [hx]; exact hpx)]
          rw [hpx] at C
          rw [hx] at hnx
          clear hx hc HN hpx
          go_wp2_with fail
          refine C.mono ?_
          rintro e w1 ⟨rfl, rfl⟩
          go_wp2
          go_ret
          exact ⟨by rw [E.out]; rfl, iter_below _ _ _⟩
        · have E : Hid (spanP lodI s (b - 1) (pos + 1) = N) := by
            unfold Hid
            obtain ⟨b', rfl⟩ : ∃ b', b = b' + 1 := ⟨b - 1, by omega⟩
            rw [← hc.out, spanP_go lodI s b' pos hp (by rw [hx]; exact hpx)]
            rfl
          rw [hpx] at C
          rw [hx] at hnx
          clear hx hc HN hpx
          go_wp2_with fail
          refine C.mono ?_
          rintro e w1 ⟨rfl, rfl⟩
          go_wp2
          go_roundw
          case rel => exact ⟨pos + 1, b - 1, rfl, E, by omega, by omega⟩
          case measure => simp; omega
      · have hh := decode_high s pos hp (by omega)
        have hnx : ∀ ty, (Instr.next (.pointer (some ⟨w.heap.size, 0, none⟩)) true ty).run Tryz.prog (w.iter s pos) = _ := fun ty => run_next_any w s pos ty hp
        have E : Hid (N = pos) := by
          unfold Hid
          rw [← hc.out, spanP_stop lodI s b pos hp (by unfold lodI lowI digI; simp; omega)]
        obtain ⟨x, hx⟩ : ∃ x : Int, (((Utf8.decode s pos).1 : Nat) : Int) = x := ⟨_, rfl⟩
        obtain ⟨q, hq⟩ : ∃ q : Nat, pos + (Utf8.decode s pos).2 = q := ⟨_, rfl⟩
        have C := CF.out x (w.iter s q)
        have hpx : lodI x = false := by unfold lodI lowI digI; simp; omega
        rw [hpx] at C
        rw [hx, hq] at hnx
        clear hx hc HN hpx hq hh
        go_wp2_with fail
        refine C.mono ?_
        rintro e w1 ⟨rfl, rfl⟩
        go_wp2
        go_ret
        exact ⟨by rw [E.out]; rfl, iter_below _ _ _⟩
    · have hnx : ∀ ty, (Instr.next (.pointer (some ⟨w.heap.size, 0, none⟩)) true ty).run Tryz.prog (w.iter s pos) = _ := fun ty => run_next_end w s pos ty hp
      have E : Hid (N = s.size) := by unfold Hid; rw [← hc.out, spanP_end lodI s b pos hp]; omega
      clear hc HN
      go_wp2
      go_ret
      exact ⟨by rw [E.out]; rfl, iter_below _ _ _⟩
set_option maxRecDepth 100000 in
set_option maxHeartbeats 8000000 in
theorem c_spanDig (s : ByteArray) (w : World) (hs : s.size ≤ maxLen) : Calls Tryz.prog 111 #[.string s, .func (Fn.func 114) #[] #[]] w fun e w' => e = .returned (.int .i64 (spanP digI s s.size 0 : Nat)) ∧ Below w.heap.size w w' := by
  have CF : Hid (∀ (r : Int) W, Calls Tryz.prog 114 #[.int .i32 r] W fun e w' => e = .returned (.bool (digI r)) ∧ w' = W) := fun r W => c_digR r W
  obtain ⟨N, hN⟩ : ∃ n, spanP digI s s.size 0 = n := ⟨_, rfl⟩
  have HN : Hid (spanP digI s s.size 0 = N) := hN
  rw [hN]
  clear hN
  go_enter Tryz.func111, Tryz.ntmps111
  go_wp2
  go_loopw [] (fun w' => ∃ (pos b : Nat), w' = w.iter s pos ∧ Hid (spanP digI s b pos = N) ∧ s.size ≤ pos + b ∧ pos ≤ s.size) (fun w' => s.size - w'.iterPos w.heap.size)
  case atStart => exact ⟨0, s.size, rfl, HN.out, by omega, by omega⟩
  case round =>
    obtain ⟨pos, b, rfl, hc, hb, hps⟩ := hrel
    by_cases hp : pos < s.size
    · by_cases ha : (s[pos]'hp).toNat < 128
      · have hnx : ∀ ty, (Instr.next (.pointer (some ⟨w.heap.size, 0, none⟩)) true ty).run Tryz.prog (w.iter s pos) = _ := fun ty => run_next_ascii w s pos ty hp ha
        obtain ⟨x, hx⟩ : ∃ x : Int, (((s[pos]'hp).toNat : Nat) : Int) = x := ⟨_, rfl⟩
        have C := CF.out x (w.iter s (pos + 1))
        cases hpx : digI x
        · have E : Hid (N = pos) := by unfold Hid; rw [← hc.out, spanP_stop digI s b pos hp (by rw [hx]; exact hpx)]
          rw [hpx] at C
          rw [hx] at hnx
          clear hx hc HN hpx
          go_wp2_with fail
          refine C.mono ?_
          rintro e w1 ⟨rfl, rfl⟩
          go_wp2
          go_ret
          exact ⟨by rw [E.out]; rfl, iter_below _ _ _⟩
        · have E : Hid (spanP digI s (b - 1) (pos + 1) = N) := by
            unfold Hid
            obtain ⟨b', rfl⟩ : ∃ b', b = b' + 1 := ⟨b - 1, by omega⟩
            rw [← hc.out, spanP_go digI s b' pos hp (by rw [hx]; exact hpx)]
            rfl
          rw [hpx] at C
          rw [hx] at hnx
          clear hx hc HN hpx
          go_wp2_with fail
          refine C.mono ?_
          rintro e w1 ⟨rfl, rfl⟩
          go_wp2
          go_roundw
          case rel => exact ⟨pos + 1, b - 1, rfl, E, by omega, by omega⟩
          case measure => simp; omega
      · have hh := decode_high s pos hp (by omega)
        have hnx : ∀ ty, (Instr.next (.pointer (some ⟨w.heap.size, 0, none⟩)) true ty).run Tryz.prog (w.iter s pos) = _ := fun ty => run_next_any w s pos ty hp
        have E : Hid (N = pos) := by
          unfold Hid
          rw [← hc.out, spanP_stop digI s b pos hp (by unfold digI; simp; omega)]
        obtain ⟨x, hx⟩ : ∃ x : Int, (((Utf8.decode s pos).1 : Nat) : Int) = x := ⟨_, rfl⟩
        obtain ⟨q, hq⟩ : ∃ q : Nat, pos + (Utf8.decode s pos).2 = q := ⟨_, rfl⟩
        have C := CF.out x (w.iter s q)
        have hpx : digI x = false := by unfold digI; simp; omega
        rw [hpx] at C
        rw [hx, hq] at hnx
        clear hx hc HN hpx hq hh
        go_wp2_with fail
        refine C.mono ?_
        rintro e w1 ⟨rfl, rfl⟩
        go_wp2
        go_ret
        exact ⟨by rw [E.out]; rfl, iter_below _ _ _⟩
    · have hnx : ∀ ty, (Instr.next (.pointer (some ⟨w.heap.size, 0, none⟩)) true ty).run Tryz.prog (w.iter s pos) = _ := fun ty => run_next_end w s pos ty hp
      have E : Hid (N = s.size) := by unfold Hid; rw [← hc.out, spanP_end digI s b pos hp]; omega
      clear hc HN
      go_wp2
      go_ret
      exact ⟨by rw [E.out]; rfl, iter_below _ _ _⟩
set_option maxRecDepth 100000 in
set_option maxHeartbeats 8000000 in
theorem c_spanLow (s : ByteArray) (w : World) (hs : s.size ≤ maxLen) : Calls Tryz.prog 111 #[.string s, .func (Fn.func 115) #[] #[]] w fun e w' => e = .returned (.int .i64 (spanP lowI s s.size 0 : Nat)) ∧ Below w.heap.size w w' := by
  have CF : Hid (∀ (r : Int) W, Calls Tryz.prog 115 #[.int .i32 r] W fun e w' => e = .returned (.bool (lowI r)) ∧ w' = W) := fun r W => c_lowR r W
  obtain ⟨N, hN⟩ : ∃ n, spanP lowI s s.size 0 = n := ⟨_, rfl⟩
  have HN : Hid (spanP lowI s s.size 0 = N) := hN
  rw [hN]
  clear hN
  go_enter Tryz.func111, Tryz.ntmps111
  go_wp2
  go_loopw [] (fun w' => ∃ (pos b : Nat), w' = w.iter s pos ∧ Hid (spanP lowI s b pos = N) ∧ s.size ≤ pos + b ∧ pos ≤ s.size) (fun w' => s.size - w'.iterPos w.heap.size)
  case atStart => exact ⟨0, s.size, rfl, HN.out, by omega, by omega⟩
  case round =>
    obtain ⟨pos, b, rfl, hc, hb, hps⟩ := hrel
    by_cases hp : pos < s.size
    · by_cases ha : (s[pos]'hp).toNat < 128
      · have hnx : ∀ ty, (Instr.next (.pointer (some ⟨w.heap.size, 0, none⟩)) true ty).run Tryz.prog (w.iter s pos) = _ := fun ty => run_next_ascii w s pos ty hp ha
        obtain ⟨x, hx⟩ : ∃ x : Int, (((s[pos]'hp).toNat : Nat) : Int) = x := ⟨_, rfl⟩
        have C := CF.out x (w.iter s (pos + 1))
        cases hpx : lowI x
        · have E : Hid (N = pos) := by unfold Hid; rw [← hc.out, spanP_stop lowI s b pos hp (by rw [hx]; exact hpx)]
          rw [hpx] at C
          rw [hx] at hnx
          clear hx hc HN hpx
          go_wp2_with fail
          refine C.mono ?_
          rintro e w1 ⟨rfl, rfl⟩
          go_wp2
          go_ret
          exact ⟨by rw [E.out]; rfl, iter_below _ _ _⟩
        · have E : Hid (spanP lowI s (b - 1) (pos + 1) = N) := by
            unfold Hid
            obtain ⟨b', rfl⟩ : ∃ b', b = b' + 1 := ⟨b - 1, by omega⟩
            rw [← hc.out, spanP_go lowI s b' pos hp (by rw [hx]; exact hpx)]
            rfl
          rw [hpx] at C
          rw [hx] at hnx
          clear hx hc HN hpx
          go_wp2_with fail
          refine C.mono ?_
          rintro e w1 ⟨rfl, rfl⟩
          go_wp2
          go_roundw
          case rel => exact ⟨pos + 1, b - 1, rfl, E, by omega, by omega⟩
          case measure => simp; omega
      · have hh := decode_high s pos hp (by omega)
        have hnx : ∀ ty, (Instr.next (.pointer (some ⟨w.heap.size, 0, none⟩)) true ty).run Tryz.prog (w.iter s pos) = _ := fun ty => run_next_any w s pos ty hp
        have E : Hid (N = pos) := by
          unfold Hid
          rw [← hc.out, spanP_stop lowI s b pos hp (by unfold lowI; simp; omega)]
        obtain ⟨x, hx⟩ : ∃ x : Int, (((Utf8.decode s pos).1 : Nat) : Int) = x := ⟨_, rfl⟩
        obtain ⟨q, hq⟩ : ∃ q : Nat, pos + (Utf8.decode s pos).2 = q := ⟨_, rfl⟩
        have C := CF.out x (w.iter s q)
        have hpx : lowI x = false := by unfold lowI; simp; omega
        rw [hpx] at C
        rw [hx, hq] at hnx
        clear hx hc HN hpx hq hh
        go_wp2_with fail
        refine C.mono ?_
        rintro e w1 ⟨rfl, rfl⟩
        go_wp2
        go_ret
        exact ⟨by rw [E.out]; rfl, iter_below _ _ _⟩
    · have hnx : ∀ ty, (Instr.next (.pointer (some ⟨w.heap.size, 0, none⟩)) true ty).run Tryz.prog (w.iter s pos) = _ := fun ty => run_next_end w s pos ty hp
      have E : Hid (N = s.size) := by unfold Hid; rw [← hc.out, spanP_end lowI s b pos hp]; omega
      clear hc HN
      go_wp2
      go_ret
      exact ⟨by rw [E.out]; rfl, iter_below _ _ _⟩

end Go.Proofs.YtbpfpjmjmkpjoaaGreatDoor
