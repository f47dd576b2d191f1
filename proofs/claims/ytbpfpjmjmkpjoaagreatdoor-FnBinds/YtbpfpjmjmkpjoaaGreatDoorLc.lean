/-
  LexSql: where a token ends; tokenSize.
-/
import Derived.Test.YtbpfpjmjmkpjoaaGreatDoorLb
import Derived.Deep.RegionHeld3
namespace Go.Proofs.YtbpfpjmjmkpjoaaGreatDoor
open Go Go.RowKit
attribute [local go_sem ↓] Go.wp_at_zero Go.wp_at_succ

set_option linter.unusedVariables false
set_option linter.unusedSimpArgs false
/-- Where the token that begins at a place ends. -/
def tokE (t : ByteArray) (i : Nat) : Option Nat :=
  if lowI (by8 t i) then some (spanP lodI t t.size i)
  else if digI (by8 t i) then some (spanP digI t t.size i)
  else if by8 t i == 39 then
    (if spanP lowI t t.size (i + 1) < t.size then (if by8 t (spanP lowI t t.size (i + 1)) == 39 then some (spanP lowI t t.size (i + 1) + 1) else none) else none)
  else if sgI (by8 t i) then some (i + 1) else none
theorem spanP_fuel (p : Int → Bool) (s : ByteArray) : ∀ b b' pos, s.size ≤ pos + b → s.size ≤ pos + b' → spanP p s b pos = spanP p s b' pos
  | 0, b', pos, h, _ => by rw [spanP_end p s b' pos (by omega)]; rfl
  | b + 1, b', pos, h, h' => by
    by_cases hp : pos < s.size
    · obtain ⟨c, rfl⟩ : ∃ c, b' = c + 1 := ⟨b' - 1, by omega⟩
      cases hx : p ((s[pos]'hp).toNat : Int)
      · rw [spanP_stop p s _ pos hp hx, spanP_stop p s _ pos hp hx]
      · rw [spanP_go p s b pos hp hx, spanP_go p s c pos hp hx]
        exact spanP_fuel p s b c (pos + 1) (by omega) (by omega)
    · rw [spanP_end p s _ pos hp, spanP_end p s _ pos hp]
theorem spanP_sub (p : Int → Bool) (t : ByteArray) (i : Nat) (hi : i ≤ t.size) : ∀ b pos, i + spanP p (sub t i) b pos = spanP p t b (i + pos)
  | 0, pos => rfl
  | b + 1, pos => by
    have hz := sub_size t i
    by_cases hp : pos < (sub t i).size
    · have hp' : i + pos < t.size := by omega
      have e := sub_at t i pos hp
      cases hx : p ((t[i + pos]'hp').toNat : Int)
      · rw [spanP_stop p t _ (i + pos) hp' hx, spanP_stop p (sub t i) _ pos hp (by rw [e]; exact hx)]
      · rw [spanP_go p t b (i + pos) hp' hx, spanP_go p (sub t i) b pos hp (by rw [e]; exact hx)]
        exact spanP_sub p t i hi b (pos + 1)
    · rw [spanP_end p t _ (i + pos) (by omega), spanP_end p (sub t i) _ pos hp]
theorem by8_sub (t : ByteArray) (i j : Nat) (h : j < (sub t i).size) : by8 t (i + j) = (((sub t i)[j]'h).toNat : Int) := by
  have hz := sub_size t i
  rw [sub_at t i j h, by8_eq t (i + j) (by omega)]
theorem span_from (p : Int → Bool) (t : ByteArray) (i : Nat) (hi : i ≤ t.size) : ((spanP p (sub t i) (sub t i).size 0 : Nat) : Int) = (spanP p t t.size i : Nat) - (i : Int) := by
  have h := spanP_sub p t i hi (sub t i).size 0
  rw [Nat.add_zero, spanP_fuel p t (sub t i).size t.size i (by rw [sub_size]; omega) (by omega)] at h
  omega
def tokI (t : ByteArray) (i : Nat) : Int := match tokE t i with | none => 0 | some e => (e : Int) - (i : Int)
set_option maxRecDepth 100000 in
set_option maxHeartbeats 8000000 in
theorem c_tok (t : ByteArray) (i : Nat) (w : World) (hi : i < t.size) (hs : t.size ≤ 65536) :
    Calls Tryz.prog 54 #[.string (sub t i)] w fun e w' => e = .returned (.int .i64 (tokI t i)) ∧ Below w.heap.size w w' := by
  have hz := sub_size t i
  have h0 : 0 < (sub t i).size := by omega
  have g0 : (0 : Int) < ((sub t i).size : Int) := by omega
  have g1 : (1 : Int) ≤ ((sub t i).size : Int) := by omega
  have hm : (sub t i).size ≤ maxLen := by unfold maxLen; omega
  have hx0 := by8_sub t i 0 h0
  rw [Nat.add_zero] at hx0
  obtain ⟨x, hx⟩ : ∃ x : Int, ((((sub t i)[0]'h0).toNat : Nat) : Int) = x := ⟨_, rfl⟩
  have X : Hid (by8 t i = x) := by unfold Hid; rw [hx0]; exact hx
  have CL := c_lowB x w
  have CD := c_digB x w
  have CI : Hid (Calls Tryz.prog 116 #[.string ⟨#[40, 41, 43, 45, 42, 47, 61, 60, 44]⟩, .int .u8 x] w fun e w' => (∃ z : Int, e = .returned (.int .i64 z) ∧ decide (0 ≤ z) = sgI x) ∧ w' = w) := by unfold Hid; rw [← hx]; exact c_ib _ w
  have C1 : Hid (Calls Tryz.prog 111 #[.string (sub t i), .func (Fn.func 112) #[] #[]] w fun e w' => e = .returned (.int .i64 ((spanP lodI t t.size i : Nat) - (i : Int))) ∧ Below w.heap.size w w') := by unfold Hid; rw [← span_from lodI t i (by omega)]; exact c_spanLod _ w hm
  have C2 : Hid (Calls Tryz.prog 111 #[.string (sub t i), .func (Fn.func 114) #[] #[]] w fun e w' => e = .returned (.int .i64 ((spanP digI t t.size i : Nat) - (i : Int))) ∧ Below w.heap.size w w') := by unfold Hid; rw [← span_from digI t i (by omega)]; exact c_spanDig _ w hm
  have C3 : Hid (Calls Tryz.prog 111 #[.string ((sub t i).extract 1 (sub t i).size), .func (Fn.func 115) #[] #[]] w fun e w' => e = .returned (.int .i64 ((spanP lowI t t.size (i + 1) : Nat) - ((i : Int) + 1))) ∧ Below w.heap.size w w') := by
    unfold Hid
    rw [show ((spanP lowI t t.size (i + 1) : Nat) : Int) - ((i : Int) + 1) = (spanP lowI t t.size (i + 1) : Nat) - ((i + 1 : Nat) : Int) from rfl, show (sub t i).extract 1 (sub t i).size = sub t (i + 1) from sub_sub t i 1, ← span_from lowI t (i + 1) (by omega)]
    exact c_spanLow _ w (by rw [sub_size]; unfold maxLen; omega)
  cases k1 : lowI x
  · rw [k1] at CL
    cases k2 : digI x
    · rw [k2] at CD
      cases k3 : (x == 39)
      · have E : Hid (tokI t i = if sgI x then 1 else 0) := by
          unfold Hid tokI tokE
          rw [X.out, k1, k2, k3]
          simp only [Bool.false_eq_true, if_false]
          cases sgI x
          · rfl
          · simp; omega
        cases k4 : sgI x
        · rw [k4] at CI E
          clear C1 C2 C3 X hx0 hz k1 k2 k4
          go_enter Tryz.func54, Tryz.ntmps54
          go_wp2_with fail
          refine CL.mono ?_
          rintro e w1 ⟨rfl, rfl⟩
          go_wp2_with fail
          refine CD.mono ?_
          rintro e w2 ⟨rfl, rfl⟩
          go_wp2_with fail
          refine CI.out.mono ?_
          rintro e w3 ⟨⟨z, rfl, hz2⟩, rfl⟩
          have hneg : ¬ 0 ≤ z := by simpa using hz2
          clear hz2
          go_wp2
          go_ret
          exact ⟨by rw [E.out]; rfl, Below.refl _ _⟩
        · rw [k4] at CI E
          clear C1 C2 C3 X hx0 hz k1 k2 k4
          go_enter Tryz.func54, Tryz.ntmps54
          go_wp2_with fail
          refine CL.mono ?_
          rintro e w1 ⟨rfl, rfl⟩
          go_wp2_with fail
          refine CD.mono ?_
          rintro e w2 ⟨rfl, rfl⟩
          go_wp2_with fail
          refine CI.out.mono ?_
          rintro e w3 ⟨⟨z, rfl, hz2⟩, rfl⟩
          have hpos : 0 ≤ z := by simpa using hz2
          clear hz2
          go_wp2
          go_ret
          exact ⟨by rw [E.out]; rfl, Below.refl _ _⟩
      · obtain ⟨f, hf⟩ : ∃ f, spanP lowI t t.size (i + 1) = f := ⟨_, rfl⟩
        have hfl := spanP_le lowI t t.size (i + 1) (by omega)
        rw [hf] at hfl C3
        have E : Hid (tokI t i = if f < t.size then (if by8 t f == 39 then (f : Int) + 1 - i else 0) else 0) := by
          unfold Hid tokI tokE
          rw [X.out, k1, k2, k3, hf]
          simp only [Bool.false_eq_true, if_false, if_true]
          by_cases hff : f < t.size
          · rw [if_pos hff, if_pos hff]
            cases by8 t f == 39
            · rfl
            · simp
          · rw [if_neg hff, if_neg hff]
        have hw1 : IntKind.i64.wrap (1 + ((f : Int) - ((i : Int) + 1))) = (f : Int) - (i : Int) := by rw [IntKind.wrap_i64]; omega
        have hw2 : IntKind.i64.wrap ((f : Int) - (i : Int) + 1) = (f : Int) - (i : Int) + 1 := by rw [IntKind.wrap_i64]; omega
        have b1 : (0 : Int) ≤ (f : Int) - (i : Int) := by omega
        by_cases hff : f < t.size
        · have b2 : (f : Int) - (i : Int) < ((sub t i).size : Int) := by omega
          have hj : f - i < (sub t i).size := by omega
          have hy0 := by8_sub t i (f - i) hj
          rw [show i + (f - i) = f by omega] at hy0
          obtain ⟨y, hy⟩ : ∃ y : Int, ((((sub t i)[f - i]'hj).toNat : Nat) : Int) = y := ⟨_, rfl⟩
          rw [hy] at hy0
          have ne : (((f : Int) - (i : Int)) == ((sub t i).size : Int)) = false := by simp; omega
          cases k5 : (y == 39)
          · have k6 : (y != 39) = true := by simpa using k5
            have E2 : Hid (tokI t i = 0) := by unfold Hid; rw [E.out, if_pos hff, hy0, k5]; rfl
            clear E C1 C2 CI X hx0 hz k1 k2 hy0 hf hfl k5
            go_enter Tryz.func54, Tryz.ntmps54
            go_wp2_with fail
            refine CL.mono ?_
            rintro e w1 ⟨rfl, rfl⟩
            go_wp2_with fail
            refine CD.mono ?_
            rintro e w2 ⟨rfl, rfl⟩
            go_wp2_with fail
            refine C3.out.mono ?_
            rintro e w3 ⟨rfl, hb⟩
            have HB : Hid (Below _ _ w3) := hb
            clear hb C3
            go_wp2
            go_ret
            exact ⟨by rw [E2.out]; rfl, HB.out⟩
          · have k6 : (y != 39) = false := by simpa using k5
            have E2 : Hid (tokI t i = (f : Int) - (i : Int) + 1) := by unfold Hid; rw [E.out, if_pos hff, hy0, k5, if_pos rfl]; omega
            clear E C1 C2 CI X hx0 hz k1 k2 hy0 hf hfl k5
            go_enter Tryz.func54, Tryz.ntmps54
            go_wp2_with fail
            refine CL.mono ?_
            rintro e w1 ⟨rfl, rfl⟩
            go_wp2_with fail
            refine CD.mono ?_
            rintro e w2 ⟨rfl, rfl⟩
            go_wp2_with fail
            refine C3.out.mono ?_
            rintro e w3 ⟨rfl, hb⟩
            have HB : Hid (Below _ _ w3) := hb
            clear hb C3
            go_wp2
            go_ret
            exact ⟨by rw [E2.out]; rfl, HB.out⟩
        · have ne : (((f : Int) - (i : Int)) == ((sub t i).size : Int)) = true := by simp; omega
          have E2 : Hid (tokI t i = 0) := by unfold Hid; rw [E.out, if_neg hff]
          clear E C1 C2 CI X hx0 hz k1 k2 hf hfl
          go_enter Tryz.func54, Tryz.ntmps54
          go_wp2_with fail
          refine CL.mono ?_
          rintro e w1 ⟨rfl, rfl⟩
          go_wp2_with fail
          refine CD.mono ?_
          rintro e w2 ⟨rfl, rfl⟩
          go_wp2_with fail
          refine C3.out.mono ?_
          rintro e w3 ⟨rfl, hb⟩
          have HB : Hid (Below _ _ w3) := hb
          clear hb C3
          go_wp2
          go_ret
          exact ⟨by rw [E2.out]; rfl, HB.out⟩
    · rw [k2] at CD
      have E : Hid (tokI t i = (spanP digI t t.size i : Nat) - (i : Int)) := by
        unfold Hid tokI tokE
        rw [X.out, k1, k2]
        simp
      clear C1 C3 CI X hx0 hz k1 k2
      go_enter Tryz.func54, Tryz.ntmps54
      go_wp2_with fail
      refine CL.mono ?_
      rintro e w1 ⟨rfl, rfl⟩
      go_wp2_with fail
      refine CD.mono ?_
      rintro e w2 ⟨rfl, rfl⟩
      go_wp2_with fail
      refine C2.out.mono ?_
      rintro e w3 ⟨rfl, hb⟩
      have HB : Hid (Below _ _ w3) := hb
      clear hb C2
      go_wp2
      go_ret
      exact ⟨by rw [E.out]; rfl, HB.out⟩
  · rw [k1] at CL
    have E : Hid (tokI t i = (spanP lodI t t.size i : Nat) - (i : Int)) := by
      unfold Hid tokI tokE
      rw [X.out, k1]
      simp
    clear C2 C3 CI CD X hx0 hz k1
    go_enter Tryz.func54, Tryz.ntmps54
    go_wp2_with fail
    refine CL.mono ?_
    rintro e w1 ⟨rfl, rfl⟩
    go_wp2_with fail
    refine C1.out.mono ?_
    rintro e w3 ⟨rfl, hb⟩
    have HB : Hid (Below _ _ w3) := hb
    clear hb C1
    go_wp2
    go_ret
    exact ⟨by rw [E.out]; rfl, HB.out⟩

end Go.Proofs.YtbpfpjmjmkpjoaaGreatDoor
