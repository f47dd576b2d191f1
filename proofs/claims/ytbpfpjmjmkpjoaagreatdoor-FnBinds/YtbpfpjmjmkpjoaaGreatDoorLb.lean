/-
  LexSql: blanks that are skipped, signs, how long a token is.
-/
import Derived.Test.YtbpfpjmjmkpjoaaGreatDoorLa
import Derived.Test.YtbpfpjmjmkpjoaaGreatDoorVal
import Derived.Lib.Bytealg
import Derived.Shelf.Strings.Search1
namespace Go.Proofs.YtbpfpjmjmkpjoaaGreatDoor
open Go Go.RowKit
attribute [local go_sem ↓] Go.wp_at_zero Go.wp_at_succ

set_option linter.unusedVariables false
set_option linter.unusedSimpArgs false
def blI (r : Int) : Bool := r == 32
def sgI (r : Int) : Bool := r == 40 || (r == 41 || (r == 43 || (r == 45 || (r == 42 || (r == 47 || (r == 61 || (r == 60 || r == 44)))))))
/-- What stands from a place on. -/
def sub (s : ByteArray) (k : Nat) : ByteArray := s.extract k s.size
theorem sub_size (s : ByteArray) (k : Nat) : (sub s k).size = s.size - k := by simp [sub, ByteArray.size_extract]
theorem sub_at (s : ByteArray) (k j : Nat) (h : j < (sub s k).size) : (sub s k)[j]'h = s[k + j]'(by rw [sub_size] at h; omega) := by
  have h2 : k + j < s.size := by rw [sub_size] at h; omega
  simp [sub, ByteArray.getElem_extract]
theorem sub_zero (s : ByteArray) : sub s 0 = s := by simp [sub]
theorem sub_sub (s : ByteArray) (k m : Nat) : sub (sub s k) m = sub s (k + m) := by
  unfold sub
  rw [ByteArray.extract_extract]
  congr 1
  simp [ByteArray.size_extract]
  omega
theorem spanP_le (p : Int → Bool) (s : ByteArray) : ∀ b pos, pos ≤ s.size → pos ≤ spanP p s b pos ∧ spanP p s b pos ≤ s.size
  | 0, pos, h => ⟨Nat.le_refl _, h⟩
  | b + 1, pos, h => by
    rw [spanP]
    split
    · split
      · have := spanP_le p s b (pos + 1) (by omega)
        omega
      · omega
    · omega
set_option maxRecDepth 100000 in
set_option maxHeartbeats 8000000 in
theorem c_trimB (s : ByteArray) (w : World) (hs : s.size ≤ maxLen) : Calls Tryz.prog 154 #[.string s, .int .u8 32] w fun e w' => e = .returned (.string (sub s (spanP blI s s.size 0))) ∧ w' = w := by
  unfold maxLen at hs
  obtain ⟨N, hN⟩ : ∃ n, spanP blI s s.size 0 = n := ⟨_, rfl⟩
  have HN : Hid (spanP blI s s.size 0 = N) := hN
  rw [hN]
  clear hN
  go_enter Tryz.func154, Tryz.ntmps154
  go_wp2
  go_loop [0] (fun x => ∃ (k b : Nat), k ≤ s.size ∧ x = .string (sub s k) ∧ Hid (spanP blI s b k = N) ∧ s.size ≤ k + b) (fun x => match x with | .string r => r.size | _ => 0)
  case atStart => exact ⟨0, s.size, by omega, by rw [sub_zero], HN.out, by omega⟩
  case round =>
    obtain ⟨k, b, hk, rfl, hc, hb⟩ := hrel
    have hz := sub_size s k
    by_cases hlt : k < s.size
    · have h0 : 0 < (sub s k).size := by omega
      have ha := sub_at s k 0 h0
      obtain ⟨x, hx⟩ : ∃ x : Int, ((((sub s k)[0]'h0).toNat : Nat) : Int) = x := ⟨_, rfl⟩
      have hx2 : (((s[k]'hlt).toNat : Nat) : Int) = x := by rw [← hx, ha]; rfl
      have hd : sub (sub s k) 1 = sub s (k + 1) := sub_sub s k 1
      have hdz : (sub s (k + 1)).size < (sub s k).size := by rw [sub_size, sub_size]; omega
      have g0 : (0 : Int) < ((sub s k).size : Int) := by omega
      have g1 : (1 : Int) ≤ ((sub s k).size : Int) := by omega
      have HD : Hid ((sub s k).extract 1 (sub s k).size = sub s (k + 1)) := hd
      cases hb2 : (x == 32)
      · have E : Hid (N = k) := by unfold Hid; rw [← hc.out, spanP_stop blI s b k hlt (by rw [hx2]; exact hb2)]
        clear hc HN ha hx2 hd hdz HD
        go_wp2
        go_ret
        exact ⟨by rw [E.out]; rfl, rfl⟩
      · have E : Hid (spanP blI s (b - 1) (k + 1) = N) := by
          unfold Hid
          obtain ⟨b', rfl⟩ : ∃ b', b = b' + 1 := ⟨b - 1, by omega⟩
          rw [← hc.out, spanP_go blI s b' k hlt (by rw [hx2]; exact hb2)]
          rfl
        clear hc HN ha hx2 hd hz
        go_wp2
        go_round
        case rel => exact ⟨k + 1, b - 1, by omega, by rw [← HD.out], E, by omega⟩
        case measure => rw [HD.out]; exact hdz
    · have e : k = s.size := by omega
      have E : Hid (N = k) := by unfold Hid; rw [← hc.out, spanP_end blI s b k hlt]
      have g0 : ¬ (0 : Int) < ((sub s k).size : Int) := by omega
      clear hc HN e hz
      go_wp2
      go_ret
      exact ⟨by rw [E.out]; rfl, rfl⟩
theorem ba_eq0 {a b : ByteArray} (h : a.data = b.data) : a = b := by cases a; cases b; simp only at h; rw [h]
theorem toList_data (s : ByteArray) : s.toList = s.data.toList := Go.ByteArray.toList_eq s
set_option maxRecDepth 100000 in
set_option maxHeartbeats 8000000 in
theorem c_trim (s : ByteArray) (w : World) (hs : s.size ≤ maxLen) : Calls Tryz.prog 109 #[.string s, .string ⟨#[32]⟩] w fun e w' => e = .returned (.string (sub s (spanP blI s s.size 0))) ∧ w' = w := by
  have C := c_trimB s w hs
  obtain ⟨N, hN⟩ : ∃ n, spanP blI s s.size 0 = n := ⟨_, rfl⟩
  cases he : (s.toList == [])
  · rw [hN] at C ⊢
    clear hN
    go_enter Tryz.func109, Tryz.ntmps109
    go_wp2_with fail
    refine C.mono ?_
    rintro e w1 ⟨rfl, rfl⟩
    go_wp2
    go_ret
    exact ⟨rfl, rfl⟩
  · have e0 : s = ⟨#[]⟩ := by
      have h1 : s.toList = [] := by simpa using he
      apply ba_eq0
      have h2 : s.data.toList = [] := by rw [← toList_data]; exact h1
      simpa using h2
    subst e0
    clear he C
    go_enter Tryz.func109, Tryz.ntmps109
    go_wp2
    go_ret
    exact ⟨by rw [show spanP blI (⟨#[]⟩ : ByteArray) (⟨#[]⟩ : ByteArray).size 0 = 0 from rfl, sub_zero]; rfl, rfl⟩
set_option maxRecDepth 100000 in
set_option maxHeartbeats 8000000 in
theorem c_skip (s : ByteArray) (w : World) (hs : s.size ≤ maxLen) : Calls Tryz.prog 53 #[.string s] w fun e w' => e = .returned (.string (sub s (spanP blI s s.size 0))) ∧ w' = w := by
  have C := c_trim s w hs
  go_enter Tryz.func53, Tryz.ntmps53
  go_wp2_with fail
  refine C.mono ?_
  rintro e w1 ⟨rfl, rfl⟩
  go_wp2
  go_ret
  exact ⟨rfl, rfl⟩
set_option maxRecDepth 100000 in
set_option maxHeartbeats 8000000 in
theorem c_slIB (s : ByteArray) (c : Int) (w : World) : Calls Tryz.prog 158 #[.string s, .int .u8 c] w fun e w' => e = .returned (.int .i64 (Lib.indexByte s.data.toList c.toNat.toUInt8)) ∧ w' = w := by
  go_enter Tryz.func158, Tryz.ntmps158
  go_wp2
  rw [run_callFunc_extern Tryz.func183 (by kernel_rfl) (by kernel_rfl) (by kernel_rfl) (e := Extern.BytealgIndexByte.indexByte) (by kernel_rfl), Lib.run_indexByteString]
  simp only [Result.andThen]
  rw [Oper.upon_value]
  go_wp2
  go_ret
  exact ⟨rfl, rfl⟩
theorem sg_all : ∀ n : Fin 256, decide (0 ≤ Lib.indexByte [40, 41, 43, 45, 42, 47, 61, 60, 44] (n.val).toUInt8) = sgI (n.val : Int) := by decide +kernel
theorem sg_byte (c : UInt8) : decide (0 ≤ Lib.indexByte [40, 41, 43, 45, 42, 47, 61, 60, 44] ((c.toNat : Int).toNat.toUInt8)) = sgI (c.toNat : Int) := by
  have := sg_all ⟨c.toNat, c.toNat_lt⟩
  simpa using this
set_option maxRecDepth 100000 in
set_option maxHeartbeats 8000000 in
theorem c_ib (c : UInt8) (w : World) : Calls Tryz.prog 116 #[.string ⟨#[40, 41, 43, 45, 42, 47, 61, 60, 44]⟩, .int .u8 (c.toNat : Int)] w fun e w' => (∃ z : Int, e = .returned (.int .i64 z) ∧ decide (0 ≤ z) = sgI (c.toNat : Int)) ∧ w' = w := by
  have C := c_slIB ⟨#[40, 41, 43, 45, 42, 47, 61, 60, 44]⟩ (c.toNat : Int) w
  have H := sg_byte c
  obtain ⟨z, hz⟩ : ∃ z, Lib.indexByte (⟨#[40, 41, 43, 45, 42, 47, 61, 60, 44]⟩ : ByteArray).data.toList ((c.toNat : Int).toNat.toUInt8) = z := ⟨_, rfl⟩
  have H2 : Hid (decide (0 ≤ z) = sgI (c.toNat : Int)) := by unfold Hid; rw [← hz]; exact H
  rw [hz] at C
  clear hz H
  go_enter Tryz.func116, Tryz.ntmps116
  go_wp2_with fail
  refine C.mono ?_
  rintro e w1 ⟨rfl, rfl⟩
  go_wp2
  go_ret
  exact ⟨⟨z, rfl, H2.out⟩, rfl⟩

end Go.Proofs.YtbpfpjmjmkpjoaaGreatDoor
