/-
  LexSql: what it tells; the program.
-/
import Derived.Test.YtbpfpjmjmkpjoaaGreatDoorLc
import Derived.Test.YtbpfpjmjmkpjoaaGreatDoorTg
import Derived.Deep.RegionHeld3
namespace Go.Proofs.YtbpfpjmjmkpjoaaGreatDoor
open Go Go.RowKit
attribute [local go_sem ↓] Go.wp_at_zero Go.wp_at_succ

set_option linter.unusedVariables false
set_option linter.unusedSimpArgs false
/-- Where the next token begins. -/
def skE (t : ByteArray) (i : Nat) : Nat := spanP blI t t.size i
/-- The tokens from a place on, behind those that stand. -/
def lexG (t : ByteArray) : Nat → Nat → List ByteArray → List ByteArray × Int
  | 0, _, out => (out, 0)
  | b + 1, i, out => if i < t.size then (match tokE t i with | none => ([], 3) | some e => if out.length = 500 then ([], 6) else lexG t b (skE t e) (out ++ [t.extract i e])) else (out, 0)
def lexR (t : ByteArray) : List ByteArray × Int := if 65536 < t.size then ([], 2) else lexG t (t.size + 1) (skE t 0) []
theorem spanP_lt (p : Int → Bool) (t : ByteArray) (i : Nat) (h : i < t.size) (hp : p (by8 t i) = true) : i < spanP p t t.size i := by
  obtain ⟨b, hb⟩ : ∃ b, t.size = b + 1 := ⟨t.size - 1, by omega⟩
  have hp2 : p ((t[i]'h).toNat : Int) = true := by rw [← by8_eq t i h]; exact hp
  have h1 : spanP p t t.size i = spanP p t b (i + 1) := by rw [hb]; exact spanP_go p t b i h hp2
  have := spanP_le p t b (i + 1) (by omega)
  omega
theorem tokE_in {t : ByteArray} {i e : Nat} (h : i < t.size) (ht : tokE t i = some e) : i < e ∧ e ≤ t.size := by
  unfold tokE at ht
  split at ht
  · rename_i hl
    cases ht
    exact ⟨spanP_lt lodI t i h (by unfold lodI; rw [hl]; rfl), (spanP_le lodI t t.size i (by omega)).2⟩
  · split at ht
    · rename_i hd
      cases ht
      exact ⟨spanP_lt digI t i h hd, (spanP_le digI t t.size i (by omega)).2⟩
    · split at ht
      · split at ht
        · split at ht
          · cases ht
            have := spanP_le lowI t t.size (i + 1) (by omega)
            omega
          · cases ht
        · cases ht
      · split at ht
        · cases ht; omega
        · cases ht
theorem skE_in (t : ByteArray) (i : Nat) (h : i ≤ t.size) : i ≤ skE t i ∧ skE t i ≤ t.size := spanP_le blI t t.size i h
theorem sub_list (t : ByteArray) (i : Nat) (h : i < t.size) : ((sub t i).toList == []) = false := by
  have hz := sub_size t i
  cases hc : (sub t i).toList == []
  · rfl
  · have h1 : (sub t i).toList = [] := by simpa using hc
    rw [toList_data] at h1
    have h2 : (sub t i).size = 0 := by show (sub t i).data.size = 0; rw [← Array.length_toList, h1]; rfl
    omega
theorem sub_none (t : ByteArray) : ((sub t t.size).toList == []) = true := by
  have hz := sub_size t t.size
  rw [toList_data]
  have h2 : (sub t t.size).data.toList = [] := List.eq_nil_of_length_eq_zero (by rw [Array.length_toList]; show (sub t t.size).size = 0; omega)
  rw [h2]; rfl
theorem sub_take (t : ByteArray) (i e : Nat) (h : i ≤ e) (he : e ≤ t.size) : (sub t i).extract 0 (e - i) = t.extract i e := by
  unfold sub
  rw [ByteArray.extract_extract]
  congr 1
  omega
theorem sub_drop (t : ByteArray) (i e : Nat) (h : i ≤ e) : (sub t i).extract (e - i) (sub t i).size = sub t e := by
  have := sub_sub t i (e - i)
  rw [show i + (e - i) = e by omega] at this
  exact this
theorem c_skipS (t : ByteArray) (i : Nat) (w : World) (hi : i ≤ t.size) (hs : t.size ≤ 65536) : Calls Tryz.prog 53 #[.string (sub t i)] w fun e w' => e = .returned (.string (sub t (skE t i))) ∧ w' = w := by
  have C := c_skip (sub t i) w (by rw [sub_size]; unfold maxLen; omega)
  have e : sub (sub t i) (spanP blI (sub t i) (sub t i).size 0) = sub t (skE t i) := by
    rw [sub_sub]
    have h := span_from blI t i hi
    congr 1
    unfold skE
    have := spanP_le blI t t.size i hi
    omega
  rw [e] at C
  exact C
def AnsL (base : Nat) (R : List ByteArray × Int) (e : Ending) (w' : World) : Prop := ∃ a c, e = .returned (.tuple #[.slice a R.1.length c, .int .i64 R.2]) ∧ w'.ownsRow base 9 1 (.slice a R.1.length c) R.1.length (strs R.1)
theorem AnsL.noneL {base : Nat} {k : Int} {w' : World} {R : List ByteArray × Int} (h : R = ([], k)) : AnsL base R (.returned (.tuple #[.slice none 0 0, .int .i64 k])) w' := by
  subst h
  exact ⟨none, 0, rfl, rfl, .inl ⟨rfl, rfl⟩⟩
theorem strlen_eq (s : ByteArray) : (match Value.string s with | .string r => r.size | _ => 0) = s.size := rfl
def slen : Value → Nat
  | .string r => r.size
  | _ => 0
set_option maxRecDepth 100000 in
set_option maxHeartbeats 8000000 in
theorem c_implL (t : ByteArray) (w : World) (hs : t.size ≤ maxLen) : Calls Tryz.prog 22 #[.string t] w fun e w' => AnsL w.heap.size (lexR t) e w' ∧ Below w.heap.size w w' := by
  by_cases hbig : (65536 : Int) < (t.size : Int)
  · have E : Hid (lexR t = ([], 2)) := by unfold Hid lexR; rw [if_pos (by omega)]
    go_enter Tryz.func22, Tryz.ntmps22
    go_wp2
    go_ret2
    exact ⟨AnsL.noneL E.out, Below.refl _ _⟩
  have hs2 : t.size ≤ 65536 := by omega
  obtain ⟨R, hR⟩ : ∃ R, lexR t = R := ⟨_, rfl⟩
  have HR : Hid (lexG t (t.size + 1) (skE t 0) [] = R) := by unfold Hid; rw [← hR]; unfold lexR; rw [if_neg (by omega)]
  have C0 := c_skipS t 0 w (by omega) hs2
  rw [sub_zero] at C0
  have k0 := skE_in t 0 (by omega)
  obtain ⟨iI, giV, gz0, gz1, gz2⟩ := info_parts infoStr
  have hiI : Hid (Tryz.prog.info? 9 = some iI) := giV
  have hz0 : Hid (iI.zero = some (.string ⟨#[]⟩)) := gz0
  have hz1 : Hid (iI.size = 1) := gz1
  have hz2 : Hid (iI.bytes = 16) := gz2
  have CT : Hid (∀ (i : Nat) (W : World), i < t.size → Calls Tryz.prog 54 #[.string (sub t i)] W fun e w' => e = .returned (.int .i64 (tokI t i)) ∧ Below W.heap.size W w') := fun i W h => c_tok t i W h hs2
  have CS : Hid (∀ (i : Nat) (W : World), i ≤ t.size → Calls Tryz.prog 53 #[.string (sub t i)] W fun e w' => e = .returned (.string (sub t (skE t i))) ∧ w' = W) := fun i W h => c_skipS t i W h hs2
  rw [hR]
  clear giV gz0 gz1 gz2 hR
  go_enter Tryz.func22, Tryz.ntmps22
  go_wp2_with fail
  refine C0.mono ?_
  rintro e w0 ⟨rfl, hw0⟩
  rw [hw0]
  clear C0 hw0 w0
  go_wp2_with fail
  go_loopw [4, 5] (fun s x wr => ∃ (i b : Nat) (M : List ByteArray) (a : Option Addr) (cap : Nat), i ≤ t.size ∧ t.size < i + b ∧ M.length ≤ 500 ∧ s = .slice a M.length cap ∧ x = .string (sub t i) ∧ Hid (wr.ownsRow w.heap.size 9 1 (.slice a M.length cap) M.length (strs M)) ∧ Hid (lexG t b i M = R) ∧ Hid (Below w.heap.size w wr)) (fun _ x _ => slen x)
  case atStart => exact ⟨skE t 0, t.size + 1, [], none, 0, k0.2, by omega, by simp, rfl, rfl, ⟨rfl, .inl ⟨rfl, rfl⟩⟩, HR.out, Below.refl _ _⟩
  case round =>
    obtain ⟨i, b, M, a, cap, hi, hb, hM, rfl, rfl, O0, HG, B0⟩ := hrel
    clear HR
    by_cases hlt : i < t.size
    · have he := sub_list t i hlt
      have C1 := CT.out i wr hlt
      have hz := sub_size t i
      cases htk : tokE t i with
      | none =>
        have E : Hid (R = ([], 3)) := by
          unfold Hid
          obtain ⟨b', rfl⟩ : ∃ b', b = b' + 1 := ⟨b - 1, by omega⟩
          rw [← HG.out, lexG, if_pos hlt, htk]
        have e0 : tokI t i = 0 := by unfold tokI; rw [htk]
        rw [e0] at C1
        clear e0 htk HG O0 hz CT CS
        go_wp2_with fail
        refine C1.mono ?_
        rintro e w1 ⟨rfl, hb1⟩
        have B1 : Hid (Below w.heap.size w w1) := B0.out.trans (hb1.mono B0.out.size)
        clear hb1 C1
        go_wp2
        go_ret2
        exact ⟨AnsL.noneL E.out, B1.out⟩
      | some e =>
        obtain ⟨h1, h2⟩ := tokE_in hlt htk
        have e0 : tokI t i = (e : Int) - (i : Int) := by unfold tokI; rw [htk]
        rw [e0] at C1
        have ne0 : (((e : Int) - (i : Int)) == 0) = false := by simp; omega
        have b1 : (0 : Int) ≤ (e : Int) - (i : Int) := by omega
        have b2 : (e : Int) - (i : Int) ≤ ((sub t i).size : Int) := by omega
        by_cases hf : M.length = 500
        · have E : Hid (R = ([], 6)) := by
            unfold Hid
            obtain ⟨b', rfl⟩ : ∃ b', b = b' + 1 := ⟨b - 1, by omega⟩
            rw [← HG.out, lexG, if_pos hlt, htk]
            simp only [hf, if_true]
          have f5 : ((M.length : Int) == 500) = true := by simp; omega
          clear e0 htk HG O0 hz CT CS hf
          go_wp2_with fail
          refine C1.mono ?_
          rintro e1 w1 ⟨rfl, hb1⟩
          have B1 : Hid (Below w.heap.size w w1) := B0.out.trans (hb1.mono B0.out.size)
          clear hb1 C1
          go_wp2
          go_ret2
          exact ⟨AnsL.noneL E.out, B1.out⟩
        · have E : Hid (lexG t (b - 1) (skE t e) (M ++ [t.extract i e]) = R) := by
            unfold Hid
            obtain ⟨b', rfl⟩ : ∃ b', b = b' + 1 := ⟨b - 1, by omega⟩
            rw [← HG.out, lexG, if_pos hlt, htk]
            simp only [hf, if_false]
            rfl
          have f5 : ((M.length : Int) == 500) = false := by simp; omega
          have hsk := skE_in t e h2
          have HT : Hid ((sub t i).extract 0 (e - i) = t.extract i e) := sub_take t i e (by omega) h2
          have HZ : Hid ((sub t (skE t e)).size < (sub t i).size) := by unfold Hid; rw [sub_size, sub_size]; omega
          have CS1 : Hid (∀ W, Calls Tryz.prog 53 #[.string ((sub t i).extract (e - i) (sub t i).size)] W fun e' w' => e' = .returned (.string (sub t (skE t e))) ∧ w' = W) := fun W => by rw [sub_drop t i e (by omega)]; exact CS.out e W h2
          clear e0 htk HG hz CT CS
          go_wp2_with fail
          refine C1.mono ?_
          rintro e1 w1 ⟨rfl, hb1⟩
          have B1 : Hid (Below w.heap.size w w1) := B0.out.trans (hb1.mono B0.out.size)
          have O1 : Hid (w1.ownsRow w.heap.size 9 1 (.slice a M.length cap) M.length (strs M)) := own_below O0.out hb1
          have l1 : w.heap.size ≤ w1.heap.size := B1.out.size
          clear hb1 C1 O0 B0
          go_wp2_with (at_builtin; refine app_any _ rfl (.tmp 21) (.tmp 25) 44 rfl w.heap.size 9 iI (.string ⟨#[]⟩) 1 16 Tryz.underlying44 hiI.out hz0.out hz1.out hz2.out rfl (by omega) (.slice a M.length cap) M.length (strs M) rfl (own_below O1.out ((Below.refl _ _).alloc (Nat.le_refl _) _)) _ 1 1 [.string ((sub t i).extract 0 (e - i))] rfl (fun ex => by cases ex) rfl (new_at _ _ _ (by simp)) (one_str _) (by unfold maxLen; omega) (by omega) (by simp; omega) ?_; intro a9 c9 w9 ho9 hg9 hx9)
          have hl : (M ++ [t.extract i e]).length = M.length + 1 := by simp
          have B9 : Hid (Below w.heap.size w w9) := by
            rw [ob_slice] at hg9
            have hbl := own_blk O1.out
            refine B1.out.trans ?_
            refine ⟨hg9.os, hg9.tape, hg9.output, Nat.le_trans (by simp) hg9.size, fun j hj => ?_⟩
            rw [hg9.block j (by simp; omega) (fun e => by have := (hbl j e.symm).1; omega)]
            exact ((Below.refl w1.heap.size w1).alloc (Nat.le_refl _) _).block j (by omega)
          have O9 : Hid (w9.ownsRow w.heap.size 9 1 (.slice a9 (M ++ [t.extract i e]).length c9) (M ++ [t.extract i e]).length (strs (M ++ [t.extract i e]))) := by
            unfold Hid
            rw [hl, strs_one, ← HT.out]
            exact ho9
          clear ho9 hg9 hx9 O1 B1
          refine (CS1.out w9).mono ?_
          rintro e2 w10 ⟨rfl, hw10⟩
          rw [hw10]
          clear hw10 CS1
          go_wp2
          go_roundw
          case rel => exact ⟨skE t e, b - 1, M ++ [t.extract i e], a9, c9, hsk.2, by omega, by rw [hl]; omega, by rw [hl], rfl, O9, E, B9⟩
          case measure => exact HZ.out
    · have e : i = t.size := by omega
      subst e
      have he := sub_none t
      have E : Hid (R = (M, 0)) := by
        unfold Hid
        obtain ⟨b', rfl⟩ : ∃ b', b = b' + 1 := ⟨b - 1, by omega⟩
        rw [← HG.out, lexG, if_neg hlt]
      clear HG CT CS
      go_wp2
      go_ret2
      exact ⟨by rw [E.out]; exact ⟨a, cap, rfl, O0.out⟩, B0.out⟩

end Go.Proofs.YtbpfpjmjmkpjoaaGreatDoor
