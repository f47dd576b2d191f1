/-
  LexSql: the specification.
-/
import Derived.Test.YtbpfpjmjmkpjoaaGreatDoorLe
import Derived.Test.YtbpfpjmjmkpjoaaGreatDoorBa
import Derived.Test.YtbpfpjmjmkpjoaaGreatDoorVal
import Derived.Deep.RegionHeld3
namespace Go.Proofs.YtbpfpjmjmkpjoaaGreatDoor
open Go Go.RowKit
attribute [local go_sem ↓] Go.wp_at_zero Go.wp_at_succ

set_option linter.unusedVariables false
set_option linter.unusedSimpArgs false
set_option maxRecDepth 100000 in
set_option maxHeartbeats 8000000 in
theorem c_letB (c : UInt8) (w : World) : Calls Tryz.prog 77 #[.int .u8 (c.toNat : Int)] w fun e w' => e = .returned (.bool (lowI (c.toNat : Int))) ∧ w' = w := by
  have hwr := wrap64_byte c
  have C : Calls Tryz.prog 86 #[.int .i64 (c.toNat : Int), .int .i64 97, .int .i64 122] w fun e w' => e = .returned (.bool (lowI (c.toNat : Int))) ∧ w' = w := c_in (c.toNat : Int) 97 122 w
  go_enter Tryz.func77, Tryz.ntmps77
  go_wp2_with fail
  refine C.mono ?_
  rintro e w1 ⟨rfl, rfl⟩
  go_wp2
  go_ret
  exact ⟨rfl, rfl⟩
set_option maxRecDepth 100000 in
set_option maxHeartbeats 8000000 in
theorem c_digS (r : Int) (w : World) : Calls Tryz.prog 78 #[.int .u8 r] w fun e w' => e = .returned (.bool (digI r)) ∧ w' = w := by
  by_cases h1 : 48 ≤ r
  · by_cases h2 : r ≤ 57
    · have E : Hid (digI r = true) := by unfold Hid digI; exact decide_eq_true ⟨h1, h2⟩
      go_enter Tryz.func78, Tryz.ntmps78
      go_wp2
      go_ret
      exact ⟨by rw [E.out]; rfl, rfl⟩
    · have E : Hid (digI r = false) := by unfold Hid digI; exact decide_eq_false (fun h => h2 h.2)
      go_enter Tryz.func78, Tryz.ntmps78
      go_wp2
      go_ret
      exact ⟨by rw [E.out]; rfl, rfl⟩
  · have E : Hid (digI r = false) := by unfold Hid digI; exact decide_eq_false (fun h => h1 h.1)
    go_enter Tryz.func78, Tryz.ntmps78
    go_wp2
    go_ret
    exact ⟨by rw [E.out]; rfl, rfl⟩
theorem skE_go (t : ByteArray) (i : Nat) (h : i < t.size) (hb : by8 t i = 32) : skE t i = skE t (i + 1) := by
  obtain ⟨b, hz⟩ : ∃ b, t.size = b + 1 := ⟨t.size - 1, by omega⟩
  unfold skE
  have h1 : spanP blI t t.size i = spanP blI t b (i + 1) := by
    rw [hz]
    exact spanP_go blI t b i h (by rw [← by8_eq t i h, hb]; rfl)
  rw [h1, spanP_fuel blI t b t.size (i + 1) (by omega) (by omega)]
theorem skE_stop (t : ByteArray) (i : Nat) (h : i < t.size) (hb : (by8 t i == 32) = false) : skE t i = i := spanP_stop blI t t.size i h (by rw [← by8_eq t i h]; exact hb)
theorem own_zero (w : World) (base : Nat) (h : base ≤ w.heap.size) : (w.alloc (.cells #[] 9)).ownsRow base 9 1 (.slice (some ⟨w.heap.size, 0, none⟩) 0 0) 0 [] := World.ownsRow_lit w #[] 0 h (Nat.zero_le _) rfl
theorem AnsL.emp {base : Nat} {k : Int} {w : World} {R : List ByteArray × Int} (h : R = ([], k)) (hb : base ≤ w.heap.size) : AnsL base R (.returned (.tuple #[.slice (some ⟨w.heap.size, 0, none⟩) 0 0, .int .i64 k])) (w.alloc (.cells #[] 9)) := by
  subst h
  exact ⟨some ⟨w.heap.size, 0, none⟩, 0, rfl, own_zero w base hb⟩
set_option maxRecDepth 100000 in
set_option maxHeartbeats 8000000 in
theorem c_l10Lex (t : ByteArray) (w : World) (hs2 : t.size ≤ 65536) : Calls Tryz.prog 38 #[.string t] w fun e w' => AnsL w.heap.size (lexG t (t.size + 1) (skE t 0) []) e w' ∧ Below w.heap.size w w' := by
  obtain ⟨R, hR⟩ : ∃ R, lexG t (t.size + 1) (skE t 0) [] = R := ⟨_, rfl⟩
  have HR : Hid (lexG t (t.size + 1) (skE t 0) [] = R) := hR
  rw [hR]
  obtain ⟨iI, giV, gz0, gz1, gz2⟩ := info_parts infoStr
  have hiI : Hid (Tryz.prog.info? 9 = some iI) := giV
  have hz0 : Hid (iI.zero = some (.string ⟨#[]⟩)) := gz0
  have hz1 : Hid (iI.size = 1) := gz1
  have hz2 : Hid (iI.bytes = 16) := gz2
  clear giV gz0 gz1 gz2 hR
  have O0 : Hid ((w.alloc (.cells #[] 9)).ownsRow w.heap.size 9 1 (.slice (some ⟨w.heap.size, 0, none⟩) 0 0) 0 (strs [])) := own_zero w w.heap.size (Nat.le_refl _)
  have B0 : Hid (Below w.heap.size w (w.alloc (.cells #[] 9))) := (Below.refl _ _).alloc (Nat.le_refl _) _
  go_enter Tryz.func38, Tryz.ntmps38
  go_wp2
  go_loopw [4, 5] (fun s x wr => ∃ (i b : Nat) (M : List ByteArray) (a : Option Addr) (cap : Nat), i ≤ t.size ∧ t.size < i + b ∧ M.length ≤ 500 ∧ s = .slice a M.length cap ∧ x = .int .i64 (i : Int) ∧ Hid (wr.ownsRow w.heap.size 9 1 (.slice a M.length cap) M.length (strs M)) ∧ Hid (lexG t b (skE t i) M = R) ∧ Hid (Below w.heap.size w wr)) (fun _ x _ => t.size - (intOf x).toNat)
  case atStart => exact ⟨0, t.size + 1, [], _, 0, by omega, by omega, by simp, rfl, rfl, O0, HR, B0⟩
  case round =>
    rename World => wo
    clear O0 B0 HR
    obtain ⟨i, b, M, a, cap, hi, hb, hM, rfl, rfl, O0, HG, B0⟩ := hrel
    by_cases hlt : i < t.size
    · have gi : (i : Int) < (t.size : Int) := by omega
      have gi0 : (0 : Int) ≤ (i : Int) := by omega
      obtain ⟨x, hx⟩ : ∃ x : Int, (((t[i]'hlt).toNat : Nat) : Int) = x := ⟨_, rfl⟩
      have hx8 : by8 t i = x := by rw [by8_eq t i hlt, hx]
      cases k32 : (x == 32)
      · have hsk : skE t i = i := skE_stop t i hlt (by rw [hx8]; exact k32)
        rw [hsk] at HG
        have CL := c_letB (t[i]'hlt) wo
        have CD := c_digS x wo
        rw [hx] at CL
        have TE : Hid (tokE t i = if lowI x then some (spanP lodI t t.size i) else if digI x then some (spanP digI t t.size i) else if x == 39 then (if spanP lowI t t.size (i + 1) < t.size then (if by8 t (spanP lowI t t.size (i + 1)) == 39 then some (spanP lowI t t.size (i + 1) + 1) else none) else none) else if sgI x then some (i + 1) else none) := by unfold Hid tokE; rw [hx8]
        have NONE : Hid (tokE t i = none → R = ([], 3)) := fun h => by
          obtain ⟨b', rfl⟩ : ∃ b', b = b' + 1 := ⟨b - 1, by omega⟩
          rw [← HG.out, lexG, if_pos hlt, h]
        have SOME : Hid (True) := trivial
        clear hsk hx8
        cases k1 : lowI x
        · rw [k1] at CL
          cases k2 : digI x
          · rw [k2] at CD
            cases k3 : (x == 39)
            · have TE2 : Hid (tokE t i = if sgI x then some (i + 1) else none) := by unfold Hid; rw [TE.out, k1, k2, k3]; rfl
              clear TE
              cases c40 : (x == 40)
              · skip
                cases c41 : (x == 41)
                · skip
                  cases c43 : (x == 43)
                  · skip
                    cases c45 : (x == 45)
                    · skip
                      cases c42 : (x == 42)
                      · skip
                        cases c47 : (x == 47)
                        · skip
                          cases c61 : (x == 61)
                          · skip
                            cases c60 : (x == 60)
                            · skip
                              cases c44 : (x == 44)
                              · skip
                                have E : Hid (R = ([], 3)) := NONE.out (by rw [TE2.out]; unfold sgI; rw [c40, c41, c43, c45, c42, c47, c61, c60, c44]; rfl)
                                clear NONE SOME HG TE2
                                go_wp2_with fail
                                refine CL.mono ?_
                                rintro e1 w1 ⟨rfl, hw1⟩
                                rw [hw1]
                                clear hw1 w1 CL
                                go_wp2_with fail
                                refine CD.mono ?_
                                rintro e1 w1 ⟨rfl, hw1⟩
                                rw [hw1]
                                clear hw1 w1 CD
                                go_wp2
                                go_ret2
                                exact ⟨AnsL.emp E.out B0.out.size, B0.out.alloc B0.out.size _⟩
                              · have HTK : Hid (tokE t i = some (i + 1)) := by unfold Hid; rw [TE2.out]; unfold sgI; rw [c40, c41, c43, c45, c42, c47, c61, c60, c44]; rfl
                                clear NONE SOME TE2
                                go_wp2_with fail
                                refine CL.mono ?_
                                rintro e1 w1 ⟨rfl, hw1⟩
                                rw [hw1]
                                clear hw1 w1 CL
                                go_wp2_with fail
                                refine CD.mono ?_
                                rintro e1 w1 ⟨rfl, hw1⟩
                                rw [hw1]
                                clear hw1 w1 CD
                                obtain ⟨h1, h2⟩ := tokE_in hlt HTK.out
                                have b1 : (0 : Int) ≤ (i : Int) := by omega
                                have b2 : (i : Int) ≤ ((i + 1) : Int) := by omega
                                have b3 : ((i + 1) : Int) ≤ (t.size : Int) := by omega
                                have hl : (M ++ [t.extract i (i + 1)]).length = M.length + 1 := by simp
                                have l1 : w.heap.size ≤ wo.heap.size := B0.out.size
                                by_cases hf : M.length = 500
                                · have E : Hid (R = ([], 6)) := by
                                    unfold Hid
                                    obtain ⟨b', rfl⟩ : ∃ b', b = b' + 1 := ⟨b - 1, by omega⟩
                                    rw [← HG.out, lexG, if_pos hlt, HTK.out]
                                    simp only [hf, if_true]
                                  have f5 : (500 : Int) < (M.length : Int) + 1 := by omega
                                  have f6 : M.length = 500 := hf
                                  clear HG HTK hf f6
                                  go_wp2_with (at_builtin; refine app_any _ rfl (.tmp 126) (.tmp 131) 44 rfl w.heap.size 9 iI (.string ⟨#[]⟩) 1 16 Tryz.underlying44 hiI.out hz0.out hz1.out hz2.out rfl (by omega) (.slice a M.length cap) M.length (strs M) rfl (own_below O0.out ((Below.refl _ _).alloc (Nat.le_refl _) _)) _ 1 1 [.string (t.extract i (i + 1))] rfl (fun ex => by cases ex) rfl (new_at _ _ _ (by simp)) (one_str _) (by unfold maxLen; omega) (by omega) (by simp; omega) ?_; intro a9 c9 w9 ho9 hg9 hx9)
                                  have B9 : Hid (Below w.heap.size w w9) := by
                                    rw [ob_slice] at hg9
                                    have hbl := own_blk O0.out
                                    refine B0.out.trans ?_
                                    refine ⟨hg9.os, hg9.tape, hg9.output, Nat.le_trans (by simp) hg9.size, fun j hj => ?_⟩
                                    rw [hg9.block j (by simp; omega) (fun e => by have := (hbl j e.symm).1; omega)]
                                    exact ((Below.refl wo.heap.size wo).alloc (Nat.le_refl _) _).block j (by omega)
                                  clear ho9 hg9 hx9
                                  go_wp2
                                  go_ret2
                                  exact ⟨AnsL.emp E.out B9.out.size, B9.out.alloc B9.out.size _⟩
                                · have E : Hid (lexG t (b - 1) (skE t (i + 1)) (M ++ [t.extract i (i + 1)]) = R) := by
                                    unfold Hid
                                    obtain ⟨b', rfl⟩ : ∃ b', b = b' + 1 := ⟨b - 1, by omega⟩
                                    rw [← HG.out, lexG, if_pos hlt, HTK.out]
                                    simp only [hf, if_false]
                                    rfl
                                  have f5 : ¬ (500 : Int) < (M.length : Int) + 1 := by omega
                                  clear HG HTK
                                  go_wp2_with (at_builtin; refine app_any _ rfl (.tmp 126) (.tmp 131) 44 rfl w.heap.size 9 iI (.string ⟨#[]⟩) 1 16 Tryz.underlying44 hiI.out hz0.out hz1.out hz2.out rfl (by omega) (.slice a M.length cap) M.length (strs M) rfl (own_below O0.out ((Below.refl _ _).alloc (Nat.le_refl _) _)) _ 1 1 [.string (t.extract i (i + 1))] rfl (fun ex => by cases ex) rfl (new_at _ _ _ (by simp)) (one_str _) (by unfold maxLen; omega) (by omega) (by simp; omega) ?_; intro a9 c9 w9 ho9 hg9 hx9)
                                  have B9 : Hid (Below w.heap.size w w9) := by
                                    rw [ob_slice] at hg9
                                    have hbl := own_blk O0.out
                                    refine B0.out.trans ?_
                                    refine ⟨hg9.os, hg9.tape, hg9.output, Nat.le_trans (by simp) hg9.size, fun j hj => ?_⟩
                                    rw [hg9.block j (by simp; omega) (fun e => by have := (hbl j e.symm).1; omega)]
                                    exact ((Below.refl wo.heap.size wo).alloc (Nat.le_refl _) _).block j (by omega)
                                  have O9 : Hid (w9.ownsRow w.heap.size 9 1 (.slice a9 (M ++ [t.extract i (i + 1)]).length c9) (M ++ [t.extract i (i + 1)]).length (strs (M ++ [t.extract i (i + 1)]))) := by
                                    unfold Hid
                                    rw [hl, strs_one]
                                    exact ho9
                                  clear ho9 hg9 hx9
                                  go_wp2
                                  go_roundw
                                  case rel => exact ⟨(i + 1), b - 1, M ++ [t.extract i (i + 1)], a9, c9, h2, by omega, by rw [hl]; omega, by rw [hl], rfl, O9, E, B9⟩
                                  case measure => simp [intOf]; omega
                            · have HTK : Hid (tokE t i = some (i + 1)) := by unfold Hid; rw [TE2.out]; unfold sgI; rw [c40, c41, c43, c45, c42, c47, c61, c60]; rfl
                              clear NONE SOME TE2
                              go_wp2_with fail
                              refine CL.mono ?_
                              rintro e1 w1 ⟨rfl, hw1⟩
                              rw [hw1]
                              clear hw1 w1 CL
                              go_wp2_with fail
                              refine CD.mono ?_
                              rintro e1 w1 ⟨rfl, hw1⟩
                              rw [hw1]
                              clear hw1 w1 CD
                              obtain ⟨h1, h2⟩ := tokE_in hlt HTK.out
                              have b1 : (0 : Int) ≤ (i : Int) := by omega
                              have b2 : (i : Int) ≤ ((i + 1) : Int) := by omega
                              have b3 : ((i + 1) : Int) ≤ (t.size : Int) := by omega
                              have hl : (M ++ [t.extract i (i + 1)]).length = M.length + 1 := by simp
                              have l1 : w.heap.size ≤ wo.heap.size := B0.out.size
                              by_cases hf : M.length = 500
                              · have E : Hid (R = ([], 6)) := by
                                  unfold Hid
                                  obtain ⟨b', rfl⟩ : ∃ b', b = b' + 1 := ⟨b - 1, by omega⟩
                                  rw [← HG.out, lexG, if_pos hlt, HTK.out]
                                  simp only [hf, if_true]
                                have f5 : (500 : Int) < (M.length : Int) + 1 := by omega
                                have f6 : M.length = 500 := hf
                                clear HG HTK hf f6
                                go_wp2_with (at_builtin; refine app_any _ rfl (.tmp 126) (.tmp 131) 44 rfl w.heap.size 9 iI (.string ⟨#[]⟩) 1 16 Tryz.underlying44 hiI.out hz0.out hz1.out hz2.out rfl (by omega) (.slice a M.length cap) M.length (strs M) rfl (own_below O0.out ((Below.refl _ _).alloc (Nat.le_refl _) _)) _ 1 1 [.string (t.extract i (i + 1))] rfl (fun ex => by cases ex) rfl (new_at _ _ _ (by simp)) (one_str _) (by unfold maxLen; omega) (by omega) (by simp; omega) ?_; intro a9 c9 w9 ho9 hg9 hx9)
                                have B9 : Hid (Below w.heap.size w w9) := by
                                  rw [ob_slice] at hg9
                                  have hbl := own_blk O0.out
                                  refine B0.out.trans ?_
                                  refine ⟨hg9.os, hg9.tape, hg9.output, Nat.le_trans (by simp) hg9.size, fun j hj => ?_⟩
                                  rw [hg9.block j (by simp; omega) (fun e => by have := (hbl j e.symm).1; omega)]
                                  exact ((Below.refl wo.heap.size wo).alloc (Nat.le_refl _) _).block j (by omega)
                                clear ho9 hg9 hx9
                                go_wp2
                                go_ret2
                                exact ⟨AnsL.emp E.out B9.out.size, B9.out.alloc B9.out.size _⟩
                              · have E : Hid (lexG t (b - 1) (skE t (i + 1)) (M ++ [t.extract i (i + 1)]) = R) := by
                                  unfold Hid
                                  obtain ⟨b', rfl⟩ : ∃ b', b = b' + 1 := ⟨b - 1, by omega⟩
                                  rw [← HG.out, lexG, if_pos hlt, HTK.out]
                                  simp only [hf, if_false]
                                  rfl
                                have f5 : ¬ (500 : Int) < (M.length : Int) + 1 := by omega
                                clear HG HTK
                                go_wp2_with (at_builtin; refine app_any _ rfl (.tmp 126) (.tmp 131) 44 rfl w.heap.size 9 iI (.string ⟨#[]⟩) 1 16 Tryz.underlying44 hiI.out hz0.out hz1.out hz2.out rfl (by omega) (.slice a M.length cap) M.length (strs M) rfl (own_below O0.out ((Below.refl _ _).alloc (Nat.le_refl _) _)) _ 1 1 [.string (t.extract i (i + 1))] rfl (fun ex => by cases ex) rfl (new_at _ _ _ (by simp)) (one_str _) (by unfold maxLen; omega) (by omega) (by simp; omega) ?_; intro a9 c9 w9 ho9 hg9 hx9)
                                have B9 : Hid (Below w.heap.size w w9) := by
                                  rw [ob_slice] at hg9
                                  have hbl := own_blk O0.out
                                  refine B0.out.trans ?_
                                  refine ⟨hg9.os, hg9.tape, hg9.output, Nat.le_trans (by simp) hg9.size, fun j hj => ?_⟩
                                  rw [hg9.block j (by simp; omega) (fun e => by have := (hbl j e.symm).1; omega)]
                                  exact ((Below.refl wo.heap.size wo).alloc (Nat.le_refl _) _).block j (by omega)
                                have O9 : Hid (w9.ownsRow w.heap.size 9 1 (.slice a9 (M ++ [t.extract i (i + 1)]).length c9) (M ++ [t.extract i (i + 1)]).length (strs (M ++ [t.extract i (i + 1)]))) := by
                                  unfold Hid
                                  rw [hl, strs_one]
                                  exact ho9
                                clear ho9 hg9 hx9
                                go_wp2
                                go_roundw
                                case rel => exact ⟨(i + 1), b - 1, M ++ [t.extract i (i + 1)], a9, c9, h2, by omega, by rw [hl]; omega, by rw [hl], rfl, O9, E, B9⟩
                                case measure => simp [intOf]; omega
                          · have HTK : Hid (tokE t i = some (i + 1)) := by unfold Hid; rw [TE2.out]; unfold sgI; rw [c40, c41, c43, c45, c42, c47, c61]; rfl
                            clear NONE SOME TE2
                            go_wp2_with fail
                            refine CL.mono ?_
                            rintro e1 w1 ⟨rfl, hw1⟩
                            rw [hw1]
                            clear hw1 w1 CL
                            go_wp2_with fail
                            refine CD.mono ?_
                            rintro e1 w1 ⟨rfl, hw1⟩
                            rw [hw1]
                            clear hw1 w1 CD
                            obtain ⟨h1, h2⟩ := tokE_in hlt HTK.out
                            have b1 : (0 : Int) ≤ (i : Int) := by omega
                            have b2 : (i : Int) ≤ ((i + 1) : Int) := by omega
                            have b3 : ((i + 1) : Int) ≤ (t.size : Int) := by omega
                            have hl : (M ++ [t.extract i (i + 1)]).length = M.length + 1 := by simp
                            have l1 : w.heap.size ≤ wo.heap.size := B0.out.size
                            by_cases hf : M.length = 500
                            · have E : Hid (R = ([], 6)) := by
                                unfold Hid
                                obtain ⟨b', rfl⟩ : ∃ b', b = b' + 1 := ⟨b - 1, by omega⟩
                                rw [← HG.out, lexG, if_pos hlt, HTK.out]
                                simp only [hf, if_true]
                              have f5 : (500 : Int) < (M.length : Int) + 1 := by omega
                              have f6 : M.length = 500 := hf
                              clear HG HTK hf f6
                              go_wp2_with (at_builtin; refine app_any _ rfl (.tmp 126) (.tmp 131) 44 rfl w.heap.size 9 iI (.string ⟨#[]⟩) 1 16 Tryz.underlying44 hiI.out hz0.out hz1.out hz2.out rfl (by omega) (.slice a M.length cap) M.length (strs M) rfl (own_below O0.out ((Below.refl _ _).alloc (Nat.le_refl _) _)) _ 1 1 [.string (t.extract i (i + 1))] rfl (fun ex => by cases ex) rfl (new_at _ _ _ (by simp)) (one_str _) (by unfold maxLen; omega) (by omega) (by simp; omega) ?_; intro a9 c9 w9 ho9 hg9 hx9)
                              have B9 : Hid (Below w.heap.size w w9) := by
                                rw [ob_slice] at hg9
                                have hbl := own_blk O0.out
                                refine B0.out.trans ?_
                                refine ⟨hg9.os, hg9.tape, hg9.output, Nat.le_trans (by simp) hg9.size, fun j hj => ?_⟩
                                rw [hg9.block j (by simp; omega) (fun e => by have := (hbl j e.symm).1; omega)]
                                exact ((Below.refl wo.heap.size wo).alloc (Nat.le_refl _) _).block j (by omega)
                              clear ho9 hg9 hx9
                              go_wp2
                              go_ret2
                              exact ⟨AnsL.emp E.out B9.out.size, B9.out.alloc B9.out.size _⟩
                            · have E : Hid (lexG t (b - 1) (skE t (i + 1)) (M ++ [t.extract i (i + 1)]) = R) := by
                                unfold Hid
                                obtain ⟨b', rfl⟩ : ∃ b', b = b' + 1 := ⟨b - 1, by omega⟩
                                rw [← HG.out, lexG, if_pos hlt, HTK.out]
                                simp only [hf, if_false]
                                rfl
                              have f5 : ¬ (500 : Int) < (M.length : Int) + 1 := by omega
                              clear HG HTK
                              go_wp2_with (at_builtin; refine app_any _ rfl (.tmp 126) (.tmp 131) 44 rfl w.heap.size 9 iI (.string ⟨#[]⟩) 1 16 Tryz.underlying44 hiI.out hz0.out hz1.out hz2.out rfl (by omega) (.slice a M.length cap) M.length (strs M) rfl (own_below O0.out ((Below.refl _ _).alloc (Nat.le_refl _) _)) _ 1 1 [.string (t.extract i (i + 1))] rfl (fun ex => by cases ex) rfl (new_at _ _ _ (by simp)) (one_str _) (by unfold maxLen; omega) (by omega) (by simp; omega) ?_; intro a9 c9 w9 ho9 hg9 hx9)
                              have B9 : Hid (Below w.heap.size w w9) := by
                                rw [ob_slice] at hg9
                                have hbl := own_blk O0.out
                                refine B0.out.trans ?_
                                refine ⟨hg9.os, hg9.tape, hg9.output, Nat.le_trans (by simp) hg9.size, fun j hj => ?_⟩
                                rw [hg9.block j (by simp; omega) (fun e => by have := (hbl j e.symm).1; omega)]
                                exact ((Below.refl wo.heap.size wo).alloc (Nat.le_refl _) _).block j (by omega)
                              have O9 : Hid (w9.ownsRow w.heap.size 9 1 (.slice a9 (M ++ [t.extract i (i + 1)]).length c9) (M ++ [t.extract i (i + 1)]).length (strs (M ++ [t.extract i (i + 1)]))) := by
                                unfold Hid
                                rw [hl, strs_one]
                                exact ho9
                              clear ho9 hg9 hx9
                              go_wp2
                              go_roundw
                              case rel => exact ⟨(i + 1), b - 1, M ++ [t.extract i (i + 1)], a9, c9, h2, by omega, by rw [hl]; omega, by rw [hl], rfl, O9, E, B9⟩
                              case measure => simp [intOf]; omega
                        · have HTK : Hid (tokE t i = some (i + 1)) := by unfold Hid; rw [TE2.out]; unfold sgI; rw [c40, c41, c43, c45, c42, c47]; rfl
                          clear NONE SOME TE2
                          go_wp2_with fail
                          refine CL.mono ?_
                          rintro e1 w1 ⟨rfl, hw1⟩
                          rw [hw1]
                          clear hw1 w1 CL
                          go_wp2_with fail
                          refine CD.mono ?_
                          rintro e1 w1 ⟨rfl, hw1⟩
                          rw [hw1]
                          clear hw1 w1 CD
                          obtain ⟨h1, h2⟩ := tokE_in hlt HTK.out
                          have b1 : (0 : Int) ≤ (i : Int) := by omega
                          have b2 : (i : Int) ≤ ((i + 1) : Int) := by omega
                          have b3 : ((i + 1) : Int) ≤ (t.size : Int) := by omega
                          have hl : (M ++ [t.extract i (i + 1)]).length = M.length + 1 := by simp
                          have l1 : w.heap.size ≤ wo.heap.size := B0.out.size
                          by_cases hf : M.length = 500
                          · have E : Hid (R = ([], 6)) := by
                              unfold Hid
                              obtain ⟨b', rfl⟩ : ∃ b', b = b' + 1 := ⟨b - 1, by omega⟩
                              rw [← HG.out, lexG, if_pos hlt, HTK.out]
                              simp only [hf, if_true]
                            have f5 : (500 : Int) < (M.length : Int) + 1 := by omega
                            have f6 : M.length = 500 := hf
                            clear HG HTK hf f6
                            go_wp2_with (at_builtin; refine app_any _ rfl (.tmp 126) (.tmp 131) 44 rfl w.heap.size 9 iI (.string ⟨#[]⟩) 1 16 Tryz.underlying44 hiI.out hz0.out hz1.out hz2.out rfl (by omega) (.slice a M.length cap) M.length (strs M) rfl (own_below O0.out ((Below.refl _ _).alloc (Nat.le_refl _) _)) _ 1 1 [.string (t.extract i (i + 1))] rfl (fun ex => by cases ex) rfl (new_at _ _ _ (by simp)) (one_str _) (by unfold maxLen; omega) (by omega) (by simp; omega) ?_; intro a9 c9 w9 ho9 hg9 hx9)
                            have B9 : Hid (Below w.heap.size w w9) := by
                              rw [ob_slice] at hg9
                              have hbl := own_blk O0.out
                              refine B0.out.trans ?_
                              refine ⟨hg9.os, hg9.tape, hg9.output, Nat.le_trans (by simp) hg9.size, fun j hj => ?_⟩
                              rw [hg9.block j (by simp; omega) (fun e => by have := (hbl j e.symm).1; omega)]
                              exact ((Below.refl wo.heap.size wo).alloc (Nat.le_refl _) _).block j (by omega)
                            clear ho9 hg9 hx9
                            go_wp2
                            go_ret2
                            exact ⟨AnsL.emp E.out B9.out.size, B9.out.alloc B9.out.size _⟩
                          · have E : Hid (lexG t (b - 1) (skE t (i + 1)) (M ++ [t.extract i (i + 1)]) = R) := by
                              unfold Hid
                              obtain ⟨b', rfl⟩ : ∃ b', b = b' + 1 := ⟨b - 1, by omega⟩
                              rw [← HG.out, lexG, if_pos hlt, HTK.out]
                              simp only [hf, if_false]
                              rfl
                            have f5 : ¬ (500 : Int) < (M.length : Int) + 1 := by omega
                            clear HG HTK
                            go_wp2_with (at_builtin; refine app_any _ rfl (.tmp 126) (.tmp 131) 44 rfl w.heap.size 9 iI (.string ⟨#[]⟩) 1 16 Tryz.underlying44 hiI.out hz0.out hz1.out hz2.out rfl (by omega) (.slice a M.length cap) M.length (strs M) rfl (own_below O0.out ((Below.refl _ _).alloc (Nat.le_refl _) _)) _ 1 1 [.string (t.extract i (i + 1))] rfl (fun ex => by cases ex) rfl (new_at _ _ _ (by simp)) (one_str _) (by unfold maxLen; omega) (by omega) (by simp; omega) ?_; intro a9 c9 w9 ho9 hg9 hx9)
                            have B9 : Hid (Below w.heap.size w w9) := by
                              rw [ob_slice] at hg9
                              have hbl := own_blk O0.out
                              refine B0.out.trans ?_
                              refine ⟨hg9.os, hg9.tape, hg9.output, Nat.le_trans (by simp) hg9.size, fun j hj => ?_⟩
                              rw [hg9.block j (by simp; omega) (fun e => by have := (hbl j e.symm).1; omega)]
                              exact ((Below.refl wo.heap.size wo).alloc (Nat.le_refl _) _).block j (by omega)
                            have O9 : Hid (w9.ownsRow w.heap.size 9 1 (.slice a9 (M ++ [t.extract i (i + 1)]).length c9) (M ++ [t.extract i (i + 1)]).length (strs (M ++ [t.extract i (i + 1)]))) := by
                              unfold Hid
                              rw [hl, strs_one]
                              exact ho9
                            clear ho9 hg9 hx9
                            go_wp2
                            go_roundw
                            case rel => exact ⟨(i + 1), b - 1, M ++ [t.extract i (i + 1)], a9, c9, h2, by omega, by rw [hl]; omega, by rw [hl], rfl, O9, E, B9⟩
                            case measure => simp [intOf]; omega
                      · have HTK : Hid (tokE t i = some (i + 1)) := by unfold Hid; rw [TE2.out]; unfold sgI; rw [c40, c41, c43, c45, c42]; rfl
                        clear NONE SOME TE2
                        go_wp2_with fail
                        refine CL.mono ?_
                        rintro e1 w1 ⟨rfl, hw1⟩
                        rw [hw1]
                        clear hw1 w1 CL
                        go_wp2_with fail
                        refine CD.mono ?_
                        rintro e1 w1 ⟨rfl, hw1⟩
                        rw [hw1]
                        clear hw1 w1 CD
                        obtain ⟨h1, h2⟩ := tokE_in hlt HTK.out
                        have b1 : (0 : Int) ≤ (i : Int) := by omega
                        have b2 : (i : Int) ≤ ((i + 1) : Int) := by omega
                        have b3 : ((i + 1) : Int) ≤ (t.size : Int) := by omega
                        have hl : (M ++ [t.extract i (i + 1)]).length = M.length + 1 := by simp
                        have l1 : w.heap.size ≤ wo.heap.size := B0.out.size
                        by_cases hf : M.length = 500
                        · have E : Hid (R = ([], 6)) := by
                            unfold Hid
                            obtain ⟨b', rfl⟩ : ∃ b', b = b' + 1 := ⟨b - 1, by omega⟩
                            rw [← HG.out, lexG, if_pos hlt, HTK.out]
                            simp only [hf, if_true]
                          have f5 : (500 : Int) < (M.length : Int) + 1 := by omega
                          have f6 : M.length = 500 := hf
                          clear HG HTK hf f6
                          go_wp2_with (at_builtin; refine app_any _ rfl (.tmp 126) (.tmp 131) 44 rfl w.heap.size 9 iI (.string ⟨#[]⟩) 1 16 Tryz.underlying44 hiI.out hz0.out hz1.out hz2.out rfl (by omega) (.slice a M.length cap) M.length (strs M) rfl (own_below O0.out ((Below.refl _ _).alloc (Nat.le_refl _) _)) _ 1 1 [.string (t.extract i (i + 1))] rfl (fun ex => by cases ex) rfl (new_at _ _ _ (by simp)) (one_str _) (by unfold maxLen; omega) (by omega) (by simp; omega) ?_; intro a9 c9 w9 ho9 hg9 hx9)
                          have B9 : Hid (Below w.heap.size w w9) := by
                            rw [ob_slice] at hg9
                            have hbl := own_blk O0.out
                            refine B0.out.trans ?_
                            refine ⟨hg9.os, hg9.tape, hg9.output, Nat.le_trans (by simp) hg9.size, fun j hj => ?_⟩
                            rw [hg9.block j (by simp; omega) (fun e => by have := (hbl j e.symm).1; omega)]
                            exact ((Below.refl wo.heap.size wo).alloc (Nat.le_refl _) _).block j (by omega)
                          clear ho9 hg9 hx9
                          go_wp2
                          go_ret2
                          exact ⟨AnsL.emp E.out B9.out.size, B9.out.alloc B9.out.size _⟩
                        · have E : Hid (lexG t (b - 1) (skE t (i + 1)) (M ++ [t.extract i (i + 1)]) = R) := by
                            unfold Hid
                            obtain ⟨b', rfl⟩ : ∃ b', b = b' + 1 := ⟨b - 1, by omega⟩
                            rw [← HG.out, lexG, if_pos hlt, HTK.out]
                            simp only [hf, if_false]
                            rfl
                          have f5 : ¬ (500 : Int) < (M.length : Int) + 1 := by omega
                          clear HG HTK
                          go_wp2_with (at_builtin; refine app_any _ rfl (.tmp 126) (.tmp 131) 44 rfl w.heap.size 9 iI (.string ⟨#[]⟩) 1 16 Tryz.underlying44 hiI.out hz0.out hz1.out hz2.out rfl (by omega) (.slice a M.length cap) M.length (strs M) rfl (own_below O0.out ((Below.refl _ _).alloc (Nat.le_refl _) _)) _ 1 1 [.string (t.extract i (i + 1))] rfl (fun ex => by cases ex) rfl (new_at _ _ _ (by simp)) (one_str _) (by unfold maxLen; omega) (by omega) (by simp; omega) ?_; intro a9 c9 w9 ho9 hg9 hx9)
                          have B9 : Hid (Below w.heap.size w w9) := by
                            rw [ob_slice] at hg9
                            have hbl := own_blk O0.out
                            refine B0.out.trans ?_
                            refine ⟨hg9.os, hg9.tape, hg9.output, Nat.le_trans (by simp) hg9.size, fun j hj => ?_⟩
                            rw [hg9.block j (by simp; omega) (fun e => by have := (hbl j e.symm).1; omega)]
                            exact ((Below.refl wo.heap.size wo).alloc (Nat.le_refl _) _).block j (by omega)
                          have O9 : Hid (w9.ownsRow w.heap.size 9 1 (.slice a9 (M ++ [t.extract i (i + 1)]).length c9) (M ++ [t.extract i (i + 1)]).length (strs (M ++ [t.extract i (i + 1)]))) := by
                            unfold Hid
                            rw [hl, strs_one]
                            exact ho9
                          clear ho9 hg9 hx9
                          go_wp2
                          go_roundw
                          case rel => exact ⟨(i + 1), b - 1, M ++ [t.extract i (i + 1)], a9, c9, h2, by omega, by rw [hl]; omega, by rw [hl], rfl, O9, E, B9⟩
                          case measure => simp [intOf]; omega
                    · have HTK : Hid (tokE t i = some (i + 1)) := by unfold Hid; rw [TE2.out]; unfold sgI; rw [c40, c41, c43, c45]; rfl
                      clear NONE SOME TE2
                      go_wp2_with fail
                      refine CL.mono ?_
                      rintro e1 w1 ⟨rfl, hw1⟩
                      rw [hw1]
                      clear hw1 w1 CL
                      go_wp2_with fail
                      refine CD.mono ?_
                      rintro e1 w1 ⟨rfl, hw1⟩
                      rw [hw1]
                      clear hw1 w1 CD
                      obtain ⟨h1, h2⟩ := tokE_in hlt HTK.out
                      have b1 : (0 : Int) ≤ (i : Int) := by omega
                      have b2 : (i : Int) ≤ ((i + 1) : Int) := by omega
                      have b3 : ((i + 1) : Int) ≤ (t.size : Int) := by omega
                      have hl : (M ++ [t.extract i (i + 1)]).length = M.length + 1 := by simp
                      have l1 : w.heap.size ≤ wo.heap.size := B0.out.size
                      by_cases hf : M.length = 500
                      · have E : Hid (R = ([], 6)) := by
                          unfold Hid
                          obtain ⟨b', rfl⟩ : ∃ b', b = b' + 1 := ⟨b - 1, by omega⟩
                          rw [← HG.out, lexG, if_pos hlt, HTK.out]
                          simp only [hf, if_true]
                        have f5 : (500 : Int) < (M.length : Int) + 1 := by omega
                        have f6 : M.length = 500 := hf
                        clear HG HTK hf f6
                        go_wp2_with (at_builtin; refine app_any _ rfl (.tmp 126) (.tmp 131) 44 rfl w.heap.size 9 iI (.string ⟨#[]⟩) 1 16 Tryz.underlying44 hiI.out hz0.out hz1.out hz2.out rfl (by omega) (.slice a M.length cap) M.length (strs M) rfl (own_below O0.out ((Below.refl _ _).alloc (Nat.le_refl _) _)) _ 1 1 [.string (t.extract i (i + 1))] rfl (fun ex => by cases ex) rfl (new_at _ _ _ (by simp)) (one_str _) (by unfold maxLen; omega) (by omega) (by simp; omega) ?_; intro a9 c9 w9 ho9 hg9 hx9)
                        have B9 : Hid (Below w.heap.size w w9) := by
                          rw [ob_slice] at hg9
                          have hbl := own_blk O0.out
                          refine B0.out.trans ?_
                          refine ⟨hg9.os, hg9.tape, hg9.output, Nat.le_trans (by simp) hg9.size, fun j hj => ?_⟩
                          rw [hg9.block j (by simp; omega) (fun e => by have := (hbl j e.symm).1; omega)]
                          exact ((Below.refl wo.heap.size wo).alloc (Nat.le_refl _) _).block j (by omega)
                        clear ho9 hg9 hx9
                        go_wp2
                        go_ret2
                        exact ⟨AnsL.emp E.out B9.out.size, B9.out.alloc B9.out.size _⟩
                      · have E : Hid (lexG t (b - 1) (skE t (i + 1)) (M ++ [t.extract i (i + 1)]) = R) := by
                          unfold Hid
                          obtain ⟨b', rfl⟩ : ∃ b', b = b' + 1 := ⟨b - 1, by omega⟩
                          rw [← HG.out, lexG, if_pos hlt, HTK.out]
                          simp only [hf, if_false]
                          rfl
                        have f5 : ¬ (500 : Int) < (M.length : Int) + 1 := by omega
                        clear HG HTK
                        go_wp2_with (at_builtin; refine app_any _ rfl (.tmp 126) (.tmp 131) 44 rfl w.heap.size 9 iI (.string ⟨#[]⟩) 1 16 Tryz.underlying44 hiI.out hz0.out hz1.out hz2.out rfl (by omega) (.slice a M.length cap) M.length (strs M) rfl (own_below O0.out ((Below.refl _ _).alloc (Nat.le_refl _) _)) _ 1 1 [.string (t.extract i (i + 1))] rfl (fun ex => by cases ex) rfl (new_at _ _ _ (by simp)) (one_str _) (by unfold maxLen; omega) (by omega) (by simp; omega) ?_; intro a9 c9 w9 ho9 hg9 hx9)
                        have B9 : Hid (Below w.heap.size w w9) := by
                          rw [ob_slice] at hg9
                          have hbl := own_blk O0.out
                          refine B0.out.trans ?_
                          refine ⟨hg9.os, hg9.tape, hg9.output, Nat.le_trans (by simp) hg9.size, fun j hj => ?_⟩
                          rw [hg9.block j (by simp; omega) (fun e => by have := (hbl j e.symm).1; omega)]
                          exact ((Below.refl wo.heap.size wo).alloc (Nat.le_refl _) _).block j (by omega)
                        have O9 : Hid (w9.ownsRow w.heap.size 9 1 (.slice a9 (M ++ [t.extract i (i + 1)]).length c9) (M ++ [t.extract i (i + 1)]).length (strs (M ++ [t.extract i (i + 1)]))) := by
                          unfold Hid
                          rw [hl, strs_one]
                          exact ho9
                        clear ho9 hg9 hx9
                        go_wp2
                        go_roundw
                        case rel => exact ⟨(i + 1), b - 1, M ++ [t.extract i (i + 1)], a9, c9, h2, by omega, by rw [hl]; omega, by rw [hl], rfl, O9, E, B9⟩
                        case measure => simp [intOf]; omega
                  · have HTK : Hid (tokE t i = some (i + 1)) := by unfold Hid; rw [TE2.out]; unfold sgI; rw [c40, c41, c43]; rfl
                    clear NONE SOME TE2
                    go_wp2_with fail
                    refine CL.mono ?_
                    rintro e1 w1 ⟨rfl, hw1⟩
                    rw [hw1]
                    clear hw1 w1 CL
                    go_wp2_with fail
                    refine CD.mono ?_
                    rintro e1 w1 ⟨rfl, hw1⟩
                    rw [hw1]
                    clear hw1 w1 CD
                    obtain ⟨h1, h2⟩ := tokE_in hlt HTK.out
                    have b1 : (0 : Int) ≤ (i : Int) := by omega
                    have b2 : (i : Int) ≤ ((i + 1) : Int) := by omega
                    have b3 : ((i + 1) : Int) ≤ (t.size : Int) := by omega
                    have hl : (M ++ [t.extract i (i + 1)]).length = M.length + 1 := by simp
                    have l1 : w.heap.size ≤ wo.heap.size := B0.out.size
                    by_cases hf : M.length = 500
                    · have E : Hid (R = ([], 6)) := by
                        unfold Hid
                        obtain ⟨b', rfl⟩ : ∃ b', b = b' + 1 := ⟨b - 1, by omega⟩
                        rw [← HG.out, lexG, if_pos hlt, HTK.out]
                        simp only [hf, if_true]
                      have f5 : (500 : Int) < (M.length : Int) + 1 := by omega
                      have f6 : M.length = 500 := hf
                      clear HG HTK hf f6
                      go_wp2_with (at_builtin; refine app_any _ rfl (.tmp 126) (.tmp 131) 44 rfl w.heap.size 9 iI (.string ⟨#[]⟩) 1 16 Tryz.underlying44 hiI.out hz0.out hz1.out hz2.out rfl (by omega) (.slice a M.length cap) M.length (strs M) rfl (own_below O0.out ((Below.refl _ _).alloc (Nat.le_refl _) _)) _ 1 1 [.string (t.extract i (i + 1))] rfl (fun ex => by cases ex) rfl (new_at _ _ _ (by simp)) (one_str _) (by unfold maxLen; omega) (by omega) (by simp; omega) ?_; intro a9 c9 w9 ho9 hg9 hx9)
                      have B9 : Hid (Below w.heap.size w w9) := by
                        rw [ob_slice] at hg9
                        have hbl := own_blk O0.out
                        refine B0.out.trans ?_
                        refine ⟨hg9.os, hg9.tape, hg9.output, Nat.le_trans (by simp) hg9.size, fun j hj => ?_⟩
                        rw [hg9.block j (by simp; omega) (fun e => by have := (hbl j e.symm).1; omega)]
                        exact ((Below.refl wo.heap.size wo).alloc (Nat.le_refl _) _).block j (by omega)
                      clear ho9 hg9 hx9
                      go_wp2
                      go_ret2
                      exact ⟨AnsL.emp E.out B9.out.size, B9.out.alloc B9.out.size _⟩
                    · have E : Hid (lexG t (b - 1) (skE t (i + 1)) (M ++ [t.extract i (i + 1)]) = R) := by
                        unfold Hid
                        obtain ⟨b', rfl⟩ : ∃ b', b = b' + 1 := ⟨b - 1, by omega⟩
                        rw [← HG.out, lexG, if_pos hlt, HTK.out]
                        simp only [hf, if_false]
                        rfl
                      have f5 : ¬ (500 : Int) < (M.length : Int) + 1 := by omega
                      clear HG HTK
                      go_wp2_with (at_builtin; refine app_any _ rfl (.tmp 126) (.tmp 131) 44 rfl w.heap.size 9 iI (.string ⟨#[]⟩) 1 16 Tryz.underlying44 hiI.out hz0.out hz1.out hz2.out rfl (by omega) (.slice a M.length cap) M.length (strs M) rfl (own_below O0.out ((Below.refl _ _).alloc (Nat.le_refl _) _)) _ 1 1 [.string (t.extract i (i + 1))] rfl (fun ex => by cases ex) rfl (new_at _ _ _ (by simp)) (one_str _) (by unfold maxLen; omega) (by omega) (by simp; omega) ?_; intro a9 c9 w9 ho9 hg9 hx9)
                      have B9 : Hid (Below w.heap.size w w9) := by
                        rw [ob_slice] at hg9
                        have hbl := own_blk O0.out
                        refine B0.out.trans ?_
                        refine ⟨hg9.os, hg9.tape, hg9.output, Nat.le_trans (by simp) hg9.size, fun j hj => ?_⟩
                        rw [hg9.block j (by simp; omega) (fun e => by have := (hbl j e.symm).1; omega)]
                        exact ((Below.refl wo.heap.size wo).alloc (Nat.le_refl _) _).block j (by omega)
                      have O9 : Hid (w9.ownsRow w.heap.size 9 1 (.slice a9 (M ++ [t.extract i (i + 1)]).length c9) (M ++ [t.extract i (i + 1)]).length (strs (M ++ [t.extract i (i + 1)]))) := by
                        unfold Hid
                        rw [hl, strs_one]
                        exact ho9
                      clear ho9 hg9 hx9
                      go_wp2
                      go_roundw
                      case rel => exact ⟨(i + 1), b - 1, M ++ [t.extract i (i + 1)], a9, c9, h2, by omega, by rw [hl]; omega, by rw [hl], rfl, O9, E, B9⟩
                      case measure => simp [intOf]; omega
                · have HTK : Hid (tokE t i = some (i + 1)) := by unfold Hid; rw [TE2.out]; unfold sgI; rw [c40, c41]; rfl
                  clear NONE SOME TE2
                  go_wp2_with fail
                  refine CL.mono ?_
                  rintro e1 w1 ⟨rfl, hw1⟩
                  rw [hw1]
                  clear hw1 w1 CL
                  go_wp2_with fail
                  refine CD.mono ?_
                  rintro e1 w1 ⟨rfl, hw1⟩
                  rw [hw1]
                  clear hw1 w1 CD
                  obtain ⟨h1, h2⟩ := tokE_in hlt HTK.out
                  have b1 : (0 : Int) ≤ (i : Int) := by omega
                  have b2 : (i : Int) ≤ ((i + 1) : Int) := by omega
                  have b3 : ((i + 1) : Int) ≤ (t.size : Int) := by omega
                  have hl : (M ++ [t.extract i (i + 1)]).length = M.length + 1 := by simp
                  have l1 : w.heap.size ≤ wo.heap.size := B0.out.size
                  by_cases hf : M.length = 500
                  · have E : Hid (R = ([], 6)) := by
                      unfold Hid
                      obtain ⟨b', rfl⟩ : ∃ b', b = b' + 1 := ⟨b - 1, by omega⟩
                      rw [← HG.out, lexG, if_pos hlt, HTK.out]
                      simp only [hf, if_true]
                    have f5 : (500 : Int) < (M.length : Int) + 1 := by omega
                    have f6 : M.length = 500 := hf
                    clear HG HTK hf f6
                    go_wp2_with (at_builtin; refine app_any _ rfl (.tmp 126) (.tmp 131) 44 rfl w.heap.size 9 iI (.string ⟨#[]⟩) 1 16 Tryz.underlying44 hiI.out hz0.out hz1.out hz2.out rfl (by omega) (.slice a M.length cap) M.length (strs M) rfl (own_below O0.out ((Below.refl _ _).alloc (Nat.le_refl _) _)) _ 1 1 [.string (t.extract i (i + 1))] rfl (fun ex => by cases ex) rfl (new_at _ _ _ (by simp)) (one_str _) (by unfold maxLen; omega) (by omega) (by simp; omega) ?_; intro a9 c9 w9 ho9 hg9 hx9)
                    have B9 : Hid (Below w.heap.size w w9) := by
                      rw [ob_slice] at hg9
                      have hbl := own_blk O0.out
                      refine B0.out.trans ?_
                      refine ⟨hg9.os, hg9.tape, hg9.output, Nat.le_trans (by simp) hg9.size, fun j hj => ?_⟩
                      rw [hg9.block j (by simp; omega) (fun e => by have := (hbl j e.symm).1; omega)]
                      exact ((Below.refl wo.heap.size wo).alloc (Nat.le_refl _) _).block j (by omega)
                    clear ho9 hg9 hx9
                    go_wp2
                    go_ret2
                    exact ⟨AnsL.emp E.out B9.out.size, B9.out.alloc B9.out.size _⟩
                  · have E : Hid (lexG t (b - 1) (skE t (i + 1)) (M ++ [t.extract i (i + 1)]) = R) := by
                      unfold Hid
                      obtain ⟨b', rfl⟩ : ∃ b', b = b' + 1 := ⟨b - 1, by omega⟩
                      rw [← HG.out, lexG, if_pos hlt, HTK.out]
                      simp only [hf, if_false]
                      rfl
                    have f5 : ¬ (500 : Int) < (M.length : Int) + 1 := by omega
                    clear HG HTK
                    go_wp2_with (at_builtin; refine app_any _ rfl (.tmp 126) (.tmp 131) 44 rfl w.heap.size 9 iI (.string ⟨#[]⟩) 1 16 Tryz.underlying44 hiI.out hz0.out hz1.out hz2.out rfl (by omega) (.slice a M.length cap) M.length (strs M) rfl (own_below O0.out ((Below.refl _ _).alloc (Nat.le_refl _) _)) _ 1 1 [.string (t.extract i (i + 1))] rfl (fun ex => by cases ex) rfl (new_at _ _ _ (by simp)) (one_str _) (by unfold maxLen; omega) (by omega) (by simp; omega) ?_; intro a9 c9 w9 ho9 hg9 hx9)
                    have B9 : Hid (Below w.heap.size w w9) := by
                      rw [ob_slice] at hg9
                      have hbl := own_blk O0.out
                      refine B0.out.trans ?_
                      refine ⟨hg9.os, hg9.tape, hg9.output, Nat.le_trans (by simp) hg9.size, fun j hj => ?_⟩
                      rw [hg9.block j (by simp; omega) (fun e => by have := (hbl j e.symm).1; omega)]
                      exact ((Below.refl wo.heap.size wo).alloc (Nat.le_refl _) _).block j (by omega)
                    have O9 : Hid (w9.ownsRow w.heap.size 9 1 (.slice a9 (M ++ [t.extract i (i + 1)]).length c9) (M ++ [t.extract i (i + 1)]).length (strs (M ++ [t.extract i (i + 1)]))) := by
                      unfold Hid
                      rw [hl, strs_one]
                      exact ho9
                    clear ho9 hg9 hx9
                    go_wp2
                    go_roundw
                    case rel => exact ⟨(i + 1), b - 1, M ++ [t.extract i (i + 1)], a9, c9, h2, by omega, by rw [hl]; omega, by rw [hl], rfl, O9, E, B9⟩
                    case measure => simp [intOf]; omega
              · have HTK : Hid (tokE t i = some (i + 1)) := by unfold Hid; rw [TE2.out]; unfold sgI; rw [c40]; rfl
                clear NONE SOME TE2
                go_wp2_with fail
                refine CL.mono ?_
                rintro e1 w1 ⟨rfl, hw1⟩
                rw [hw1]
                clear hw1 w1 CL
                go_wp2_with fail
                refine CD.mono ?_
                rintro e1 w1 ⟨rfl, hw1⟩
                rw [hw1]
                clear hw1 w1 CD
                obtain ⟨h1, h2⟩ := tokE_in hlt HTK.out
                have b1 : (0 : Int) ≤ (i : Int) := by omega
                have b2 : (i : Int) ≤ ((i + 1) : Int) := by omega
                have b3 : ((i + 1) : Int) ≤ (t.size : Int) := by omega
                have hl : (M ++ [t.extract i (i + 1)]).length = M.length + 1 := by simp
                have l1 : w.heap.size ≤ wo.heap.size := B0.out.size
                by_cases hf : M.length = 500
                · have E : Hid (R = ([], 6)) := by
                    unfold Hid
                    obtain ⟨b', rfl⟩ : ∃ b', b = b' + 1 := ⟨b - 1, by omega⟩
                    rw [← HG.out, lexG, if_pos hlt, HTK.out]
                    simp only [hf, if_true]
                  have f5 : (500 : Int) < (M.length : Int) + 1 := by omega
                  have f6 : M.length = 500 := hf
                  clear HG HTK hf f6
                  go_wp2_with (at_builtin; refine app_any _ rfl (.tmp 126) (.tmp 131) 44 rfl w.heap.size 9 iI (.string ⟨#[]⟩) 1 16 Tryz.underlying44 hiI.out hz0.out hz1.out hz2.out rfl (by omega) (.slice a M.length cap) M.length (strs M) rfl (own_below O0.out ((Below.refl _ _).alloc (Nat.le_refl _) _)) _ 1 1 [.string (t.extract i (i + 1))] rfl (fun ex => by cases ex) rfl (new_at _ _ _ (by simp)) (one_str _) (by unfold maxLen; omega) (by omega) (by simp; omega) ?_; intro a9 c9 w9 ho9 hg9 hx9)
                  have B9 : Hid (Below w.heap.size w w9) := by
                    rw [ob_slice] at hg9
                    have hbl := own_blk O0.out
                    refine B0.out.trans ?_
                    refine ⟨hg9.os, hg9.tape, hg9.output, Nat.le_trans (by simp) hg9.size, fun j hj => ?_⟩
                    rw [hg9.block j (by simp; omega) (fun e => by have := (hbl j e.symm).1; omega)]
                    exact ((Below.refl wo.heap.size wo).alloc (Nat.le_refl _) _).block j (by omega)
                  clear ho9 hg9 hx9
                  go_wp2
                  go_ret2
                  exact ⟨AnsL.emp E.out B9.out.size, B9.out.alloc B9.out.size _⟩
                · have E : Hid (lexG t (b - 1) (skE t (i + 1)) (M ++ [t.extract i (i + 1)]) = R) := by
                    unfold Hid
                    obtain ⟨b', rfl⟩ : ∃ b', b = b' + 1 := ⟨b - 1, by omega⟩
                    rw [← HG.out, lexG, if_pos hlt, HTK.out]
                    simp only [hf, if_false]
                    rfl
                  have f5 : ¬ (500 : Int) < (M.length : Int) + 1 := by omega
                  clear HG HTK
                  go_wp2_with (at_builtin; refine app_any _ rfl (.tmp 126) (.tmp 131) 44 rfl w.heap.size 9 iI (.string ⟨#[]⟩) 1 16 Tryz.underlying44 hiI.out hz0.out hz1.out hz2.out rfl (by omega) (.slice a M.length cap) M.length (strs M) rfl (own_below O0.out ((Below.refl _ _).alloc (Nat.le_refl _) _)) _ 1 1 [.string (t.extract i (i + 1))] rfl (fun ex => by cases ex) rfl (new_at _ _ _ (by simp)) (one_str _) (by unfold maxLen; omega) (by omega) (by simp; omega) ?_; intro a9 c9 w9 ho9 hg9 hx9)
                  have B9 : Hid (Below w.heap.size w w9) := by
                    rw [ob_slice] at hg9
                    have hbl := own_blk O0.out
                    refine B0.out.trans ?_
                    refine ⟨hg9.os, hg9.tape, hg9.output, Nat.le_trans (by simp) hg9.size, fun j hj => ?_⟩
                    rw [hg9.block j (by simp; omega) (fun e => by have := (hbl j e.symm).1; omega)]
                    exact ((Below.refl wo.heap.size wo).alloc (Nat.le_refl _) _).block j (by omega)
                  have O9 : Hid (w9.ownsRow w.heap.size 9 1 (.slice a9 (M ++ [t.extract i (i + 1)]).length c9) (M ++ [t.extract i (i + 1)]).length (strs (M ++ [t.extract i (i + 1)]))) := by
                    unfold Hid
                    rw [hl, strs_one]
                    exact ho9
                  clear ho9 hg9 hx9
                  go_wp2
                  go_roundw
                  case rel => exact ⟨(i + 1), b - 1, M ++ [t.extract i (i + 1)], a9, c9, h2, by omega, by rw [hl]; omega, by rw [hl], rfl, O9, E, B9⟩
                  case measure => simp [intOf]; omega
            · obtain ⟨e, he⟩ : ∃ e, spanP lowI t t.size (i + 1) = e := ⟨_, rfl⟩
              have HE : Hid (spanP lowI t t.size (i + 1) = e) := he
              have HF : Hid (tokE t i = if e < t.size then (if by8 t e == 39 then some (e + 1) else none) else none) := by unfold Hid; rw [TE.out, k1, k2, k3, he]; rfl
              have hwp : IntKind.i64.wrap ((i : Int) + 1) = (i : Int) + 1 := by rw [IntKind.wrap_i64]; omega
              clear TE he k1 k2
              go_wp2_with fail
              refine CL.mono ?_
              rintro e1 w1 ⟨rfl, hw1⟩
              rw [hw1]
              clear hw1 w1 CL
              go_wp2_with fail
              refine CD.mono ?_
              rintro e1 w1 ⟨rfl, hw1⟩
              rw [hw1]
              clear hw1 w1 CD
              go_wp2_with fail
              go_loopw [5] (fun x wi => ∃ (j bb : Nat), j ≤ t.size ∧ x = .int .i64 (j : Int) ∧ wi = wo ∧ Hid (spanP lowI t bb j = e) ∧ t.size ≤ j + bb) (fun x _ => t.size - (intOf x).toNat)
              case atStart => exact ⟨(i + 1), t.size, by omega, by first | rfl | go_num, rfl, HE.out, by omega⟩
              case round =>
                obtain ⟨j, bb, hj, rfl, hwi, HJ, hbb⟩ := hrel
                rw [hwi]
                clear hwi HE
                by_cases hjl : j < t.size
                · have gj : (j : Int) < (t.size : Int) := by omega
                  have gj0 : (0 : Int) ≤ (j : Int) := by omega
                  obtain ⟨y, hy⟩ : ∃ y : Int, (((t[j]'hjl).toNat : Nat) : Int) = y := ⟨_, rfl⟩
                  have CY := c_letB (t[j]'hjl) wo
                  have CZ := c_digS y wo
                  rw [hy] at CY
                  have STOP : Hid (lowI y = false → j = e) := fun h => by rw [← HJ.out, spanP_stop lowI t bb j hjl (by rw [hy]; exact h)]
                  have GO : Hid (lowI y = true → spanP lowI t (bb - 1) (j + 1) = e) := fun h => by
                    obtain ⟨b', rfl⟩ : ∃ b', bb = b' + 1 := ⟨bb - 1, by omega⟩
                    rw [← HJ.out, spanP_go lowI t b' j hjl (by rw [hy]; exact h)]
                    rfl
                  clear HJ
                  cases q1 : lowI y
                  · rw [q1] at CY
                    have HP : Hid (lowI y = false) := q1
                    clear q1
                    go_wp2_with fail
                    refine CY.mono ?_
                    rintro e1 w1 ⟨rfl, hw1⟩
                    rw [hw1]
                    clear hw1 w1 CY
                    have hje := STOP.out HP.out
                    subst hje
                    clear STOP GO HP
                    clear hy
                    have hjq := hjl
                    · have gq : (j : Int) < (t.size : Int) := by omega
                      have gq0 : (0 : Int) ≤ (j : Int) := by omega
                      have ne : ((j : Int) == (t.size : Int)) = false := by simp; omega
                      obtain ⟨z, hz⟩ : ∃ z : Int, (((t[j]'hjq).toNat : Nat) : Int) = z := ⟨_, rfl⟩
                      have hz8 : by8 t j = z := by rw [by8_eq t j hjq, hz]
                      cases k9 : (z == 39)
                      · have k8 : (z != 39) = true := by simpa using k9
                        have E : Hid (R = ([], 3)) := NONE.out (by rw [HF.out, if_pos hjq, hz8, k9]; rfl)
                        clear NONE SOME HG HF k9 hz8
                        go_wp2
                        go_ret2
                        exact ⟨AnsL.emp E.out B0.out.size, B0.out.alloc B0.out.size _⟩
                      · have k8 : (z != 39) = false := by simpa using k9
                        have HTK : Hid (tokE t i = some (j + 1)) := by unfold Hid; rw [HF.out, if_pos hjq, hz8, k9]; rfl
                        have hcast : ((j + 1 : Nat) : Int) = (j : Int) + 1 := rfl
                        clear NONE SOME HF k9 hz8 hcast
                        obtain ⟨h1, h2⟩ := tokE_in hlt HTK.out
                        have b1 : (0 : Int) ≤ (i : Int) := by omega
                        have b2 : (i : Int) ≤ ((j + 1) : Int) := by omega
                        have b3 : ((j + 1) : Int) ≤ (t.size : Int) := by omega
                        have hl : (M ++ [t.extract i (j + 1)]).length = M.length + 1 := by simp
                        have l1 : w.heap.size ≤ wo.heap.size := B0.out.size
                        by_cases hf : M.length = 500
                        · have E : Hid (R = ([], 6)) := by
                            unfold Hid
                            obtain ⟨b', rfl⟩ : ∃ b', b = b' + 1 := ⟨b - 1, by omega⟩
                            rw [← HG.out, lexG, if_pos hlt, HTK.out]
                            simp only [hf, if_true]
                          have f5 : (500 : Int) < (M.length : Int) + 1 := by omega
                          have f6 : M.length = 500 := hf
                          clear HG HTK hf f6
                          go_wp2_with (at_builtin; refine app_any _ rfl (.tmp 126) (.tmp 131) 44 rfl w.heap.size 9 iI (.string ⟨#[]⟩) 1 16 Tryz.underlying44 hiI.out hz0.out hz1.out hz2.out rfl (by omega) (.slice a M.length cap) M.length (strs M) rfl (own_below O0.out ((Below.refl _ _).alloc (Nat.le_refl _) _)) _ 1 1 [.string (t.extract i (j + 1))] rfl (fun ex => by cases ex) rfl (new_at _ _ _ (by simp)) (one_str _) (by unfold maxLen; omega) (by omega) (by simp; omega) ?_; intro a9 c9 w9 ho9 hg9 hx9)
                          have B9 : Hid (Below w.heap.size w w9) := by
                            rw [ob_slice] at hg9
                            have hbl := own_blk O0.out
                            refine B0.out.trans ?_
                            refine ⟨hg9.os, hg9.tape, hg9.output, Nat.le_trans (by simp) hg9.size, fun j hj => ?_⟩
                            rw [hg9.block j (by simp; omega) (fun e => by have := (hbl j e.symm).1; omega)]
                            exact ((Below.refl wo.heap.size wo).alloc (Nat.le_refl _) _).block j (by omega)
                          clear ho9 hg9 hx9
                          go_wp2
                          go_ret2
                          exact ⟨AnsL.emp E.out B9.out.size, B9.out.alloc B9.out.size _⟩
                        · have E : Hid (lexG t (b - 1) (skE t (j + 1)) (M ++ [t.extract i (j + 1)]) = R) := by
                            unfold Hid
                            obtain ⟨b', rfl⟩ : ∃ b', b = b' + 1 := ⟨b - 1, by omega⟩
                            rw [← HG.out, lexG, if_pos hlt, HTK.out]
                            simp only [hf, if_false]
                            rfl
                          have f5 : ¬ (500 : Int) < (M.length : Int) + 1 := by omega
                          clear HG HTK
                          go_wp2_with (at_builtin; refine app_any _ rfl (.tmp 126) (.tmp 131) 44 rfl w.heap.size 9 iI (.string ⟨#[]⟩) 1 16 Tryz.underlying44 hiI.out hz0.out hz1.out hz2.out rfl (by omega) (.slice a M.length cap) M.length (strs M) rfl (own_below O0.out ((Below.refl _ _).alloc (Nat.le_refl _) _)) _ 1 1 [.string (t.extract i (j + 1))] rfl (fun ex => by cases ex) rfl (new_at _ _ _ (by simp)) (one_str _) (by unfold maxLen; omega) (by omega) (by simp; omega) ?_; intro a9 c9 w9 ho9 hg9 hx9)
                          have B9 : Hid (Below w.heap.size w w9) := by
                            rw [ob_slice] at hg9
                            have hbl := own_blk O0.out
                            refine B0.out.trans ?_
                            refine ⟨hg9.os, hg9.tape, hg9.output, Nat.le_trans (by simp) hg9.size, fun j hj => ?_⟩
                            rw [hg9.block j (by simp; omega) (fun e => by have := (hbl j e.symm).1; omega)]
                            exact ((Below.refl wo.heap.size wo).alloc (Nat.le_refl _) _).block j (by omega)
                          have O9 : Hid (w9.ownsRow w.heap.size 9 1 (.slice a9 (M ++ [t.extract i (j + 1)]).length c9) (M ++ [t.extract i (j + 1)]).length (strs (M ++ [t.extract i (j + 1)]))) := by
                            unfold Hid
                            rw [hl, strs_one]
                            exact ho9
                          clear ho9 hg9 hx9
                          go_wp2
                          go_roundw
                          case rel => exact ⟨(j + 1), b - 1, M ++ [t.extract i (j + 1)], a9, c9, h2, by omega, by rw [hl]; omega, by rw [hl], rfl, O9, E, B9⟩
                          case measure => simp [intOf]; omega
                  · rw [q1] at CY
                    have HP : Hid (lowI y = true) := q1
                    clear q1
                    go_wp2_with fail
                    refine CY.mono ?_
                    rintro e1 w1 ⟨rfl, hw1⟩
                    rw [hw1]
                    clear hw1 w1 CY
                    go_wp2
                    go_roundw
                    case rel => exact ⟨j + 1, bb - 1, by omega, by go_num, by first | rfl | trivial, GO.out HP.out, by omega⟩
                    case measure => simp [intOf]; omega
                · have hje : j = e := by rw [← HJ.out, spanP_end lowI t bb j hjl]
                  have gj : ¬ (j : Int) < (t.size : Int) := by omega
                  clear HJ
                  subst hje
                  have ne : ((j : Int) == (t.size : Int)) = true := by simp; omega
                  have E : Hid (R = ([], 3)) := NONE.out (by rw [HF.out, if_neg hjl])
                  clear NONE SOME HG HF
                  go_wp2
                  go_ret2
                  exact ⟨AnsL.emp E.out B0.out.size, B0.out.alloc B0.out.size _⟩
          · rw [k2] at CD
            obtain ⟨e, he⟩ : ∃ e, spanP digI t t.size i = e := ⟨_, rfl⟩
            have HE : Hid (spanP digI t t.size i = e) := he
            have HTK : Hid (tokE t i = some e) := by unfold Hid; rw [TE.out, k1, k2, he]; rfl
            clear TE NONE SOME he k1 k2
            go_wp2_with fail
            refine CL.mono ?_
            rintro e1 w1 ⟨rfl, hw1⟩
            rw [hw1]
            clear hw1 w1 CL
            go_wp2_with fail
            refine CD.mono ?_
            rintro e1 w1 ⟨rfl, hw1⟩
            rw [hw1]
            clear hw1 w1 CD
            go_wp2_with fail
            go_loopw [5] (fun x wi => ∃ (j bb : Nat), j ≤ t.size ∧ x = .int .i64 (j : Int) ∧ wi = wo ∧ Hid (spanP digI t bb j = e) ∧ t.size ≤ j + bb) (fun x _ => t.size - (intOf x).toNat)
            case atStart => exact ⟨i, t.size, by omega, by first | rfl | go_num, rfl, HE.out, by omega⟩
            case round =>
              obtain ⟨j, bb, hj, rfl, hwi, HJ, hbb⟩ := hrel
              rw [hwi]
              clear hwi HE
              by_cases hjl : j < t.size
              · have gj : (j : Int) < (t.size : Int) := by omega
                have gj0 : (0 : Int) ≤ (j : Int) := by omega
                obtain ⟨y, hy⟩ : ∃ y : Int, (((t[j]'hjl).toNat : Nat) : Int) = y := ⟨_, rfl⟩
                have CY := c_letB (t[j]'hjl) wo
                have CZ := c_digS y wo
                rw [hy] at CY
                have STOP : Hid (digI y = false → j = e) := fun h => by rw [← HJ.out, spanP_stop digI t bb j hjl (by rw [hy]; exact h)]
                have GO : Hid (digI y = true → spanP digI t (bb - 1) (j + 1) = e) := fun h => by
                  obtain ⟨b', rfl⟩ : ∃ b', bb = b' + 1 := ⟨bb - 1, by omega⟩
                  rw [← HJ.out, spanP_go digI t b' j hjl (by rw [hy]; exact h)]
                  rfl
                clear HJ
                cases q1 : digI y
                · rw [q1] at CZ
                  have HP : Hid (digI y = false) := q1
                  clear q1
                  go_wp2_with fail
                  refine CZ.mono ?_
                  rintro e1 w1 ⟨rfl, hw1⟩
                  rw [hw1]
                  clear hw1 w1 CZ
                  have hje := STOP.out HP.out
                  subst hje
                  clear STOP GO HP
                  obtain ⟨h1, h2⟩ := tokE_in hlt HTK.out
                  have b1 : (0 : Int) ≤ (i : Int) := by omega
                  have b2 : (i : Int) ≤ (j : Int) := by omega
                  have b3 : (j : Int) ≤ (t.size : Int) := by omega
                  have hl : (M ++ [t.extract i j]).length = M.length + 1 := by simp
                  have l1 : w.heap.size ≤ wo.heap.size := B0.out.size
                  by_cases hf : M.length = 500
                  · have E : Hid (R = ([], 6)) := by
                      unfold Hid
                      obtain ⟨b', rfl⟩ : ∃ b', b = b' + 1 := ⟨b - 1, by omega⟩
                      rw [← HG.out, lexG, if_pos hlt, HTK.out]
                      simp only [hf, if_true]
                    have f5 : (500 : Int) < (M.length : Int) + 1 := by omega
                    have f6 : M.length = 500 := hf
                    clear HG HTK hf f6
                    go_wp2_with (at_builtin; refine app_any _ rfl (.tmp 126) (.tmp 131) 44 rfl w.heap.size 9 iI (.string ⟨#[]⟩) 1 16 Tryz.underlying44 hiI.out hz0.out hz1.out hz2.out rfl (by omega) (.slice a M.length cap) M.length (strs M) rfl (own_below O0.out ((Below.refl _ _).alloc (Nat.le_refl _) _)) _ 1 1 [.string (t.extract i j)] rfl (fun ex => by cases ex) rfl (new_at _ _ _ (by simp)) (one_str _) (by unfold maxLen; omega) (by omega) (by simp; omega) ?_; intro a9 c9 w9 ho9 hg9 hx9)
                    have B9 : Hid (Below w.heap.size w w9) := by
                      rw [ob_slice] at hg9
                      have hbl := own_blk O0.out
                      refine B0.out.trans ?_
                      refine ⟨hg9.os, hg9.tape, hg9.output, Nat.le_trans (by simp) hg9.size, fun j hj => ?_⟩
                      rw [hg9.block j (by simp; omega) (fun e => by have := (hbl j e.symm).1; omega)]
                      exact ((Below.refl wo.heap.size wo).alloc (Nat.le_refl _) _).block j (by omega)
                    clear ho9 hg9 hx9
                    go_wp2
                    go_ret2
                    exact ⟨AnsL.emp E.out B9.out.size, B9.out.alloc B9.out.size _⟩
                  · have E : Hid (lexG t (b - 1) (skE t j) (M ++ [t.extract i j]) = R) := by
                      unfold Hid
                      obtain ⟨b', rfl⟩ : ∃ b', b = b' + 1 := ⟨b - 1, by omega⟩
                      rw [← HG.out, lexG, if_pos hlt, HTK.out]
                      simp only [hf, if_false]
                      rfl
                    have f5 : ¬ (500 : Int) < (M.length : Int) + 1 := by omega
                    clear HG HTK
                    go_wp2_with (at_builtin; refine app_any _ rfl (.tmp 126) (.tmp 131) 44 rfl w.heap.size 9 iI (.string ⟨#[]⟩) 1 16 Tryz.underlying44 hiI.out hz0.out hz1.out hz2.out rfl (by omega) (.slice a M.length cap) M.length (strs M) rfl (own_below O0.out ((Below.refl _ _).alloc (Nat.le_refl _) _)) _ 1 1 [.string (t.extract i j)] rfl (fun ex => by cases ex) rfl (new_at _ _ _ (by simp)) (one_str _) (by unfold maxLen; omega) (by omega) (by simp; omega) ?_; intro a9 c9 w9 ho9 hg9 hx9)
                    have B9 : Hid (Below w.heap.size w w9) := by
                      rw [ob_slice] at hg9
                      have hbl := own_blk O0.out
                      refine B0.out.trans ?_
                      refine ⟨hg9.os, hg9.tape, hg9.output, Nat.le_trans (by simp) hg9.size, fun j hj => ?_⟩
                      rw [hg9.block j (by simp; omega) (fun e => by have := (hbl j e.symm).1; omega)]
                      exact ((Below.refl wo.heap.size wo).alloc (Nat.le_refl _) _).block j (by omega)
                    have O9 : Hid (w9.ownsRow w.heap.size 9 1 (.slice a9 (M ++ [t.extract i j]).length c9) (M ++ [t.extract i j]).length (strs (M ++ [t.extract i j]))) := by
                      unfold Hid
                      rw [hl, strs_one]
                      exact ho9
                    clear ho9 hg9 hx9
                    go_wp2
                    go_roundw
                    case rel => exact ⟨j, b - 1, M ++ [t.extract i j], a9, c9, h2, by omega, by rw [hl]; omega, by rw [hl], rfl, O9, E, B9⟩
                    case measure => simp [intOf]; omega
                · rw [q1] at CZ
                  have HP : Hid (digI y = true) := q1
                  clear q1
                  go_wp2_with fail
                  refine CZ.mono ?_
                  rintro e1 w1 ⟨rfl, hw1⟩
                  rw [hw1]
                  clear hw1 w1 CZ
                  go_wp2
                  go_roundw
                  case rel => exact ⟨j + 1, bb - 1, by omega, by go_num, by first | rfl | trivial, GO.out HP.out, by omega⟩
                  case measure => simp [intOf]; omega
              · have hje : j = e := by rw [← HJ.out, spanP_end digI t bb j hjl]
                have gj : ¬ (j : Int) < (t.size : Int) := by omega
                clear HJ
                subst hje
                obtain ⟨h1, h2⟩ := tokE_in hlt HTK.out
                have b1 : (0 : Int) ≤ (i : Int) := by omega
                have b2 : (i : Int) ≤ (j : Int) := by omega
                have b3 : (j : Int) ≤ (t.size : Int) := by omega
                have hl : (M ++ [t.extract i j]).length = M.length + 1 := by simp
                have l1 : w.heap.size ≤ wo.heap.size := B0.out.size
                by_cases hf : M.length = 500
                · have E : Hid (R = ([], 6)) := by
                    unfold Hid
                    obtain ⟨b', rfl⟩ : ∃ b', b = b' + 1 := ⟨b - 1, by omega⟩
                    rw [← HG.out, lexG, if_pos hlt, HTK.out]
                    simp only [hf, if_true]
                  have f5 : (500 : Int) < (M.length : Int) + 1 := by omega
                  have f6 : M.length = 500 := hf
                  clear HG HTK hf f6
                  go_wp2_with (at_builtin; refine app_any _ rfl (.tmp 126) (.tmp 131) 44 rfl w.heap.size 9 iI (.string ⟨#[]⟩) 1 16 Tryz.underlying44 hiI.out hz0.out hz1.out hz2.out rfl (by omega) (.slice a M.length cap) M.length (strs M) rfl (own_below O0.out ((Below.refl _ _).alloc (Nat.le_refl _) _)) _ 1 1 [.string (t.extract i j)] rfl (fun ex => by cases ex) rfl (new_at _ _ _ (by simp)) (one_str _) (by unfold maxLen; omega) (by omega) (by simp; omega) ?_; intro a9 c9 w9 ho9 hg9 hx9)
                  have B9 : Hid (Below w.heap.size w w9) := by
                    rw [ob_slice] at hg9
                    have hbl := own_blk O0.out
                    refine B0.out.trans ?_
                    refine ⟨hg9.os, hg9.tape, hg9.output, Nat.le_trans (by simp) hg9.size, fun j hj => ?_⟩
                    rw [hg9.block j (by simp; omega) (fun e => by have := (hbl j e.symm).1; omega)]
                    exact ((Below.refl wo.heap.size wo).alloc (Nat.le_refl _) _).block j (by omega)
                  clear ho9 hg9 hx9
                  go_wp2
                  go_ret2
                  exact ⟨AnsL.emp E.out B9.out.size, B9.out.alloc B9.out.size _⟩
                · have E : Hid (lexG t (b - 1) (skE t j) (M ++ [t.extract i j]) = R) := by
                    unfold Hid
                    obtain ⟨b', rfl⟩ : ∃ b', b = b' + 1 := ⟨b - 1, by omega⟩
                    rw [← HG.out, lexG, if_pos hlt, HTK.out]
                    simp only [hf, if_false]
                    rfl
                  have f5 : ¬ (500 : Int) < (M.length : Int) + 1 := by omega
                  clear HG HTK
                  go_wp2_with (at_builtin; refine app_any _ rfl (.tmp 126) (.tmp 131) 44 rfl w.heap.size 9 iI (.string ⟨#[]⟩) 1 16 Tryz.underlying44 hiI.out hz0.out hz1.out hz2.out rfl (by omega) (.slice a M.length cap) M.length (strs M) rfl (own_below O0.out ((Below.refl _ _).alloc (Nat.le_refl _) _)) _ 1 1 [.string (t.extract i j)] rfl (fun ex => by cases ex) rfl (new_at _ _ _ (by simp)) (one_str _) (by unfold maxLen; omega) (by omega) (by simp; omega) ?_; intro a9 c9 w9 ho9 hg9 hx9)
                  have B9 : Hid (Below w.heap.size w w9) := by
                    rw [ob_slice] at hg9
                    have hbl := own_blk O0.out
                    refine B0.out.trans ?_
                    refine ⟨hg9.os, hg9.tape, hg9.output, Nat.le_trans (by simp) hg9.size, fun j hj => ?_⟩
                    rw [hg9.block j (by simp; omega) (fun e => by have := (hbl j e.symm).1; omega)]
                    exact ((Below.refl wo.heap.size wo).alloc (Nat.le_refl _) _).block j (by omega)
                  have O9 : Hid (w9.ownsRow w.heap.size 9 1 (.slice a9 (M ++ [t.extract i j]).length c9) (M ++ [t.extract i j]).length (strs (M ++ [t.extract i j]))) := by
                    unfold Hid
                    rw [hl, strs_one]
                    exact ho9
                  clear ho9 hg9 hx9
                  go_wp2
                  go_roundw
                  case rel => exact ⟨j, b - 1, M ++ [t.extract i j], a9, c9, h2, by omega, by rw [hl]; omega, by rw [hl], rfl, O9, E, B9⟩
                  case measure => simp [intOf]; omega
        · rw [k1] at CL
          obtain ⟨e, he⟩ : ∃ e, spanP lodI t t.size i = e := ⟨_, rfl⟩
          have HE : Hid (spanP lodI t t.size i = e) := he
          have HTK : Hid (tokE t i = some e) := by unfold Hid; rw [TE.out, k1, he]; rfl
          clear TE NONE SOME he CD k1
          go_wp2_with fail
          refine CL.mono ?_
          rintro e1 w1 ⟨rfl, hw1⟩
          rw [hw1]
          clear hw1 w1 CL
          go_wp2_with fail
          go_loopw [5] (fun x wi => ∃ (j bb : Nat), j ≤ t.size ∧ x = .int .i64 (j : Int) ∧ wi = wo ∧ Hid (spanP lodI t bb j = e) ∧ t.size ≤ j + bb) (fun x _ => t.size - (intOf x).toNat)
          case atStart => exact ⟨i, t.size, by omega, by first | rfl | go_num, rfl, HE.out, by omega⟩
          case round =>
            obtain ⟨j, bb, hj, rfl, hwi, HJ, hbb⟩ := hrel
            rw [hwi]
            clear hwi HE
            by_cases hjl : j < t.size
            · have gj : (j : Int) < (t.size : Int) := by omega
              have gj0 : (0 : Int) ≤ (j : Int) := by omega
              obtain ⟨y, hy⟩ : ∃ y : Int, (((t[j]'hjl).toNat : Nat) : Int) = y := ⟨_, rfl⟩
              have CY := c_letB (t[j]'hjl) wo
              have CZ := c_digS y wo
              rw [hy] at CY
              have STOP : Hid (lodI y = false → j = e) := fun h => by rw [← HJ.out, spanP_stop lodI t bb j hjl (by rw [hy]; exact h)]
              have GO : Hid (lodI y = true → spanP lodI t (bb - 1) (j + 1) = e) := fun h => by
                obtain ⟨b', rfl⟩ : ∃ b', bb = b' + 1 := ⟨bb - 1, by omega⟩
                rw [← HJ.out, spanP_go lodI t b' j hjl (by rw [hy]; exact h)]
                rfl
              clear HJ
              cases q1 : lowI y
              · rw [q1] at CY
                cases q2 : digI y
                · rw [q2] at CZ
                  have HP : Hid (lodI y = false) := by unfold Hid lodI; rw [q1, q2]; rfl
                  clear q1 q2
                  go_wp2_with fail
                  refine CY.mono ?_
                  rintro e1 w1 ⟨rfl, hw1⟩
                  rw [hw1]
                  clear hw1 w1 CY
                  go_wp2_with fail
                  refine CZ.mono ?_
                  rintro e1 w1 ⟨rfl, hw1⟩
                  rw [hw1]
                  clear hw1 w1 CZ
                  have hje := STOP.out HP.out
                  subst hje
                  clear STOP GO HP
                  obtain ⟨h1, h2⟩ := tokE_in hlt HTK.out
                  have b1 : (0 : Int) ≤ (i : Int) := by omega
                  have b2 : (i : Int) ≤ (j : Int) := by omega
                  have b3 : (j : Int) ≤ (t.size : Int) := by omega
                  have hl : (M ++ [t.extract i j]).length = M.length + 1 := by simp
                  have l1 : w.heap.size ≤ wo.heap.size := B0.out.size
                  by_cases hf : M.length = 500
                  · have E : Hid (R = ([], 6)) := by
                      unfold Hid
                      obtain ⟨b', rfl⟩ : ∃ b', b = b' + 1 := ⟨b - 1, by omega⟩
                      rw [← HG.out, lexG, if_pos hlt, HTK.out]
                      simp only [hf, if_true]
                    have f5 : (500 : Int) < (M.length : Int) + 1 := by omega
                    have f6 : M.length = 500 := hf
                    clear HG HTK hf f6
                    go_wp2_with (at_builtin; refine app_any _ rfl (.tmp 126) (.tmp 131) 44 rfl w.heap.size 9 iI (.string ⟨#[]⟩) 1 16 Tryz.underlying44 hiI.out hz0.out hz1.out hz2.out rfl (by omega) (.slice a M.length cap) M.length (strs M) rfl (own_below O0.out ((Below.refl _ _).alloc (Nat.le_refl _) _)) _ 1 1 [.string (t.extract i j)] rfl (fun ex => by cases ex) rfl (new_at _ _ _ (by simp)) (one_str _) (by unfold maxLen; omega) (by omega) (by simp; omega) ?_; intro a9 c9 w9 ho9 hg9 hx9)
                    have B9 : Hid (Below w.heap.size w w9) := by
                      rw [ob_slice] at hg9
                      have hbl := own_blk O0.out
                      refine B0.out.trans ?_
                      refine ⟨hg9.os, hg9.tape, hg9.output, Nat.le_trans (by simp) hg9.size, fun j hj => ?_⟩
                      rw [hg9.block j (by simp; omega) (fun e => by have := (hbl j e.symm).1; omega)]
                      exact ((Below.refl wo.heap.size wo).alloc (Nat.le_refl _) _).block j (by omega)
                    clear ho9 hg9 hx9
                    go_wp2
                    go_ret2
                    exact ⟨AnsL.emp E.out B9.out.size, B9.out.alloc B9.out.size _⟩
                  · have E : Hid (lexG t (b - 1) (skE t j) (M ++ [t.extract i j]) = R) := by
                      unfold Hid
                      obtain ⟨b', rfl⟩ : ∃ b', b = b' + 1 := ⟨b - 1, by omega⟩
                      rw [← HG.out, lexG, if_pos hlt, HTK.out]
                      simp only [hf, if_false]
                      rfl
                    have f5 : ¬ (500 : Int) < (M.length : Int) + 1 := by omega
                    clear HG HTK
                    go_wp2_with (at_builtin; refine app_any _ rfl (.tmp 126) (.tmp 131) 44 rfl w.heap.size 9 iI (.string ⟨#[]⟩) 1 16 Tryz.underlying44 hiI.out hz0.out hz1.out hz2.out rfl (by omega) (.slice a M.length cap) M.length (strs M) rfl (own_below O0.out ((Below.refl _ _).alloc (Nat.le_refl _) _)) _ 1 1 [.string (t.extract i j)] rfl (fun ex => by cases ex) rfl (new_at _ _ _ (by simp)) (one_str _) (by unfold maxLen; omega) (by omega) (by simp; omega) ?_; intro a9 c9 w9 ho9 hg9 hx9)
                    have B9 : Hid (Below w.heap.size w w9) := by
                      rw [ob_slice] at hg9
                      have hbl := own_blk O0.out
                      refine B0.out.trans ?_
                      refine ⟨hg9.os, hg9.tape, hg9.output, Nat.le_trans (by simp) hg9.size, fun j hj => ?_⟩
                      rw [hg9.block j (by simp; omega) (fun e => by have := (hbl j e.symm).1; omega)]
                      exact ((Below.refl wo.heap.size wo).alloc (Nat.le_refl _) _).block j (by omega)
                    have O9 : Hid (w9.ownsRow w.heap.size 9 1 (.slice a9 (M ++ [t.extract i j]).length c9) (M ++ [t.extract i j]).length (strs (M ++ [t.extract i j]))) := by
                      unfold Hid
                      rw [hl, strs_one]
                      exact ho9
                    clear ho9 hg9 hx9
                    go_wp2
                    go_roundw
                    case rel => exact ⟨j, b - 1, M ++ [t.extract i j], a9, c9, h2, by omega, by rw [hl]; omega, by rw [hl], rfl, O9, E, B9⟩
                    case measure => simp [intOf]; omega
                · rw [q2] at CZ
                  have HP : Hid (lodI y = true) := by unfold Hid lodI; rw [q1, q2]; rfl
                  clear q1 q2
                  go_wp2_with fail
                  refine CY.mono ?_
                  rintro e1 w1 ⟨rfl, hw1⟩
                  rw [hw1]
                  clear hw1 w1 CY
                  go_wp2_with fail
                  refine CZ.mono ?_
                  rintro e1 w1 ⟨rfl, hw1⟩
                  rw [hw1]
                  clear hw1 w1 CZ
                  go_wp2
                  go_roundw
                  case rel => exact ⟨j + 1, bb - 1, by omega, by go_num, by first | rfl | trivial, GO.out HP.out, by omega⟩
                  case measure => simp [intOf]; omega
              · rw [q1] at CY
                have HP : Hid (lodI y = true) := by unfold Hid lodI; rw [q1]; rfl
                clear q1
                go_wp2_with fail
                refine CY.mono ?_
                rintro e1 w1 ⟨rfl, hw1⟩
                rw [hw1]
                clear hw1 w1 CY
                go_wp2
                go_roundw
                case rel => exact ⟨j + 1, bb - 1, by omega, by go_num, by first | rfl | trivial, GO.out HP.out, by omega⟩
                case measure => simp [intOf]; omega
            · have hje : j = e := by rw [← HJ.out, spanP_end lodI t bb j hjl]
              have gj : ¬ (j : Int) < (t.size : Int) := by omega
              clear HJ
              subst hje
              obtain ⟨h1, h2⟩ := tokE_in hlt HTK.out
              have b1 : (0 : Int) ≤ (i : Int) := by omega
              have b2 : (i : Int) ≤ (j : Int) := by omega
              have b3 : (j : Int) ≤ (t.size : Int) := by omega
              have hl : (M ++ [t.extract i j]).length = M.length + 1 := by simp
              have l1 : w.heap.size ≤ wo.heap.size := B0.out.size
              by_cases hf : M.length = 500
              · have E : Hid (R = ([], 6)) := by
                  unfold Hid
                  obtain ⟨b', rfl⟩ : ∃ b', b = b' + 1 := ⟨b - 1, by omega⟩
                  rw [← HG.out, lexG, if_pos hlt, HTK.out]
                  simp only [hf, if_true]
                have f5 : (500 : Int) < (M.length : Int) + 1 := by omega
                have f6 : M.length = 500 := hf
                clear HG HTK hf f6
                go_wp2_with (at_builtin; refine app_any _ rfl (.tmp 126) (.tmp 131) 44 rfl w.heap.size 9 iI (.string ⟨#[]⟩) 1 16 Tryz.underlying44 hiI.out hz0.out hz1.out hz2.out rfl (by omega) (.slice a M.length cap) M.length (strs M) rfl (own_below O0.out ((Below.refl _ _).alloc (Nat.le_refl _) _)) _ 1 1 [.string (t.extract i j)] rfl (fun ex => by cases ex) rfl (new_at _ _ _ (by simp)) (one_str _) (by unfold maxLen; omega) (by omega) (by simp; omega) ?_; intro a9 c9 w9 ho9 hg9 hx9)
                have B9 : Hid (Below w.heap.size w w9) := by
                  rw [ob_slice] at hg9
                  have hbl := own_blk O0.out
                  refine B0.out.trans ?_
                  refine ⟨hg9.os, hg9.tape, hg9.output, Nat.le_trans (by simp) hg9.size, fun j hj => ?_⟩
                  rw [hg9.block j (by simp; omega) (fun e => by have := (hbl j e.symm).1; omega)]
                  exact ((Below.refl wo.heap.size wo).alloc (Nat.le_refl _) _).block j (by omega)
                clear ho9 hg9 hx9
                go_wp2
                go_ret2
                exact ⟨AnsL.emp E.out B9.out.size, B9.out.alloc B9.out.size _⟩
              · have E : Hid (lexG t (b - 1) (skE t j) (M ++ [t.extract i j]) = R) := by
                  unfold Hid
                  obtain ⟨b', rfl⟩ : ∃ b', b = b' + 1 := ⟨b - 1, by omega⟩
                  rw [← HG.out, lexG, if_pos hlt, HTK.out]
                  simp only [hf, if_false]
                  rfl
                have f5 : ¬ (500 : Int) < (M.length : Int) + 1 := by omega
                clear HG HTK
                go_wp2_with (at_builtin; refine app_any _ rfl (.tmp 126) (.tmp 131) 44 rfl w.heap.size 9 iI (.string ⟨#[]⟩) 1 16 Tryz.underlying44 hiI.out hz0.out hz1.out hz2.out rfl (by omega) (.slice a M.length cap) M.length (strs M) rfl (own_below O0.out ((Below.refl _ _).alloc (Nat.le_refl _) _)) _ 1 1 [.string (t.extract i j)] rfl (fun ex => by cases ex) rfl (new_at _ _ _ (by simp)) (one_str _) (by unfold maxLen; omega) (by omega) (by simp; omega) ?_; intro a9 c9 w9 ho9 hg9 hx9)
                have B9 : Hid (Below w.heap.size w w9) := by
                  rw [ob_slice] at hg9
                  have hbl := own_blk O0.out
                  refine B0.out.trans ?_
                  refine ⟨hg9.os, hg9.tape, hg9.output, Nat.le_trans (by simp) hg9.size, fun j hj => ?_⟩
                  rw [hg9.block j (by simp; omega) (fun e => by have := (hbl j e.symm).1; omega)]
                  exact ((Below.refl wo.heap.size wo).alloc (Nat.le_refl _) _).block j (by omega)
                have O9 : Hid (w9.ownsRow w.heap.size 9 1 (.slice a9 (M ++ [t.extract i j]).length c9) (M ++ [t.extract i j]).length (strs (M ++ [t.extract i j]))) := by
                  unfold Hid
                  rw [hl, strs_one]
                  exact ho9
                clear ho9 hg9 hx9
                go_wp2
                go_roundw
                case rel => exact ⟨j, b - 1, M ++ [t.extract i j], a9, c9, h2, by omega, by rw [hl]; omega, by rw [hl], rfl, O9, E, B9⟩
                case measure => simp [intOf]; omega
      · have hx32 : x = 32 := by simpa using k32
        have hsk := skE_go t i hlt (by rw [hx8, hx32])
        rw [hsk] at HG
        clear hsk hx8 hx32
        go_wp2
        go_roundw
        case rel => exact ⟨i + 1, b, M, a, cap, by omega, by omega, hM, rfl, by go_num, O0, HG, B0⟩
        case measure => simp [intOf]; omega
    · have gi : ¬ (i : Int) < (t.size : Int) := by omega
      have hsk : skE t i = i := spanP_end blI t t.size i hlt
      have E : Hid (R = (M, 0)) := by
        unfold Hid
        obtain ⟨b', rfl⟩ : ∃ b', b = b' + 1 := ⟨b - 1, by omega⟩
        rw [← HG.out, hsk, lexG, if_neg hlt]
      clear HG hsk
      go_wp2
      go_ret2
      exact ⟨by rw [E.out]; exact ⟨a, cap, rfl, O0.out⟩, B0.out⟩

end Go.Proofs.YtbpfpjmjmkpjoaaGreatDoor
