/-
  LexSql: both sides and the law.
-/
import Derived.Test.YtknjglgellhchaaDoorLe
import Derived.Test.YtknjglgellhchaaDoorLg
import Derived.Test.YtknjglgellhchaaDoorMk
import Derived.Test.YtknjglgellhchaaDoorSl
import Derived.Deep.RegionHeld3
import Derived.Deep.DrawnRows
import Derived.BigQuiet
import Derived.Deep.QuietTactic
namespace Go.Proofs.YtknjglgellhchaaDoor
open Go Go.RowKit
attribute [local go_sem ↓] Go.wp_at_zero Go.wp_at_succ

set_option linter.unusedVariables false
set_option linter.unusedSimpArgs false
theorem below_grown {w W W' : World} {r : Option Nat} (h : Below w.heap.size w W) (hg : W.grownBy W' r) (hr : ∀ g, r = some g → w.heap.size ≤ g) : Below w.heap.size w W' := ⟨hg.os.trans h.os, hg.tape.trans h.tape, hg.output.trans h.output, Nat.le_trans h.size hg.size, fun j hj => (hg.block j (Nat.lt_of_lt_of_le hj h.size) (fun e => by have := hr j e.symm; omega)).trans (h.block j hj)⟩
theorem own_grown {w w' : World} {B t s n cap : Nat} {a : Option Addr} {r : Option Nat} {xs : List Value} (h : w.ownsRow B t s (.slice a n cap) n xs) (hg : w.grownBy w' r) (hne : ∀ g, ob a = some g → r ≠ some g) : w'.ownsRow B t s (.slice a n cap) n xs := by
  refine h.kept hg ?_
  rw [ob_slice]
  cases e : ob a with
  | none => exact .inl rfl
  | some g => exact .inr (fun q => hne g e q.symm)
set_option maxRecDepth 100000 in
set_option maxHeartbeats 8000000 in
theorem c_eqS (a a' : Option Addr) (n cap n' cap' : Nat) (zs zs' : List (ByteArray)) (w : World) (hr : RdV w a n (zs.map Value.string)) (hr' : RdV w a' n' (zs'.map Value.string)) (hn : n ≤ 1048576) (hn' : n' ≤ 1048576) :
    Calls Tryd.prog 14 #[.slice a n cap, .slice a' n' cap'] w fun e w' => e = .returned (.bool (decide (zs = zs'))) ∧ ∃ q, w' = w.drewN q := by
  obtain ⟨hl, hcs⟩ := hr
  obtain ⟨hl', hcs'⟩ := hr'
  simp only [List.length_map] at hl hl'
  by_cases hnn : n = n'
  · subst hnn
    have hll : zs.length = zs'.length := by omega
    go_enter Tryd.func14, Tryd.ntmps14
    go_wp2
    go_loopw [5] (fun i wr => ∃ k : Nat, k ≤ n ∧ i = .int .i64 k ∧ Hid (sameToS zs zs' k) ∧ ∃ q, wr = w.drewN q) (fun i _ => n - (intOf i).toNat)
    case atStart => exact ⟨0, by omega, rfl, fun j h => absurd h (by omega), 0, rfl⟩
    case round =>
      obtain ⟨k, hk, rfl, HS, q, rfl⟩ := hrel
      by_cases hlt : k < n
      · obtain ⟨b, off, rfl, _, hc⟩ := hcs (by omega)
        obtain ⟨b', off', rfl, _, hc'⟩ := hcs' (by omega)
        obtain ⟨z, hz⟩ : ∃ z, z = zs.getD k (⟨#[]⟩) := ⟨_, rfl⟩
        obtain ⟨z', hz'⟩ : ∃ z, z = zs'.getD k (⟨#[]⟩) := ⟨_, rfl⟩
        have hck : w.cell? ⟨b, off + k, none⟩ = some (Value.string z) := by rw [hz, hc k hlt]; exact map_get _ _ _ _ (by omega)
        have hck' : w.cell? ⟨b', off' + k, none⟩ = some (Value.string z') := by rw [hz', hc' k hlt]; exact map_get _ _ _ _ (by omega)
        have g1 : (0 : Int) ≤ (k : Int) := by omega
        have g2 : (k : Int) < (n : Int) := by omega
        have HZ : Hid (z = zs.getD k (⟨#[]⟩)) := hz
        have HZ' : Hid (z' = zs'.getD k (⟨#[]⟩)) := hz'
        clear hc hc' hcs hcs' hz hz'
        by_cases he : z = z'
        · have HE : Hid (z = z') := he
          have he1 : (z.toList == z'.toList) = true := by simp [he]
          clear he
          go_wp2_with fail
          go_quiet (fail)
          go_wp2
          go_roundw
          case rel => exact ⟨k + 1, by omega, by go_num, fun j hj => if e : j = k then by rw [e, ← HZ.out, ← HZ'.out]; exact HE.out else HS.out j (by omega), _, rfl⟩
          case measure => simp [intOf]; omega
        · have HE : Hid (¬ z = z') := he
          have he1 : (z.toList == z'.toList) = false := by rw [beq_eq_false_iff_ne]; exact fun e => he (toList_inj e)
          clear he
          go_wp2_with fail
          go_quiet (fail)
          go_wp2
          go_ret
          exact ⟨ret_bool (decide_eq_false fun e => HE.out (by rw [HZ.out, HZ'.out, e])).symm, _, World.drewN_drewN _ _ _⟩
      · have e : k = n := by omega
        subst e
        go_wp2
        go_ret
        exact ⟨ret_bool (decide_eq_true (same_allS hll (by rw [hl]; exact HS.out))).symm, q, rfl⟩
  · have hne : ((n : Int) != (n' : Int)) = true := by simp; omega
    go_enter Tryd.func14, Tryd.ntmps14
    go_wp2
    go_ret
    exact ⟨ret_bool (decide_eq_false fun e => hnn (by rw [← hl, ← hl', e])).symm, 0, rfl⟩

set_option maxRecDepth 100000 in
set_option maxHeartbeats 8000000 in
theorem c_specL (t : ByteArray) (w : World) (hs : t.size ≤ maxLen) : Calls Tryd.prog 12 #[.string t] w fun e w' => AnsL w.heap.size (lexR t) e w' ∧ Below w.heap.size w w' := by
  by_cases hbig : (65536 : Int) < (t.size : Int)
  · have E : Hid (lexR t = ([], 2)) := by unfold Hid lexR; rw [if_pos (by omega)]
    go_enter Tryd.func12, Tryd.ntmps12
    go_wp2
    go_ret2
    exact ⟨AnsL.emp E.out (Nat.le_refl _), (Below.refl _ _).alloc (Nat.le_refl _) _⟩
  have C := c_l10Lex t w (by omega)
  have E : Hid (lexR t = lexG t (t.size + 1) (skE t 0) []) := by unfold Hid lexR; rw [if_neg (by omega)]
  rw [E.out]
  obtain ⟨Q, hQ⟩ : ∃ Q, lexG t (t.size + 1) (skE t 0) [] = Q := ⟨_, rfl⟩
  rw [hQ] at C ⊢
  clear hQ E
  go_enter Tryd.func12, Tryd.ntmps12
  go_wp2_with fail
  refine C.mono ?_
  rintro e w1 ⟨⟨a, c, rfl, ho⟩, hb⟩
  have HO : Hid (w1.ownsRow w.heap.size 9 1 (.slice a Q.1.length c) Q.1.length (strs Q.1)) := ho
  clear C ho
  go_wp2
  go_ret2
  exact ⟨⟨a, c, rfl, HO.out⟩, hb⟩
theorem lexG_len (t : ByteArray) : ∀ b i out, out.length ≤ 500 → (lexG t b i out).1.length ≤ 500
  | 0, _, _, h => h
  | b + 1, i, out, h => by
    rw [lexG]
    split
    · split
      · exact Nat.zero_le _
      · split
        · exact Nat.zero_le _
        · rename_i e _ hne
          exact lexG_len t b _ _ (by simp; omega)
    · exact h
theorem lexR_len (t : ByteArray) : (lexR t).1.length ≤ 500 := by
  unfold lexR
  split
  · exact Nat.zero_le _
  · exact lexG_len t _ _ _ (by simp)
set_option maxRecDepth 100000 in
set_option maxHeartbeats 8000000 in
theorem law_FnExactLexSql (t : ByteArray) (w : World) (hs : t.size ≤ maxLen) : Calls Tryd.prog 4 #[.string t] w fun e w' => e = .returned (.bool true) ∧ Below w.heap.size w w' := by
  by_cases hbig : (1048576 : Int) < (t.size : Int)
  · go_enter Tryd.func4, Tryd.ntmps4
    go_wp2
    go_ret
    exact ⟨rfl, Below.refl _ _⟩
  have hlen := lexR_len t
  have CS := c_specL t w hs
  have CI : Hid (∀ W, Calls Tryd.prog 13 #[.string t] W fun e w' => AnsL W.heap.size (lexR t) e w' ∧ Below W.heap.size W w') := fun W => c_implL t W hs
  obtain ⟨Q, hQ⟩ : ∃ Q, lexR t = Q := ⟨_, rfl⟩
  rw [hQ] at CS CI hlen
  clear hQ
  obtain ⟨n, hn⟩ : ∃ n, Q.1.length = n := ⟨_, rfl⟩
  have CQ : Hid (∀ (W : World) (a1 : Option Addr) (c1 : Nat) (a2 : Option Addr) (c2 : Nat), RdV W a1 n (strs Q.1) → RdV W a2 n (strs Q.1) → Calls Tryd.prog 14 #[.slice a1 n c1, .slice a2 n c2] W fun e w' => e = .returned (.bool true) ∧ Below W.heap.size W w') := fun W a1 c1 a2 c2 h1 h2 => (c_eqS a1 a2 n c1 n c2 Q.1 Q.1 W h1 h2 (by omega) (by omega)).mono fun e w' h => by
    obtain ⟨he, q, hq⟩ := h
    refine ⟨by rw [he, decide_eq_true rfl], ?_⟩
    rw [hq]
    exact below_drewN (Below.refl _ _) q
  obtain ⟨xe, hxe⟩ : ∃ x, Q.2 = x := ⟨_, rfl⟩
  have CS' : Hid (Calls Tryd.prog 12 #[.string t] w fun e w' => (∃ a c, e = .returned (.tuple #[.slice a n c, .int .i64 xe]) ∧ w'.ownsRow w.heap.size 9 1 (.slice a n c) n (strs Q.1)) ∧ Below w.heap.size w w') := by unfold Hid; rw [← hn, ← hxe]; exact CS
  have CI' : Hid (∀ W, Calls Tryd.prog 13 #[.string t] W fun e w' => (∃ a c, e = .returned (.tuple #[.slice a n c, .int .i64 xe]) ∧ w'.ownsRow W.heap.size 9 1 (.slice a n c) n (strs Q.1)) ∧ Below W.heap.size W w') := fun W => by rw [← hn, ← hxe]; exact CI.out W
  have nn : (xe != xe) = false := by simp
  rw [hn] at hlen
  clear CS CI hn hxe
  go_enter Tryd.func4, Tryd.ntmps4
  go_wp2_with fail
  refine CS'.out.mono ?_
  rintro e w1 ⟨⟨aw, cw, rfl, ow⟩, hb⟩
  have OW1 : Hid (w1.ownsRow w.heap.size 9 1 (.slice aw n cw) n (strs Q.1)) := ow
  have B1 : Hid (Below w.heap.size w w1) := hb
  have GW : Hid (∀ g, ob aw = some g → w.heap.size ≤ g ∧ g < w1.heap.size) := own_blk ow
  have s1 : w.heap.size ≤ w1.heap.size := hb.size
  clear ow hb CS'
  have C1 := CI'.out w1
  go_wp2_with fail
  refine C1.mono ?_
  rintro e w2 ⟨⟨ag, cg, rfl, og⟩, hb⟩
  have OG2 : Hid (w2.ownsRow w1.heap.size 9 1 (.slice ag n cg) n (strs Q.1)) := og
  have GG : Hid (∀ g, ob ag = some g → w1.heap.size ≤ g ∧ g < w2.heap.size) := own_blk og
  have B2 : Hid (Below w.heap.size w w2) := B1.out.trans (hb.mono B1.out.size)
  have s2 : w1.heap.size ≤ w2.heap.size := hb.size
  have OW2 : Hid (w2.ownsRow w.heap.size 9 1 (.slice aw n cw) n (strs Q.1)) := own_below OW1.out hb
  clear hb B1 OW1
  clear og C1
  have C2 := CQ.out w2 ag cg aw cw (RdV.own OG2.out) (RdV.own OW2.out)
  go_wp2_with fail
  refine C2.mono ?_
  rintro e w3 ⟨rfl, hb⟩
  have B3 : Hid (Below w.heap.size w w3) := B2.out.trans (hb.mono B2.out.size)
  have s3 : w2.heap.size ≤ w3.heap.size := hb.size
  have OW3 : Hid (w3.ownsRow w.heap.size 9 1 (.slice aw n cw) n (strs Q.1)) := own_below OW2.out hb
  have OG3 : Hid (w3.ownsRow w1.heap.size 9 1 (.slice ag n cg) n (strs Q.1)) := own_below OG2.out hb
  clear hb B2 OW2 OG2
  clear C2
  have C3 := c_markS w1.heap.size (.slice ag n cg) n 1 (strs Q.1) w3 OG3.out (by omega) (by omega) (by omega)
  have CH : Hid (∀ W, RdV W ag n (marksS 1 n) → Calls Tryd.prog 16 #[.slice ag n cg, .int .i64 1] W fun e w' => e = .returned (.int .i64 (1 + n : Nat)) ∧ Below W.heap.size W w') := fun W h => c_heldS ag n cg 1 W h (by omega) (by omega) (by omega)
  obtain ⟨m, hm'⟩ : ∃ m : Int, ((1 + n : Nat) : Int) = m := ⟨_, rfl⟩
  have hm0 : ¬ m < 0 := by omega
  have mm : (m != m) = false := by simp
  rw [hm'] at C3 CH
  clear hm'
  go_wp2_with fail
  refine C3.mono ?_
  rintro e w4 ⟨rfl, og, hg⟩
  rw [ob_slice] at hg
  have OG4 : Hid (w4.ownsRow w1.heap.size 9 1 (.slice ag n cg) n (marksS 1 n)) := og
  have B4 : Hid (Below w.heap.size w w4) := below_grown B3.out hg (fun g e => by have := GG.out g e; omega)
  have OW4 : Hid (w4.ownsRow w.heap.size 9 1 (.slice aw n cw) n (strs Q.1)) := own_grown OW3.out hg (fun g e q => by have := GW.out g e; have := GG.out g q; omega)
  have s4 : w3.heap.size ≤ w4.heap.size := hg.size
  clear hg og B3 OW3 OG3 C3
  have C4 := CH.out w4 (RdV.own OG4.out)
  go_wp2_with fail
  refine C4.mono ?_
  rintro e w5 ⟨rfl, hb⟩
  have B5 : Hid (Below w.heap.size w w5) := B4.out.trans (hb.mono B4.out.size)
  have s5 : w4.heap.size ≤ w5.heap.size := hb.size
  have OW5 : Hid (w5.ownsRow w.heap.size 9 1 (.slice aw n cw) n (strs Q.1)) := own_below OW4.out hb
  have OG5 : Hid (w5.ownsRow w1.heap.size 9 1 (.slice ag n cg) n (marksS 1 n)) := own_below OG4.out hb
  clear hb B4 OW4 OG4
  clear C4
  have C5 := CI'.out w5
  go_wp2_with fail
  refine C5.mono ?_
  rintro e w6 ⟨⟨ah, ch, rfl, oh⟩, hb⟩
  have B6 : Hid (Below w.heap.size w w6) := B5.out.trans (hb.mono B5.out.size)
  have s6 : w5.heap.size ≤ w6.heap.size := hb.size
  have OW6 : Hid (w6.ownsRow w.heap.size 9 1 (.slice aw n cw) n (strs Q.1)) := own_below OW5.out hb
  have OG6 : Hid (w6.ownsRow w1.heap.size 9 1 (.slice ag n cg) n (marksS 1 n)) := own_below OG5.out hb
  clear hb B5 OW5 OG5
  clear C5
  have C6 := CQ.out w6 ah ch aw cw (RdV.own oh) (RdV.own OW6.out)
  clear oh
  go_wp2_with fail
  refine C6.mono ?_
  rintro e w7 ⟨rfl, hb⟩
  have B7 : Hid (Below w.heap.size w w7) := B6.out.trans (hb.mono B6.out.size)
  have s7 : w6.heap.size ≤ w7.heap.size := hb.size
  have OG7 : Hid (w7.ownsRow w1.heap.size 9 1 (.slice ag n cg) n (marksS 1 n)) := own_below OG6.out hb
  clear hb B6 OG6
  clear C6 OW6
  have C7 := CH.out w7 (RdV.own OG7.out)
  go_wp2_with fail
  refine C7.mono ?_
  rintro e w8 ⟨rfl, hb⟩
  have B8 : Hid (Below w.heap.size w w8) := B7.out.trans (hb.mono B7.out.size)
  clear hb C7
  go_wp2
  go_ret
  exact ⟨rfl, B8.out⟩

end Go.Proofs.YtknjglgellhchaaDoor
