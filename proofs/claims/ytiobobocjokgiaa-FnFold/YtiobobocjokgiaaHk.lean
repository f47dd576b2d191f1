/-
  The law of FoldChanges.
-/
import Derived.Test.YtiobobocjokgiaaHj
import Derived.Test.YtiobobocjokgiaaHb
import Derived.Deep.RegionHeld3
namespace Go.Proofs.Ytiobobocjokgiaa
open Go Go.RowKit
attribute [local go_sem ↓] Go.wp_at_zero Go.wp_at_succ

set_option linter.unusedVariables false
set_option linter.unusedSimpArgs false
/-- The code, and the rows, of FoldChanges. -/
def foC (n : Nat) (vs : List CW) (tb : Int) : Int := if 4096 < n then 2 else if chsB n vs then (if inB tb 1 3 then 0 else 4) else 1
def foO (n : Nat) (vs : List CW) (tb : Int) : List RW := if foC n vs tb = 0 then foldR tb vs else []
def AnsF (base n : Nat) (vs : List CW) (tb : Int) (e : Ending) (w' : World) : Prop :=
  ∃ (a1 : Option Addr) (c1 : Nat), e = .returned (.tuple #[.slice a1 (foO n vs tb).length c1, .int .i64 (foC n vs tb)]) ∧ w'.ownsRow base 40 7 (.slice a1 (foO n vs tb).length c1) (foO n vs tb).length (cellsR (foO n vs tb))
theorem AnsF.no {base n : Nat} {vs : List CW} {tb : Int} {w' : World} {k : Int} {a : Option Addr} (h : foC n vs tb = k) (hk : k ≠ 0) (ho : w'.ownsRow base 40 7 (.slice a 0 0) 0 []) : AnsF base n vs tb (.returned (.tuple #[.slice a 0 0, .int .i64 k])) w' := by
  have e : foO n vs tb = [] := by unfold foO; rw [if_neg (by rw [h]; exact hk)]
  unfold AnsF
  rw [e, h]
  exact ⟨a, 0, rfl, ho⟩
theorem AnsF.yes {base n m : Nat} {vs : List CW} {tb : Int} {w' : World} {a : Option Addr} {c : Nat} (h : foC n vs tb = 0) (ho : w'.ownsRow base 40 7 (.slice a m c) m (cellsR (foldR tb vs))) : AnsF base n vs tb (.returned (.tuple #[.slice a m c, .int .i64 0])) w' := by
  have e : foO n vs tb = foldR tb vs := by unfold foO; rw [if_pos h]
  have hm : (foldR tb vs).length = m := by have := ho.1; rw [cellsR_len] at this; omega
  unfold AnsF
  rw [e, h, hm]
  exact ⟨a, c, rfl, ho⟩
theorem foO_len (n : Nat) (vs : List CW) (tb : Int) (h : vs.length = n) : (foO n vs tb).length ≤ n := by
  unfold foO
  split
  · have := (fold_so tb vs n (by omega)).2
    rwa [List.take_of_length_le (by omega)] at this
  · exact Nat.zero_le _
theorem foC_n {n : Nat} {vs : List CW} (h : chsB n vs = true) : n ≤ 1000 := by
  unfold chsB at h
  rw [Bool.and_eq_true] at h
  exact of_decide_eq_true h.1
set_option maxRecDepth 100000 in
set_option maxHeartbeats 8000000 in
theorem c_implFC (a : Option Addr) (n cp : Nat) (vs : List CW) (tb : Int) (w : World) (hr : RdC w a n vs) (hn : n ≤ 1048576) (hs : ∀ v ∈ vs, v.t.size ≤ maxLen ∧ v.z.size ≤ maxLen) :
    Calls Try.prog 8 #[.slice a n cp, .int .i64 tb] w fun e w' => AnsF w.heap.size n vs tb e w' ∧ Below w.heap.size w w' := by
  by_cases h1 : 4096 < n
  · have E : Hid (foC n vs tb = 2) := by unfold Hid foC; rw [if_pos h1]
    have hb : Below w.heap.size w w := Below.refl _ _
    clear hr hs
    go_enter Try.func8, Try.ntmps8
    go_wp2
    go_ret2
    exact ⟨AnsF.no E.out (by decide) (World.ownsRow_nil _ _ 40 7), hb⟩
  have C := c_areC a n cp vs w hr hn hs
  obtain ⟨b, hb⟩ : ∃ b, chsB n vs = b := ⟨_, rfl⟩
  have E : Hid (foC n vs tb = if b then (if inB tb 1 3 then 0 else 4) else 1) := by unfold Hid foC; rw [if_neg h1, hb]
  have HB : Hid (b = true → n ≤ 1000) := fun h => foC_n (hb.trans h)
  rw [hb] at C
  have HR : Hid (RdC w a n vs) := hr
  clear hr hs hb
  obtain ⟨p, hp⟩ : ∃ p, inB tb 1 3 = p := ⟨_, rfl⟩
  have C2 : Hid (∀ W, Calls Try.prog 23 #[.int .i64 tb] W fun e w' => e = .returned (.bool p) ∧ w' = W) := fun W => by rw [← hp]; exact c_isTab tb W
  rw [hp] at E
  clear hp
  go_enter Try.func8, Try.ntmps8
  go_wp2_with fail
  refine C.mono ?_
  rintro e w1 ⟨rfl, hb⟩
  clear C
  cases b
  · go_wp2
    go_ret2
    exact ⟨AnsF.no E.out (by decide) (World.ownsRow_nil _ _ 40 7), hb⟩
  have D2 := C2.out w1
  clear C2
  go_wp2_with fail
  refine D2.mono ?_
  rintro e w2 ⟨rfl, hw⟩
  rw [hw]
  clear D2 hw
  cases p
  · go_wp2
    go_ret2
    exact ⟨AnsF.no E.out (by decide) (World.ownsRow_nil _ _ 40 7), hb⟩
  have C3 := c_folded a n cp vs tb w1 (HR.out.below hb) (HB.out (by first | rfl | trivial))
  go_wp2_with fail
  refine C3.mono ?_
  rintro e w3 ⟨⟨m3, a3, c3, rfl, o3⟩, hb3⟩
  have B3 : Hid (Below w.heap.size w w3) := hb.trans (hb3.mono hb.size)
  have O3 : Hid (w3.ownsRow w.heap.size 40 7 (.slice a3 m3 c3) m3 (cellsR (foldR tb vs))) := own_mono o3 hb.size
  clear hb hb3 o3 C3
  go_wp2
  go_ret2
  exact ⟨AnsF.yes E.out O3.out, B3.out⟩
set_option maxRecDepth 100000 in
set_option maxHeartbeats 8000000 in
theorem c_specFC (a : Option Addr) (n cp : Nat) (vs : List CW) (tb : Int) (w : World) (hr : RdC w a n vs) (hn : n ≤ 1048576) (hs : ∀ v ∈ vs, v.t.size ≤ maxLen ∧ v.z.size ≤ maxLen) :
    Calls Try.prog 6 #[.slice a n cp, .int .i64 tb] w fun e w' => AnsF w.heap.size n vs tb e w' ∧ Below w.heap.size w w' := by
  by_cases h1 : 4096 < n
  · have E : Hid (foC n vs tb = 2) := by unfold Hid foC; rw [if_pos h1]
    have hb : Below w.heap.size w w := Below.refl _ _
    clear hr hs
    go_enter Try.func6, Try.ntmps6
    go_wp2
    go_ret2
    exact ⟨AnsF.no E.out (by decide) (lit0 _ _ hb.size), hb.alloc hb.size _⟩
  have C := c_lChs a n cp vs w hr hn hs
  obtain ⟨b, hb⟩ : ∃ b, chsB n vs = b := ⟨_, rfl⟩
  have E : Hid (foC n vs tb = if b then (if inB tb 1 3 then 0 else 4) else 1) := by unfold Hid foC; rw [if_neg h1, hb]
  have HB : Hid (b = true → n ≤ 1000) := fun h => foC_n (hb.trans h)
  rw [hb] at C
  have HR : Hid (RdC w a n vs) := hr
  clear hr hs hb
  obtain ⟨p, hp⟩ : ∃ p, inB tb 1 3 = p := ⟨_, rfl⟩
  have C2 : Hid (∀ W, Calls Try.prog 19 #[.int .i64 tb, .int .i64 1, .int .i64 3] W fun e w' => e = .returned (.bool p) ∧ w' = W) := fun W => by rw [← hp]; exact c_in tb 1 3 W
  rw [hp] at E
  clear hp
  go_enter Try.func6, Try.ntmps6
  go_wp2_with fail
  refine C.mono ?_
  rintro e w1 ⟨rfl, hb⟩
  clear C
  cases b
  · go_wp2
    go_ret2
    exact ⟨AnsF.no E.out (by decide) (lit0 _ _ hb.size), hb.alloc hb.size _⟩
  have D2 := C2.out w1
  clear C2
  go_wp2_with fail
  refine D2.mono ?_
  rintro e w2 ⟨rfl, hw⟩
  rw [hw]
  clear D2 hw
  cases p
  · go_wp2
    go_ret2
    exact ⟨AnsF.no E.out (by decide) (lit0 _ _ hb.size), hb.alloc hb.size _⟩
  have C3 := c_lFold a n cp vs tb w1 (HR.out.below hb) (HB.out (by first | rfl | trivial))
  go_wp2_with fail
  refine C3.mono ?_
  rintro e w3 ⟨⟨m3, a3, c3, rfl, o3⟩, hb3⟩
  have B3 : Hid (Below w.heap.size w w3) := hb.trans (hb3.mono hb.size)
  have O3 : Hid (w3.ownsRow w.heap.size 40 7 (.slice a3 m3 c3) m3 (cellsR (foldR tb vs))) := own_mono o3 hb.size
  clear hb hb3 o3 C3
  go_wp2
  go_ret2
  exact ⟨AnsF.yes E.out O3.out, B3.out⟩
set_option maxRecDepth 100000 in
set_option maxHeartbeats 8000000 in
theorem law_FnExactFoldChanges (a : Option Addr) (n cp : Nat) (vs : List CW) (c : Int) (w : World) (hr : RdC w a n vs) (hm : n ≤ maxLen) (hs : ∀ v ∈ vs, v.t.size ≤ maxLen ∧ v.z.size ≤ maxLen) :
    Calls Try.prog 3 #[.slice a n cp, .int .i64 c] w fun e w' => e = .returned (.bool true) ∧ Below w.heap.size w w' := by
  have C1 := c_szC a n cp vs 1048576 w hr hm hs (by omega) (by omega)
  have HR : Hid (RdC w a n vs) := hr
  have HS : Hid (∀ v ∈ vs, v.t.size ≤ maxLen ∧ v.z.size ≤ maxLen) := hs
  clear hr hs
  go_enter Try.func3, Try.ntmps3
  go_wp2_with fail
  refine C1.mono ?_
  rintro e w1 ⟨⟨z, rfl, hz, hzn⟩, hb⟩
  have B1 : Hid (Below w.heap.size w w1) := hb
  have s1 : w.heap.size ≤ w1.heap.size := B1.out.size
  clear hb C1
  by_cases hneg : z < 0
  · clear hzn
    go_wp2
    go_ret
    exact ⟨rfl, B1.out⟩
  have hn : n ≤ 1048576 := hzn (by omega)
  obtain ⟨R, hR⟩ : ∃ R, foO n vs c = R := ⟨_, rfl⟩
  obtain ⟨N, hN⟩ : ∃ N, (foO n vs c).length = N := ⟨_, rfl⟩
  obtain ⟨cc, hcc⟩ : ∃ x, foC n vs c = x := ⟨_, rfl⟩
  have hNn : N ≤ 1048576 := by have := foO_len n vs c HR.out.1; omega
  have CT : Hid (∀ W, Below w.heap.size w W → Calls Try.prog 7 #[.slice a n cp] W fun e w' => e = .returned (.slice (some ⟨W.heap.size, 0, none⟩) n n) ∧ w'.ownsRow W.heap.size 42 10 (.slice (some ⟨W.heap.size, 0, none⟩) n n) n (cellsC vs) ∧ Below W.heap.size W w') := fun W hW => c_toC a n cp vs W (HR.out.below hW) hn
  have CS : Hid (∀ W a' c', RdC W a' n vs → Calls Try.prog 6 #[.slice a' n c', .int .i64 c] W fun e w' => (∃ (a1 : Option Addr) (c1 : Nat), e = .returned (.tuple #[.slice a1 N c1, .int .i64 cc]) ∧ w'.ownsRow W.heap.size 40 7 (.slice a1 N c1) N (cellsR R)) ∧ Below W.heap.size W w') := fun W a' c' h => by rw [← hN, ← hcc, ← hR]; exact c_specFC a' n c' vs c W h hn HS.out
  have CI : Hid (∀ W a' c', RdC W a' n vs → Calls Try.prog 8 #[.slice a' n c', .int .i64 c] W fun e w' => (∃ (a1 : Option Addr) (c1 : Nat), e = .returned (.tuple #[.slice a1 N c1, .int .i64 cc]) ∧ w'.ownsRow W.heap.size 40 7 (.slice a1 N c1) N (cellsR R)) ∧ Below W.heap.size W w') := fun W a' c' h => by rw [← hN, ← hcc, ← hR]; exact c_implFC a' n c' vs c W h hn HS.out
  have CE : Hid (∀ W a1 c1 a2 c2, RdC W a1 n vs → RdC W a2 n vs → Calls Try.prog 10 #[.slice a1 n c1, .slice a2 n c2] W fun e w' => e = .returned (.bool true) ∧ Below W.heap.size W w') := fun W a1 c1 a2 c2 h1 h2 => c_eqC a1 a2 n c1 c2 vs W h1 h2 hn
  have CQ : Hid (∀ W a1 c1 a2 c2, RdR W a1 N R → RdR W a2 N R → Calls Try.prog 9 #[.slice a1 N c1, .slice a2 N c2] W fun e w' => e = .returned (.bool true) ∧ Below W.heap.size W w') := fun W a1 c1 a2 c2 h1 h2 => c_eqR a1 a2 N c1 c2 R W h1 h2 hNn
  clear hzn HS HR hR hcc hN
  have D1 := CT.out w1 B1.out
  go_wp2_with fail
  refine D1.mono ?_
  rintro e w2 ⟨rfl, r2, hb⟩
  have CS2 := CS.out w2 _ n (RdC.own r2)
  have B2 : Hid (Below w.heap.size w w2) := B1.out.trans (hb.mono B1.out.size)
  have s2 : w1.heap.size ≤ w2.heap.size := hb.size
  clear hb B1 
  clear CS r2 D1
  go_wp2_with fail
  refine CS2.mono ?_
  rintro e w3 ⟨⟨aw, cw, rfl, ow⟩, hb⟩
  have OW3 : Hid (w3.ownsRow w2.heap.size 40 7 (.slice aw N cw) N (cellsR R)) := ow
  have B3 : Hid (Below w.heap.size w w3) := B2.out.trans (hb.mono B2.out.size)
  have s3 : w2.heap.size ≤ w3.heap.size := hb.size
  clear hb B2 
  clear CS2 ow
  have GW : Hid (∀ g, ob aw = some g → w2.heap.size ≤ g ∧ g < w3.heap.size) := own_blk OW3.out
  have D3 := CT.out w3 B3.out
  go_wp2_with fail
  refine D3.mono ?_
  rintro e w4 ⟨rfl, ox, hb⟩
  have OX4 : Hid (w4.ownsRow w3.heap.size 42 10 (.slice (some ⟨w3.heap.size, 0, none⟩) n n) n (cellsC vs)) := ox
  have B4 : Hid (Below w.heap.size w w4) := B3.out.trans (hb.mono B3.out.size)
  have OW4 : Hid (w4.ownsRow w2.heap.size 40 7 (.slice aw N cw) N (cellsR R)) := own_below OW3.out hb
  have s4 : w3.heap.size ≤ w4.heap.size := hb.size
  clear hb B3 OW3
  have GX : w3.heap.size < w4.heap.size := (own_blk OX4.out _ rfl).2
  clear ox D3
  have C4 := CI.out w4 _ n (RdC.own OX4.out)
  go_wp2_with fail
  refine C4.mono ?_
  rintro e w5 ⟨⟨ag, cg, rfl, og⟩, hb⟩
  have OG5 : Hid (w5.ownsRow w4.heap.size 40 7 (.slice ag N cg) N (cellsR R)) := og
  have B5 : Hid (Below w.heap.size w w5) := B4.out.trans (hb.mono B4.out.size)
  have OW5 : Hid (w5.ownsRow w2.heap.size 40 7 (.slice aw N cw) N (cellsR R)) := own_below OW4.out hb
  have OX5 : Hid (w5.ownsRow w3.heap.size 42 10 (.slice (some ⟨w3.heap.size, 0, none⟩) n n) n (cellsC vs)) := own_below OX4.out hb
  have s5 : w4.heap.size ≤ w5.heap.size := hb.size
  clear hb B4 OW4 OX4
  have GG : Hid (∀ g, ob ag = some g → w4.heap.size ≤ g ∧ g < w5.heap.size) := own_blk OG5.out
  clear og C4
  have nn : (cc != cc) = false := by simp
  have C5 := CQ.out w5 ag cg aw cw (RdR.own OG5.out) (RdR.own OW5.out)
  go_wp2_with fail
  refine C5.mono ?_
  rintro e w6 ⟨rfl, hb⟩
  have B6 : Hid (Below w.heap.size w w6) := B5.out.trans (hb.mono B5.out.size)
  have OW6 : Hid (w6.ownsRow w2.heap.size 40 7 (.slice aw N cw) N (cellsR R)) := own_below OW5.out hb
  have OX6 : Hid (w6.ownsRow w3.heap.size 42 10 (.slice (some ⟨w3.heap.size, 0, none⟩) n n) n (cellsC vs)) := own_below OX5.out hb
  have OG6 : Hid (w6.ownsRow w4.heap.size 40 7 (.slice ag N cg) N (cellsR R)) := own_below OG5.out hb
  have s6 : w5.heap.size ≤ w6.heap.size := hb.size
  clear hb B5 OW5 OX5 OG5
  clear C5
  have D6 := CT.out w6 B6.out
  go_wp2_with fail
  refine D6.mono ?_
  rintro e w7 ⟨rfl, oy, hb⟩
  have RY : Hid (RdC w7 (some ⟨w6.heap.size, 0, none⟩) n vs) := RdC.own oy
  have B7 : Hid (Below w.heap.size w w7) := B6.out.trans (hb.mono B6.out.size)
  have OW7 : Hid (w7.ownsRow w2.heap.size 40 7 (.slice aw N cw) N (cellsR R)) := own_below OW6.out hb
  have OX7 : Hid (w7.ownsRow w3.heap.size 42 10 (.slice (some ⟨w3.heap.size, 0, none⟩) n n) n (cellsC vs)) := own_below OX6.out hb
  have OG7 : Hid (w7.ownsRow w4.heap.size 40 7 (.slice ag N cg) N (cellsR R)) := own_below OG6.out hb
  have s7 : w6.heap.size ≤ w7.heap.size := hb.size
  clear hb B6 OW6 OX6 OG6
  clear D6 oy
  have C7 := CE.out w7 _ n _ n (RdC.own OX7.out) RY.out
  go_wp2_with fail
  refine C7.mono ?_
  rintro e w8 ⟨rfl, hb⟩
  have B8 : Hid (Below w.heap.size w w8) := B7.out.trans (hb.mono B7.out.size)
  have OW8 : Hid (w8.ownsRow w2.heap.size 40 7 (.slice aw N cw) N (cellsR R)) := own_below OW7.out hb
  have OX8 : Hid (w8.ownsRow w3.heap.size 42 10 (.slice (some ⟨w3.heap.size, 0, none⟩) n n) n (cellsC vs)) := own_below OX7.out hb
  have OG8 : Hid (w8.ownsRow w4.heap.size 40 7 (.slice ag N cg) N (cellsR R)) := own_below OG7.out hb
  have s8 : w7.heap.size ≤ w8.heap.size := hb.size
  clear hb B7 OW7 OX7 OG7
  clear C7 RY CE
  have C8 := c_markC w3.heap.size (.slice (some ⟨w3.heap.size, 0, none⟩) n n) n 1 _ w8 OX8.out (by omega) (by omega) (by omega)
  obtain ⟨z9, hz9⟩ : ∃ z : Int, ((1 + n * 10 : Nat) : Int) = z := ⟨_, rfl⟩
  have hz90 : ¬ z9 < 0 := by omega
  rw [hz9] at C8
  clear hz9
  go_wp2_with fail
  refine C8.mono ?_
  rintro e w9 ⟨rfl, hg⟩
  have B9 : Hid (Below w.heap.size w w9) := below_grown B8.out hg (fun g e => by have e' : w3.heap.size = g := Option.some.inj e; omega)
  have OW9 : Hid (w9.ownsRow w2.heap.size 40 7 (.slice aw N cw) N (cellsR R)) := own_grown OW8.out hg (fun g e q => by have := GW.out g e; have e' : w3.heap.size = g := Option.some.inj q; omega)
  have OG9 : Hid (w9.ownsRow w4.heap.size 40 7 (.slice ag N cg) N (cellsR R)) := own_grown OG8.out hg (fun g e q => by have := GG.out g e; have e' : w3.heap.size = g := Option.some.inj q; omega)
  have s9 : w8.heap.size ≤ w9.heap.size := hg.size
  clear hg B8 OW8 OG8 OX8 C8
  have C9 := CQ.out w9 ag cg aw cw (RdR.own OG9.out) (RdR.own OW9.out)
  go_wp2_with fail
  refine C9.mono ?_
  rintro e w10 ⟨rfl, hb⟩
  have B10 : Hid (Below w.heap.size w w10) := B9.out.trans (hb.mono B9.out.size)
  have OW10 : Hid (w10.ownsRow w2.heap.size 40 7 (.slice aw N cw) N (cellsR R)) := own_below OW9.out hb
  have OG10 : Hid (w10.ownsRow w4.heap.size 40 7 (.slice ag N cg) N (cellsR R)) := own_below OG9.out hb
  have s10 : w9.heap.size ≤ w10.heap.size := hb.size
  clear hb B9 OW9 OG9
  clear C9
  have C10 := c_markR w4.heap.size (.slice ag N cg) N 1 R w10 OG10.out (by omega) (by omega) (by omega)
  have CH : Hid (∀ W, RdR W ag N (marksR 1 N) → Calls Try.prog 13 #[.slice ag N cg, .int .i64 1] W fun e w' => e = .returned (.int .i64 (1 + N * 7 : Nat)) ∧ Below W.heap.size W w') := fun W h => c_heldR ag N cg 1 W h (by omega) (by omega) (by omega)
  obtain ⟨m, hm'⟩ : ∃ m : Int, ((1 + N * 7 : Nat) : Int) = m := ⟨_, rfl⟩
  have hm0 : ¬ m < 0 := by omega
  have mm : (m != m) = false := by simp
  rw [hm'] at C10 CH
  clear hm'
  go_wp2_with fail
  refine C10.mono ?_
  rintro e w11 ⟨rfl, og, hg⟩
  rw [ob_slice] at hg
  have OG11 : Hid (w11.ownsRow w4.heap.size 40 7 (.slice ag N cg) N (cellsR (marksR 1 N))) := og
  have B11 : Hid (Below w.heap.size w w11) := below_grown B10.out hg (fun g e => by have := GG.out g e; omega)
  have OW11 : Hid (w11.ownsRow w2.heap.size 40 7 (.slice aw N cw) N (cellsR R)) := own_grown OW10.out hg (fun g e q => by have := GW.out g e; have := GG.out g q; omega)
  have s11 : w10.heap.size ≤ w11.heap.size := hg.size
  clear hg og B10 OW10 OG10 C10
  have C11 := CH.out w11 (RdR.own OG11.out)
  go_wp2_with fail
  refine C11.mono ?_
  rintro e w12' ⟨rfl, hb⟩
  have B12' : Hid (Below w.heap.size w w12') := B11.out.trans (hb.mono B11.out.size)
  have OW12' : Hid (w12'.ownsRow w2.heap.size 40 7 (.slice aw N cw) N (cellsR R)) := own_below OW11.out hb
  have OG12' : Hid (w12'.ownsRow w4.heap.size 40 7 (.slice ag N cg) N (cellsR (marksR 1 N))) := own_below OG11.out hb
  clear hb B11 OW11 OG11 C11
  have D12 := CT.out w12' B12'.out
  go_wp2_with fail
  refine D12.mono ?_
  rintro e w12 ⟨rfl, oy, hb⟩
  have C13 := CI.out w12 _ n (RdC.own oy)
  have B12 : Hid (Below w.heap.size w w12) := B12'.out.trans (hb.mono B12'.out.size)
  have OW12 : Hid (w12.ownsRow w2.heap.size 40 7 (.slice aw N cw) N (cellsR R)) := own_below OW12'.out hb
  have OG12 : Hid (w12.ownsRow w4.heap.size 40 7 (.slice ag N cg) N (cellsR (marksR 1 N))) := own_below OG12'.out hb
  clear hb B12' OW12' OG12' D12 oy
  go_wp2_with fail
  refine C13.mono ?_
  rintro e w13 ⟨⟨ah, ch, rfl, oh⟩, hb⟩
  have OH13 : Hid (w13.ownsRow w12.heap.size 40 7 (.slice ah N ch) N (cellsR R)) := oh
  have B13 : Hid (Below w.heap.size w w13) := B12.out.trans (hb.mono B12.out.size)
  have OW13 : Hid (w13.ownsRow w2.heap.size 40 7 (.slice aw N cw) N (cellsR R)) := own_below OW12.out hb
  have OG13 : Hid (w13.ownsRow w4.heap.size 40 7 (.slice ag N cg) N (cellsR (marksR 1 N))) := own_below OG12.out hb
  have s13 : w12.heap.size ≤ w13.heap.size := hb.size
  clear hb B12 OW12 OG12
  clear C13 oh
  have C14 := CQ.out w13 ah ch aw cw (RdR.own OH13.out) (RdR.own OW13.out)
  go_wp2_with fail
  refine C14.mono ?_
  rintro e w14 ⟨rfl, hb⟩
  have B14 : Hid (Below w.heap.size w w14) := B13.out.trans (hb.mono B13.out.size)
  have OG14 : Hid (w14.ownsRow w4.heap.size 40 7 (.slice ag N cg) N (cellsR (marksR 1 N))) := own_below OG13.out hb
  have s14 : w13.heap.size ≤ w14.heap.size := hb.size
  clear hb B13 OG13
  clear C14
  have C15 := CH.out w14 (RdR.own OG14.out)
  go_wp2_with fail
  refine C15.mono ?_
  rintro e w15 ⟨rfl, hb⟩
  have B15 : Hid (Below w.heap.size w w15) := B14.out.trans (hb.mono B14.out.size)
  clear hb C15
  go_wp2
  go_ret
  exact ⟨rfl, B15.out⟩

end Go.Proofs.Ytiobobocjokgiaa
