/-
  The law of SortRows.
-/
import Derived.Test.YtlapmidiakaimaaSk
import Derived.Test.YtlapmidiakaimaaRm
import Derived.Deep.RegionHeld3
namespace Go.Proofs.Ytlapmidiakaimaa
open Go Go.RowKit
attribute [local go_sem ↓] Go.wp_at_zero Go.wp_at_succ

set_option linter.unusedVariables false
set_option linter.unusedSimpArgs false
theorem AnsR.no2 {base n : Nat} {vs : List RW} {c : Int} {d : Bool} {w' : World} {k : Int} {g : Nat} (h : sortC n vs c = k) (hk : k ≠ 0) (ho : w'.ownsRow base 35 7 (.slice (some ⟨g, 0, none⟩) 0 0) 0 []) : AnsR base n vs c d (.returned (.tuple #[.slice (some ⟨g, 0, none⟩) 0 0, .int .i64 k])) w' := by
  have e1 : sortN n vs c = 0 := by unfold sortN; rw [if_neg (by rw [h]; exact hk)]
  have e2 : sortO n vs c d = [] := by unfold sortO; rw [if_neg (by rw [h]; exact hk)]
  exact ⟨some ⟨g, 0, none⟩, 0, by rw [e1, h], by rw [e1, e2]; exact ho⟩
theorem lit0 (w : World) (base : Nat) (h : base ≤ w.heap.size) : (w.alloc (.cells #[] 35)).ownsRow base 35 7 (.slice (some ⟨w.heap.size, 0, none⟩) 0 0) 0 [] := World.ownsRow_lit w #[] 0 h (Nat.zero_le _) rfl
theorem sortO_len (n : Nat) (vs : List RW) (c : Int) (d : Bool) (h : vs.length = n) : (sortO n vs c d).length = sortN n vs c := by
  unfold sortO sortN
  split
  · rw [sortR_len, h]
  · rfl
theorem sortN_le (n : Nat) (vs : List RW) (c : Int) : sortN n vs c ≤ n := by unfold sortN; split <;> omega
set_option maxRecDepth 100000 in
set_option maxHeartbeats 8000000 in
theorem c_specSR (a : Option Addr) (n cp : Nat) (vs : List RW) (c : Int) (d : Bool) (w : World) (hr : RdR w a n vs) (hn : n ≤ 1048576) (hs : ∀ v ∈ vs, v.t.size ≤ maxLen ∧ v.z.size ≤ maxLen) :
    Calls Try.prog 14 #[.slice a n cp, .int .i64 c, .bool d] w fun e w' => AnsR w.heap.size n vs c d e w' ∧ Below w.heap.size w w' := by
  by_cases h1 : 4096 < n
  · have E : Hid (sortC n vs c = 2) := by unfold Hid sortC fltR; rw [if_pos h1]; rfl
    clear hr hs
    go_enter Try.func14, Try.ntmps14
    go_wp2
    go_ret2
    exact ⟨AnsR.no2 E.out (by decide) (lit0 _ _ (Nat.le_refl _)), (Below.refl _ _).alloc (Nat.le_refl _) _⟩
  by_cases h2 : 100 < n
  · have E : Hid (sortC n vs c = 6) := by unfold Hid sortC fltR; rw [if_neg h1, if_pos h2]; rfl
    clear hr hs
    go_enter Try.func14, Try.ntmps14
    go_wp2
    go_ret2
    exact ⟨AnsR.no2 E.out (by decide) (lit0 _ _ (Nat.le_refl _)), (Below.refl _ _).alloc (Nat.le_refl _) _⟩
  have C := c_lRows a n cp vs w hr (by omega) hs
  obtain ⟨b, hb⟩ : ∃ b, rowsB vs = b := ⟨_, rfl⟩
  have E : Hid (sortC n vs c = if b then (if inB c 0 2 then 0 else 4) else 1) := by unfold Hid sortC fltR; rw [if_neg h1, if_neg h2, hb]; cases b <;> rfl
  rw [hb] at C
  have HR : Hid (RdR w a n vs) := hr
  clear hr hs hb
  obtain ⟨p, hp⟩ : ∃ p, inB c 0 2 = p := ⟨_, rfl⟩
  have C2 : Hid (∀ W, Calls Try.prog 35 #[.int .i64 c, .int .i64 0, .int .i64 2] W fun e w' => e = .returned (.bool p) ∧ w' = W) := fun W => by rw [← hp]; exact c_in c 0 2 W
  have HP : Hid (inB c 0 2 = p) := hp
  rw [hp] at E
  clear hp
  go_enter Try.func14, Try.ntmps14
  go_wp2_with fail
  refine C.mono ?_
  rintro e w1 ⟨rfl, hb⟩
  clear C
  cases b
  · go_wp2
    go_ret2
    exact ⟨AnsR.no2 E.out (by decide) (lit0 _ _ hb.size), hb.alloc hb.size _⟩
  have D2 := C2.out w1
  clear C2
  go_wp2_with fail
  refine D2.mono ?_
  rintro e w2 ⟨rfl, hw⟩
  rw [hw]
  clear D2 hw
  cases p
  · go_wp2
    go_ret2
    exact ⟨AnsR.no2 E.out (by decide) (lit0 _ _ hb.size), hb.alloc hb.size _⟩
  have C3 := c_l12Sort a n cp vs c d w1 (HR.out.below hb) (by omega) HP.out
  go_wp2_with fail
  refine C3.mono ?_
  rintro e w3 ⟨⟨a3, c3, rfl, o3⟩, hb3⟩
  have B3 : Hid (Below w.heap.size w w3) := hb.trans (hb3.mono hb.size)
  have O3 : Hid (w3.ownsRow w.heap.size 35 7 (.slice a3 n c3) n (cellsR (sortR (ordF c d) vs))) := World.ownsRow.mono o3 hb.size
  clear hb hb3 o3 C3
  go_wp2
  go_ret2
  exact ⟨AnsR.yes E.out O3.out, B3.out⟩
theorem below_grown {w W W' : World} {r : Option Nat} (h : Below w.heap.size w W) (hg : W.grownBy W' r) (hr : ∀ g, r = some g → w.heap.size ≤ g) : Below w.heap.size w W' := ⟨hg.os.trans h.os, hg.tape.trans h.tape, hg.output.trans h.output, Nat.le_trans h.size hg.size, fun j hj => (hg.block j (Nat.lt_of_lt_of_le hj h.size) (fun e => by have := hr j e.symm; omega)).trans (h.block j hj)⟩
theorem own_blk {w : World} {B t s n cap : Nat} {a : Option Addr} {xs : List Value} (h : w.ownsRow B t s (.slice a n cap) n xs) : ∀ g, ob a = some g → B ≤ g ∧ g < w.heap.size := fun g hg => by
  rcases own_form h with ⟨e, _⟩ | ⟨g', c', hv, hb, hl⟩
  · simp only [Value.slice.injEq] at e; rw [e.1] at hg; cases hg
  · simp only [Value.slice.injEq] at hv; rw [hv.1] at hg; cases hg; exact ⟨hb, hl⟩
theorem own_grown {w w' : World} {B t s n cap : Nat} {a : Option Addr} {r : Option Nat} {xs : List Value} (h : w.ownsRow B t s (.slice a n cap) n xs) (hg : w.grownBy w' r) (hne : ∀ g, ob a = some g → r ≠ some g) : w'.ownsRow B t s (.slice a n cap) n xs := by
  refine h.kept hg ?_
  rw [ob_slice]
  cases e : ob a with
  | none => exact .inl rfl
  | some g => exact .inr (fun q => hne g e q.symm)
set_option maxRecDepth 100000 in
set_option maxHeartbeats 8000000 in
theorem law_FnExactSortRows (a : Option Addr) (n cp : Nat) (vs : List RW) (c : Int) (d : Bool) (w : World) (hr : RdR w a n vs) (hm : n ≤ maxLen) (hs : ∀ v ∈ vs, v.t.size ≤ maxLen ∧ v.z.size ≤ maxLen) :
    Calls Try.prog 4 #[.slice a n cp, .int .i64 c, .bool d] w fun e w' => e = .returned (.bool true) ∧ Below w.heap.size w w' := by
  have C1 := c_szR a n cp vs 1048576 w hr hm hs (by omega) (by omega)
  have HR : Hid (RdR w a n vs) := hr
  have HS : Hid (∀ v ∈ vs, v.t.size ≤ maxLen ∧ v.z.size ≤ maxLen) := hs
  clear hr hs
  go_enter Try.func4, Try.ntmps4
  go_wp2_with fail
  refine C1.mono ?_
  rintro e w1 ⟨⟨z, rfl, hz, hzn⟩, hb⟩
  have B1 : Hid (Below w.heap.size w w1) := hb
  have s1 : w.heap.size ≤ w1.heap.size := B1.out.size
  clear hb C1
  by_cases hneg : z < 0
  · clear hzn
    go_wp2
    go_ret
    exact ⟨rfl, B1.out⟩
  have hn : n ≤ 1048576 := hzn (by omega)
  obtain ⟨R, hR⟩ : ∃ R, sortO n vs c d = R := ⟨_, rfl⟩
  obtain ⟨N, hN⟩ : ∃ N, sortN n vs c = N := ⟨_, rfl⟩
  obtain ⟨cc, hcc⟩ : ∃ x, sortC n vs c = x := ⟨_, rfl⟩
  have hNn : N ≤ 1048576 := by have := sortN_le n vs c; omega
  have CT : Hid (∀ W, Below w.heap.size w W → Calls Try.prog 15 #[.slice a n cp] W fun e w' => e = .returned (.slice (some ⟨W.heap.size, 0, none⟩) n n) ∧ w'.ownsRow W.heap.size 35 7 (.slice (some ⟨W.heap.size, 0, none⟩) n n) n (cellsR vs) ∧ Below W.heap.size W w') := fun W hW => c_toR a n cp vs W (HR.out.below hW) hn
  have CS : Hid (∀ W a' c', RdR W a' n vs → Calls Try.prog 14 #[.slice a' n c', .int .i64 c, .bool d] W fun e w' => (∃ (a1 : Option Addr) (c1 : Nat), e = .returned (.tuple #[.slice a1 N c1, .int .i64 cc]) ∧ w'.ownsRow W.heap.size 35 7 (.slice a1 N c1) N (cellsR R)) ∧ Below W.heap.size W w') := fun W a' c' h => by rw [← hR, ← hN, ← hcc]; exact c_specSR a' n c' vs c d W h hn HS.out
  have CI : Hid (∀ W a' c', RdR W a' n vs → Calls Try.prog 16 #[.slice a' n c', .int .i64 c, .bool d] W fun e w' => (∃ (a1 : Option Addr) (c1 : Nat), e = .returned (.tuple #[.slice a1 N c1, .int .i64 cc]) ∧ w'.ownsRow W.heap.size 35 7 (.slice a1 N c1) N (cellsR R)) ∧ Below W.heap.size W w') := fun W a' c' h => by rw [← hR, ← hN, ← hcc]; exact c_implSR a' n c' vs c d W h hn HS.out
  have CE : Hid (∀ W a1 c1 a2 c2, RdR W a1 n vs → RdR W a2 n vs → Calls Try.prog 17 #[.slice a1 n c1, .slice a2 n c2] W fun e w' => e = .returned (.bool true) ∧ Below W.heap.size W w') := fun W a1 c1 a2 c2 h1 h2 => c_eqR a1 a2 n c1 c2 vs W h1 h2 hn
  have CQ : Hid (∀ W a1 c1 a2 c2, RdR W a1 N R → RdR W a2 N R → Calls Try.prog 17 #[.slice a1 N c1, .slice a2 N c2] W fun e w' => e = .returned (.bool true) ∧ Below W.heap.size W w') := fun W a1 c1 a2 c2 h1 h2 => c_eqR a1 a2 N c1 c2 R W h1 h2 hNn
  clear hzn HS HR hR hcc hN
  have D1 := CT.out w1 B1.out
  go_wp2_with fail
  refine D1.mono ?_
  rintro e w2 ⟨rfl, r2, hb⟩
  have CS2 := CS.out w2 _ n (RdR.own r2)
  have B2 : Hid (Below w.heap.size w w2) := B1.out.trans (hb.mono B1.out.size)
  have s2 : w1.heap.size ≤ w2.heap.size := hb.size
  clear hb B1 
  clear CS r2 D1
  go_wp2_with fail
  refine CS2.mono ?_
  rintro e w3 ⟨⟨aw, cw, rfl, ow⟩, hb⟩
  have OW3 : Hid (w3.ownsRow w2.heap.size 35 7 (.slice aw N cw) N (cellsR R)) := ow
  have B3 : Hid (Below w.heap.size w w3) := B2.out.trans (hb.mono B2.out.size)
  have s3 : w2.heap.size ≤ w3.heap.size := hb.size
  clear hb B2 
  clear CS2 ow
  have GW : Hid (∀ g, ob aw = some g → w2.heap.size ≤ g ∧ g < w3.heap.size) := own_blk OW3.out
  have D3 := CT.out w3 B3.out
  go_wp2_with fail
  refine D3.mono ?_
  rintro e w4 ⟨rfl, ox, hb⟩
  have OX4 : Hid (w4.ownsRow w3.heap.size 35 7 (.slice (some ⟨w3.heap.size, 0, none⟩) n n) n (cellsR vs)) := ox
  have B4 : Hid (Below w.heap.size w w4) := B3.out.trans (hb.mono B3.out.size)
  have OW4 : Hid (w4.ownsRow w2.heap.size 35 7 (.slice aw N cw) N (cellsR R)) := own_below OW3.out hb
  have s4 : w3.heap.size ≤ w4.heap.size := hb.size
  clear hb B3 OW3
  have GX : w3.heap.size < w4.heap.size := (own_blk OX4.out _ rfl).2
  clear ox D3
  have C4 := CI.out w4 _ n (RdR.own OX4.out)
  go_wp2_with fail
  refine C4.mono ?_
  rintro e w5 ⟨⟨ag, cg, rfl, og⟩, hb⟩
  have OG5 : Hid (w5.ownsRow w4.heap.size 35 7 (.slice ag N cg) N (cellsR R)) := og
  have B5 : Hid (Below w.heap.size w w5) := B4.out.trans (hb.mono B4.out.size)
  have OW5 : Hid (w5.ownsRow w2.heap.size 35 7 (.slice aw N cw) N (cellsR R)) := own_below OW4.out hb
  have OX5 : Hid (w5.ownsRow w3.heap.size 35 7 (.slice (some ⟨w3.heap.size, 0, none⟩) n n) n (cellsR vs)) := own_below OX4.out hb
  have s5 : w4.heap.size ≤ w5.heap.size := hb.size
  clear hb B4 OW4 OX4
  have GG : Hid (∀ g, ob ag = some g → w4.heap.size ≤ g ∧ g < w5.heap.size) := own_blk OG5.out
  clear og C4
  have nn : (cc != cc) = false := by simp
  have C5 := CQ.out w5 ag cg aw cw (RdR.own OG5.out) (RdR.own OW5.out)
  go_wp2_with fail
  refine C5.mono ?_
  rintro e w6 ⟨rfl, hb⟩
  have B6 : Hid (Below w.heap.size w w6) := B5.out.trans (hb.mono B5.out.size)
  have OW6 : Hid (w6.ownsRow w2.heap.size 35 7 (.slice aw N cw) N (cellsR R)) := own_below OW5.out hb
  have OX6 : Hid (w6.ownsRow w3.heap.size 35 7 (.slice (some ⟨w3.heap.size, 0, none⟩) n n) n (cellsR vs)) := own_below OX5.out hb
  have OG6 : Hid (w6.ownsRow w4.heap.size 35 7 (.slice ag N cg) N (cellsR R)) := own_below OG5.out hb
  have s6 : w5.heap.size ≤ w6.heap.size := hb.size
  clear hb B5 OW5 OX5 OG5
  clear C5
  have D6 := CT.out w6 B6.out
  go_wp2_with fail
  refine D6.mono ?_
  rintro e w7 ⟨rfl, oy, hb⟩
  have RY : Hid (RdR w7 (some ⟨w6.heap.size, 0, none⟩) n vs) := RdR.own oy
  have B7 : Hid (Below w.heap.size w w7) := B6.out.trans (hb.mono B6.out.size)
  have OW7 : Hid (w7.ownsRow w2.heap.size 35 7 (.slice aw N cw) N (cellsR R)) := own_below OW6.out hb
  have OX7 : Hid (w7.ownsRow w3.heap.size 35 7 (.slice (some ⟨w3.heap.size, 0, none⟩) n n) n (cellsR vs)) := own_below OX6.out hb
  have OG7 : Hid (w7.ownsRow w4.heap.size 35 7 (.slice ag N cg) N (cellsR R)) := own_below OG6.out hb
  have s7 : w6.heap.size ≤ w7.heap.size := hb.size
  clear hb B6 OW6 OX6 OG6
  clear D6 oy
  have C7 := CE.out w7 _ n _ n (RdR.own OX7.out) RY.out
  go_wp2_with fail
  refine C7.mono ?_
  rintro e w8 ⟨rfl, hb⟩
  have B8 : Hid (Below w.heap.size w w8) := B7.out.trans (hb.mono B7.out.size)
  have OW8 : Hid (w8.ownsRow w2.heap.size 35 7 (.slice aw N cw) N (cellsR R)) := own_below OW7.out hb
  have OX8 : Hid (w8.ownsRow w3.heap.size 35 7 (.slice (some ⟨w3.heap.size, 0, none⟩) n n) n (cellsR vs)) := own_below OX7.out hb
  have OG8 : Hid (w8.ownsRow w4.heap.size 35 7 (.slice ag N cg) N (cellsR R)) := own_below OG7.out hb
  have s8 : w7.heap.size ≤ w8.heap.size := hb.size
  clear hb B7 OW7 OX7 OG7
  clear C7 RY CE
  have C8 := c_markR w3.heap.size (.slice (some ⟨w3.heap.size, 0, none⟩) n n) n 1 vs w8 OX8.out (by omega) (by omega) (by omega)
  obtain ⟨z9, hz9⟩ : ∃ z : Int, ((1 + n * 7 : Nat) : Int) = z := ⟨_, rfl⟩
  have hz90 : ¬ z9 < 0 := by omega
  rw [hz9] at C8
  clear hz9
  go_wp2_with fail
  refine C8.mono ?_
  rintro e w9 ⟨rfl, _, hg⟩
  have B9 : Hid (Below w.heap.size w w9) := below_grown B8.out hg (fun g e => by have e' : w3.heap.size = g := Option.some.inj e; omega)
  have OW9 : Hid (w9.ownsRow w2.heap.size 35 7 (.slice aw N cw) N (cellsR R)) := own_grown OW8.out hg (fun g e q => by have := GW.out g e; have e' : w3.heap.size = g := Option.some.inj q; omega)
  have OG9 : Hid (w9.ownsRow w4.heap.size 35 7 (.slice ag N cg) N (cellsR R)) := own_grown OG8.out hg (fun g e q => by have := GG.out g e; have e' : w3.heap.size = g := Option.some.inj q; omega)
  have s9 : w8.heap.size ≤ w9.heap.size := hg.size
  clear hg B8 OW8 OG8 OX8 C8
  have C9 := CQ.out w9 ag cg aw cw (RdR.own OG9.out) (RdR.own OW9.out)
  go_wp2_with fail
  refine C9.mono ?_
  rintro e w10 ⟨rfl, hb⟩
  have B10 : Hid (Below w.heap.size w w10) := B9.out.trans (hb.mono B9.out.size)
  have OW10 : Hid (w10.ownsRow w2.heap.size 35 7 (.slice aw N cw) N (cellsR R)) := own_below OW9.out hb
  have OG10 : Hid (w10.ownsRow w4.heap.size 35 7 (.slice ag N cg) N (cellsR R)) := own_below OG9.out hb
  have s10 : w9.heap.size ≤ w10.heap.size := hb.size
  clear hb B9 OW9 OG9
  clear C9
  have C10 := c_markR w4.heap.size (.slice ag N cg) N 1 R w10 OG10.out (by omega) (by omega) (by omega)
  have CH : Hid (∀ W, RdR W ag N (marksR 1 N) → Calls Try.prog 19 #[.slice ag N cg, .int .i64 1] W fun e w' => e = .returned (.int .i64 (1 + N * 7 : Nat)) ∧ Below W.heap.size W w') := fun W h => c_heldR ag N cg 1 W h (by omega) (by omega) (by omega)
  obtain ⟨m, hm'⟩ : ∃ m : Int, ((1 + N * 7 : Nat) : Int) = m := ⟨_, rfl⟩
  have hm0 : ¬ m < 0 := by omega
  have mm : (m != m) = false := by simp
  rw [hm'] at C10 CH
  clear hm'
  go_wp2_with fail
  refine C10.mono ?_
  rintro e w11 ⟨rfl, og, hg⟩
  rw [ob_slice] at hg
  have OG11 : Hid (w11.ownsRow w4.heap.size 35 7 (.slice ag N cg) N (cellsR (marksR 1 N))) := og
  have B11 : Hid (Below w.heap.size w w11) := below_grown B10.out hg (fun g e => by have := GG.out g e; omega)
  have OW11 : Hid (w11.ownsRow w2.heap.size 35 7 (.slice aw N cw) N (cellsR R)) := own_grown OW10.out hg (fun g e q => by have := GW.out g e; have := GG.out g q; omega)
  have s11 : w10.heap.size ≤ w11.heap.size := hg.size
  clear hg og B10 OW10 OG10 C10
  have C11 := CH.out w11 (RdR.own OG11.out)
  go_wp2_with fail
  refine C11.mono ?_
  rintro e w12' ⟨rfl, hb⟩
  have B12' : Hid (Below w.heap.size w w12') := B11.out.trans (hb.mono B11.out.size)
  have OW12' : Hid (w12'.ownsRow w2.heap.size 35 7 (.slice aw N cw) N (cellsR R)) := own_below OW11.out hb
  have OG12' : Hid (w12'.ownsRow w4.heap.size 35 7 (.slice ag N cg) N (cellsR (marksR 1 N))) := own_below OG11.out hb
  clear hb B11 OW11 OG11 C11
  have D12 := CT.out w12' B12'.out
  go_wp2_with fail
  refine D12.mono ?_
  rintro e w12 ⟨rfl, oy, hb⟩
  have C13 := CI.out w12 _ n (RdR.own oy)
  have B12 : Hid (Below w.heap.size w w12) := B12'.out.trans (hb.mono B12'.out.size)
  have OW12 : Hid (w12.ownsRow w2.heap.size 35 7 (.slice aw N cw) N (cellsR R)) := own_below OW12'.out hb
  have OG12 : Hid (w12.ownsRow w4.heap.size 35 7 (.slice ag N cg) N (cellsR (marksR 1 N))) := own_below OG12'.out hb
  clear hb B12' OW12' OG12' D12 oy
  go_wp2_with fail
  refine C13.mono ?_
  rintro e w13 ⟨⟨ah, ch, rfl, oh⟩, hb⟩
  have OH13 : Hid (w13.ownsRow w12.heap.size 35 7 (.slice ah N ch) N (cellsR R)) := oh
  have B13 : Hid (Below w.heap.size w w13) := B12.out.trans (hb.mono B12.out.size)
  have OW13 : Hid (w13.ownsRow w2.heap.size 35 7 (.slice aw N cw) N (cellsR R)) := own_below OW12.out hb
  have OG13 : Hid (w13.ownsRow w4.heap.size 35 7 (.slice ag N cg) N (cellsR (marksR 1 N))) := own_below OG12.out hb
  have s13 : w12.heap.size ≤ w13.heap.size := hb.size
  clear hb B12 OW12 OG12
  clear C13 oh
  have C14 := CQ.out w13 ah ch aw cw (RdR.own OH13.out) (RdR.own OW13.out)
  go_wp2_with fail
  refine C14.mono ?_
  rintro e w14 ⟨rfl, hb⟩
  have B14 : Hid (Below w.heap.size w w14) := B13.out.trans (hb.mono B13.out.size)
  have OG14 : Hid (w14.ownsRow w4.heap.size 35 7 (.slice ag N cg) N (cellsR (marksR 1 N))) := own_below OG13.out hb
  have s14 : w13.heap.size ≤ w14.heap.size := hb.size
  clear hb B13 OG13
  clear C14
  have C15 := CH.out w14 (RdR.own OG14.out)
  go_wp2_with fail
  refine C15.mono ?_
  rintro e w15 ⟨rfl, hb⟩
  have B15 : Hid (Below w.heap.size w w15) := B14.out.trans (hb.mono B14.out.size)
  clear hb C15
  go_wp2
  go_ret
  exact ⟨rfl, B15.out⟩

end Go.Proofs.Ytlapmidiakaimaa
