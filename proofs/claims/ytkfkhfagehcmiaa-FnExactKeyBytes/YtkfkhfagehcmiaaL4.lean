/-
  The walk of the law of KeyBytes.
-/
import Derived.Test.YtkfkhfagehcmiaaKi
import Derived.Test.YtkfkhfagehcmiaaVm
import Derived.Test.YtkfkhfagehcmiaaKa
namespace Go.Proofs.Ytkfkhfagehcmiaa
open Go Go.RowKit

theorem resK_len {vs : List VV} {n : Nat} (hl : vs.length = n) : (resK vs n).length ≤ 50000 := by
  unfold resK
  split
  · rename_i h
    unfold errK at h
    by_cases h1 : 4096 < n
    · rw [if_pos h1] at h; cases h
    · rw [if_neg h1] at h
      cases ho : allV vs n
      · rw [ho] at h; cases h
      · have := kbZ_len (vs := vs) n (by omega) ho
        omega
  · simp

set_option maxRecDepth 100000 in
set_option maxHeartbeats 4000000 in
theorem law7 (a : Option Addr) (n cap : Nat) (vs : List VV) (w : World) (hr : RdC w a n vs) (hm : n ≤ maxLen) (hs : ∀ v ∈ vs, v.2.2.size ≤ maxLen) :
    Calls Try.prog 8 #[.slice a n cap] w fun e w' => e = .returned (.bool true) ∧ Below w.heap.size w w' := by
  have HR : Hid (RdC w a n vs) := hr
  have HS : Hid (∀ v ∈ vs, v.2.2.size ≤ maxLen) := hs
  have hl : vs.length = n := hr.1
  clear hr hs
  go_enter Try.func8, Try.ntmps8
  go_wp2_with fail
  refine (c_szV a n cap vs 1048576 w HR.out hm HS.out (by omega) (by omega)).mono ?_
  rintro e W ⟨rfl, hbW⟩
  have HBW : Hid (Below w.heap.size w W) := hbW
  have sW : w.heap.size ≤ W.heap.size := hbW.size
  clear hbW
  obtain ⟨z, hz⟩ : ∃ z, z = sizeS 1048576 n (txtV vs) := ⟨_, rfl⟩
  rw [← hz]
  by_cases hneg : z < 0
  · clear hz
    go_wp2
    go_ret
    exact ⟨rfl, HBW.out⟩
  · have hsz : n ≤ 1048576 ∧ ∀ v ∈ vs, v.2.2.size ≤ 1048576 := by
      unfold sizeS at hz
      by_cases h1 : (1048576 : Int) - n < 0
      · rw [if_pos h1] at hz; omega
      · rw [if_neg h1] at hz
        have := szL_ok (txtV vs) (1048576 - n) (by omega) (by omega)
        exact ⟨by omega, fun v h => by have := this.2 v.2.2 (List.mem_map.2 ⟨v, h, rfl⟩); omega⟩
    have hn := hsz.1
    have HSS : Hid (∀ v ∈ vs, v.2.2.size ≤ 1048576) := hsz.2
    have hL := resK_len hl
    clear hsz hz
    -- the specification's answer
    go_wp2_with fail
    refine (c_toV a n cap vs W (HR.out.below HBW.out) hn).mono ?_
    rintro e w1 ⟨rfl, ho1, hb1⟩
    go_wp2_with fail
    refine (c_specK _ n n vs w1 (RdC.own ho1) hn HSS.out).mono ?_
    rintro e w2 ⟨a2, c2, rfl, ho2, hb2⟩
    have HB2 : Hid (Below w.heap.size w w2) := HBW.out.trans ((hb1.trans (hb2.mono hb1.size)).mono sW)
    have s12 : w1.heap.size ≤ w2.heap.size := hb2.size
    have s01 : w.heap.size ≤ w1.heap.size := Nat.le_trans sW hb1.size
    have HO2 : Hid (w2.ownsRow w1.heap.size 5 1 (.slice a2 (resK vs n).length c2) (resK vs n).length ((resK vs n).map (Value.int .u8))) := ho2
    have HG2 : Hid (∀ g, (Value.slice a2 (resK vs n).length c2).ownBlock = some g → w1.heap.size ≤ g ∧ g < w2.heap.size) := ho2.lt
    clear ho1 ho2 hb1 hb2
    -- the program's
    go_wp2_with fail
    refine (c_toV a n cap vs w2 (HR.out.below HB2.out) hn).mono ?_
    rintro e w3 ⟨rfl, ho3, hb3⟩
    have HB3 : Hid (Below w.heap.size w w3) := HB2.out.trans (hb3.mono HB2.out.size)
    have s23 : w2.heap.size < w3.heap.size := (ho3.lt w2.heap.size rfl).2
    have HO3 : Hid (w3.ownsRow w1.heap.size 5 1 (.slice a2 (resK vs n).length c2) _ _) := own_below HO2.out hb3
    have HX3 : Hid (w3.ownsRow w2.heap.size 25 3 (.slice (some ⟨w2.heap.size, 0, none⟩) n n) n (cellsV vs)) := ho3
    clear ho3 hb3 HO2
    go_wp2_with fail
    refine (c_implK _ n n vs w3 (RdC.own HX3.out) hn HSS.out).mono ?_
    rintro e w4 ⟨a4, c4, rfl, ho4, hb4⟩
    have HB4 : Hid (Below w.heap.size w w4) := HB3.out.trans (hb4.mono HB3.out.size)
    have s34 : w3.heap.size ≤ w4.heap.size := hb4.size
    have HO4 : Hid (w4.ownsRow w1.heap.size 5 1 (.slice a2 (resK vs n).length c2) _ _) := own_below HO3.out hb4
    have HX4 : Hid (w4.ownsRow w2.heap.size 25 3 (.slice (some ⟨w2.heap.size, 0, none⟩) n n) n _) := own_below HX3.out hb4
    have HP4 : Hid (w4.ownsRow w3.heap.size 5 1 (.slice a4 (resK vs n).length c4) (resK vs n).length ((resK vs n).map (Value.int .u8))) := ho4
    have HG4 : Hid (∀ g, (Value.slice a4 (resK vs n).length c4).ownBlock = some g → w3.heap.size ≤ g ∧ g < w4.heap.size) := ho4.lt
    clear ho4 hb4 HO3 HX3
    go_wp2_with fail
    refine (c_eqB a4 a2 (resK vs n).length c4 (resK vs n).length c2 (resK vs n) (resK vs n) w4 (RdV.own HP4.out) (RdV.own HO4.out) (by omega) (by omega)).mono ?_
    rintro e w5 ⟨rfl, q5, rfl⟩
    rw [decide_eq_true (rfl : resK vs n = resK vs n)]
    go_wp2_with fail
    refine (c_toV a n cap vs _ (HR.out.below (below_drewN HB4.out q5)) hn).mono ?_
    rintro e w6 ⟨rfl, ho6, hb6⟩
    have HB6 : Hid (Below w.heap.size w w6) := (below_drewN HB4.out q5).trans (hb6.mono HB4.out.size)
    have s46 : w4.heap.size ≤ w6.heap.size := hb6.size
    have HO6 : Hid (w6.ownsRow w1.heap.size 5 1 (.slice a2 (resK vs n).length c2) _ _) := own_below (own_drewN HO4.out q5) hb6
    have HX6 : Hid (w6.ownsRow w2.heap.size 25 3 (.slice (some ⟨w2.heap.size, 0, none⟩) n n) n _) := own_below (own_drewN HX4.out q5) hb6
    have HP6 : Hid (w6.ownsRow w3.heap.size 5 1 (.slice a4 (resK vs n).length c4) _ _) := own_below (own_drewN HP4.out q5) hb6
    go_wp2_with fail
    refine (c_eqV (some ⟨w2.heap.size, 0, none⟩) _ n n n n vs vs w6 (RdC.own HX6.out) (RdC.own ho6) hn hn).mono ?_
    rintro e w7 ⟨rfl, hb7⟩
    rw [decide_eq_true (rfl : vs = vs)]
    have HB7 : Hid (Below w.heap.size w w7) := HB6.out.trans (hb7.mono HB6.out.size)
    have s67 : w6.heap.size ≤ w7.heap.size := hb7.size
    have HO7 : Hid (w7.ownsRow w1.heap.size 5 1 (.slice a2 (resK vs n).length c2) (resK vs n).length ((resK vs n).map (Value.int .u8))) := own_below HO6.out hb7
    have HX7 : Hid (w7.ownsRow w2.heap.size 25 3 (.slice (some ⟨w2.heap.size, 0, none⟩) n n) n (cellsV vs)) := own_below HX6.out hb7
    have HP7 : Hid (w7.ownsRow w3.heap.size 5 1 (.slice a4 (resK vs n).length c4) (resK vs n).length ((resK vs n).map (Value.int .u8))) := own_below HP6.out hb7
    clear ho6 hb6 HO4 HX4 HP4 hb7 HO6 HX6 HP6
    -- marks in what was handed in
    go_wp2_with fail
    refine (c_markV w2.heap.size (.slice (some ⟨w2.heap.size, 0, none⟩) n n) n 1 vs w7 HX7.out (by omega) hn (by omega)).mono ?_
    rintro e w8 ⟨rfl, _, hg8⟩
    have HB8 : Hid (Below w.heap.size w w8) := HB7.out.grown hg8 HB7.out.size (fun k h => by have h' : w2.heap.size = k := Option.some.inj h; omega)
    have s68 : w7.heap.size ≤ w8.heap.size := hg8.size
    have HO8 : Hid (w8.ownsRow w1.heap.size 5 1 (.slice a2 (resK vs n).length c2) _ _) := kept_apart HO7.out hg8 (fun g h e => by have e' : w2.heap.size = g := Option.some.inj e; have := (HG2.out _ h).2; omega)
    have HP8 : Hid (w8.ownsRow w3.heap.size 5 1 (.slice a4 (resK vs n).length c4) _ _) := kept_apart HP7.out hg8 (fun g h e => by have e' : w2.heap.size = g := Option.some.inj e; have := (HG4.out _ h).1; omega)
    clear hg8 HO7 HX7 HP7
    go_wp2_with fail
    refine (c_eqB a4 a2 (resK vs n).length c4 (resK vs n).length c2 (resK vs n) (resK vs n) w8 (RdV.own HP8.out) (RdV.own HO8.out) (by omega) (by omega)).mono ?_
    rintro e w9 ⟨rfl, q9, rfl⟩
    rw [decide_eq_true (rfl : resK vs n = resK vs n)]
    -- marks in the answer
    go_wp2_with fail
    refine (c_markB w3.heap.size (.slice a4 (resK vs n).length c4) (resK vs n).length 1 _ (w8.drewN q9) (own_drewN HP8.out q9) (by omega) (by omega)).mono ?_
    rintro e w10 ⟨rfl, ho10, hg10⟩
    have HB10 : Hid (Below w.heap.size w w10) := (below_drewN HB8.out q9).grown hg10 HB8.out.size (fun k h => by have := (HG4.out k h).1; omega)
    have HO10 : Hid (w10.ownsRow w1.heap.size 5 1 (.slice a2 (resK vs n).length c2) _ _) := kept_apart (own_drewN HO8.out q9) hg10 (fun g h e => by have := (HG2.out _ h).2; have := (HG4.out _ e).1; omega)
    have HP10 : Hid (w10.ownsRow w3.heap.size 5 1 (.slice a4 (resK vs n).length c4) _ (marksB 1 (resK vs n).length)) := ho10
    clear hg10 ho10 HO8 HP8
    go_wp2_with fail
    refine (c_heldB a4 (resK vs n).length c4 1 w10 (RdV.own HP10.out) (by omega) (by omega)).mono ?_
    rintro e w11 ⟨rfl, hw⟩
    have hw := hw.symm
    subst hw
    go_wp2_with fail
    refine (c_toV a n cap vs w10 (HR.out.below HB10.out) hn).mono ?_
    rintro e w12 ⟨rfl, ho12, hb12⟩
    have HB12 : Hid (Below w.heap.size w w12) := HB10.out.trans (hb12.mono HB10.out.size)
    have HO12 : Hid (w12.ownsRow w1.heap.size 5 1 (.slice a2 (resK vs n).length c2) _ _) := own_below HO10.out hb12
    have HP12 : Hid (w12.ownsRow w3.heap.size 5 1 (.slice a4 (resK vs n).length c4) _ (marksB 1 (resK vs n).length)) := own_below HP10.out hb12
    have HR12 : Hid (RdC w12 (some ⟨w10.heap.size, 0, none⟩) n vs) := RdC.own ho12
    clear ho12 hb12 HO10 HP10
    go_wp2_with fail
    refine (c_implK _ n n vs w12 HR12.out hn HSS.out).mono ?_
    rintro e w13 ⟨a13, c13, rfl, ho13, hb13⟩
    have HB13 : Hid (Below w.heap.size w w13) := HB12.out.trans (hb13.mono HB12.out.size)
    have HO13 : Hid (w13.ownsRow w1.heap.size 5 1 (.slice a2 (resK vs n).length c2) _ _) := own_below HO12.out hb13
    have HP13 : Hid (w13.ownsRow w3.heap.size 5 1 (.slice a4 (resK vs n).length c4) _ (marksB 1 (resK vs n).length)) := own_below HP12.out hb13
    have HQ13 : Hid (RdV w13 a13 (resK vs n).length ((resK vs n).map (Value.int .u8))) := RdV.own ho13
    clear ho13 hb13 HO12 HP12 HR12
    go_wp2_with fail
    refine (c_eqB a13 a2 (resK vs n).length c13 (resK vs n).length c2 (resK vs n) (resK vs n) w13 HQ13.out (RdV.own HO13.out) (by omega) (by omega)).mono ?_
    rintro e w14 ⟨rfl, q14, rfl⟩
    rw [decide_eq_true (rfl : resK vs n = resK vs n)]
    go_wp2_with fail
    refine (c_heldB a4 (resK vs n).length c4 1 (w13.drewN q14) (RdV.own (own_drewN HP13.out q14)) (by omega) (by omega)).mono ?_
    rintro e w15 ⟨rfl, hw⟩
    have hw := hw.symm
    subst hw
    go_wp2
    go_ret
    exact ⟨rfl, below_drewN HB13.out q14⟩
end Go.Proofs.Ytkfkhfagehcmiaa
