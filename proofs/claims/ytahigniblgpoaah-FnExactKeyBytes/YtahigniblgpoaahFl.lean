/-
  The walk of the law of FieldsBytes.
-/
import Derived.Test.YtahigniblgpoaahFi
namespace Go.Proofs.Ytahigniblgpoaah
open Go Go.RowKit

theorem kept_apart {w w' : World} {base e size n : Nat} {v : Value} {xs : List Value} {row : Option Nat} (h : w.ownsRow base e size v n xs) (hg : w.grownBy w' row) (hlt : ∀ g, v.ownBlock = some g → row ≠ some g) : w'.ownsRow base e size v n xs :=
  h.kept hg (by
    cases hv : v.ownBlock with
    | none => exact .inl rfl
    | some g => exact .inr (fun e => hlt g hv e.symm))
theorem own_base {w : World} {base base' e size n : Nat} {v : Value} {xs : List Value} (h : w.ownsRow base e size v n xs) (hb : base' ≤ base) : w.ownsRow base' e size v n xs := by
  refine ⟨h.1, ?_⟩
  rcases h.2 with h0 | ⟨g, cap, cur, h1, h2, h3⟩
  · exact .inl h0
  · exact .inr ⟨g, cap, cur, h1, Nat.le_trans hb h2, h3⟩
theorem own_drewN {w : World} {base e size n : Nat} {v : Value} {xs : List Value} (h : w.ownsRow base e size v n xs) (q : Nat) : (w.drewN q).ownsRow base e size v n xs := h
theorem resF_len {ss : List ByteArray} {n : Nat} (hl : ss.length = n) : (resF ss n).length ≤ 30000 := by
  unfold resF
  split
  · rename_i h
    unfold errF at h
    by_cases h1 : 4096 < n
    · rw [if_pos h1] at h; cases h
    · by_cases h2 : 100 < n
      · rw [if_neg h1, if_pos h2] at h; cases h
      · rw [if_neg h1, if_neg h2] at h
        cases ho : okF ss n
        · rw [ho] at h; cases h
        · have := fbZ_len (n := n) n (by omega) ho
          omega
  · simp

set_option maxHeartbeats 4000000 in
theorem law3 (a : Option Addr) (n cap : Nat) (ss : List ByteArray) (w : World) (hr : RdV w a n (ss.map Value.string)) (hm : n ≤ maxLen) (hs : ∀ s ∈ ss, s.size ≤ maxLen) :
    Calls Try.prog 3 #[.slice a n cap] w fun e w' => e = .returned (.bool true) ∧ Below w.heap.size w w' := by
  have HR : Hid (RdV w a n (ss.map Value.string)) := hr
  have HS : Hid (∀ s ∈ ss, s.size ≤ maxLen) := hs
  have hl : ss.length = n := by simpa using hr.1
  clear hr hs
  go_enter Try.func3, Try.ntmps3
  go_wp2_with fail
  refine (c_szS a n cap ss 1048576 w HR.out hm HS.out (by omega) (by omega)).mono ?_
  rintro e wx ⟨rfl, hw⟩
  have hw := hw.symm
  subst hw
  obtain ⟨z, hz⟩ : ∃ z, z = sizeS 1048576 n ss := ⟨_, rfl⟩
  rw [← hz]
  by_cases hneg : z < 0
  · clear hz
    go_wp2
    go_ret
    exact ⟨rfl, Below.refl _ _⟩
  · have hsz : n ≤ 1048576 ∧ ∀ s ∈ ss, s.size ≤ 1048576 := by
      unfold sizeS at hz
      by_cases h1 : (1048576 : Int) - n < 0
      · rw [if_pos h1] at hz; omega
      · rw [if_neg h1] at hz
        have := szL_ok ss (1048576 - n) (by omega) (by omega)
        exact ⟨by omega, fun s h => by have := this.2 s h; omega⟩
    have hn := hsz.1
    have HSS : Hid (∀ s ∈ ss, s.size ≤ 1048576) := hsz.2
    have hL := resF_len hl
    clear hsz hz
    -- the specification's answer
    go_wp2_with fail
    refine (c_toS a n cap ss w HR.out hn).mono ?_
    rintro e w1 ⟨rfl, ho1, hb1⟩
    go_wp2_with fail
    refine (c_specF _ n n ss w1 (RdV.own ho1) hn HSS.out).mono ?_
    rintro e w2 ⟨a2, c2, rfl, ho2, hb2⟩
    have HB2 : Hid (Below w.heap.size w w2) := hb1.trans (hb2.mono hb1.size)
    have s12 : w1.heap.size ≤ w2.heap.size := hb2.size
    have s01 : w.heap.size ≤ w1.heap.size := hb1.size
    have HO2 : Hid (w2.ownsRow w1.heap.size 5 1 (.slice a2 (resF ss n).length c2) (resF ss n).length ((resF ss n).map (Value.int .u8))) := ho2
    have HG2 : Hid (∀ g, (Value.slice a2 (resF ss n).length c2).ownBlock = some g → w1.heap.size ≤ g ∧ g < w2.heap.size) := ho2.lt
    clear ho1 ho2 hb1 hb2
    -- the program's
    go_wp2_with fail
    refine (c_toS a n cap ss w2 (HR.out.below HB2.out) hn).mono ?_
    rintro e w3 ⟨rfl, ho3, hb3⟩
    have HB3 : Hid (Below w.heap.size w w3) := HB2.out.trans (hb3.mono HB2.out.size)
    have s23 : w2.heap.size < w3.heap.size := (ho3.lt w2.heap.size rfl).2
    have HO3 : Hid (w3.ownsRow w1.heap.size 5 1 (.slice a2 (resF ss n).length c2) _ _) := own_below HO2.out hb3
    have HX3 : Hid (w3.ownsRow w2.heap.size 9 1 (.slice (some ⟨w2.heap.size, 0, none⟩) n n) n (ss.map Value.string)) := ho3
    clear ho3 hb3 HO2
    go_wp2_with fail
    refine (c_implF _ n n ss w3 (RdV.own HX3.out) hn HSS.out).mono ?_
    rintro e w4 ⟨a4, c4, rfl, ho4, hb4⟩
    have HB4 : Hid (Below w.heap.size w w4) := HB3.out.trans (hb4.mono HB3.out.size)
    have s34 : w3.heap.size ≤ w4.heap.size := hb4.size
    have HO4 : Hid (w4.ownsRow w1.heap.size 5 1 (.slice a2 (resF ss n).length c2) _ _) := own_below HO3.out hb4
    have HX4 : Hid (w4.ownsRow w2.heap.size 9 1 (.slice (some ⟨w2.heap.size, 0, none⟩) n n) n _) := own_below HX3.out hb4
    have HP4 : Hid (w4.ownsRow w3.heap.size 5 1 (.slice a4 (resF ss n).length c4) (resF ss n).length ((resF ss n).map (Value.int .u8))) := ho4
    have HG4 : Hid (∀ g, (Value.slice a4 (resF ss n).length c4).ownBlock = some g → w3.heap.size ≤ g ∧ g < w4.heap.size) := ho4.lt
    clear ho4 hb4 HO3 HX3
    go_wp2_with fail
    refine (c_eqB a4 a2 (resF ss n).length c4 (resF ss n).length c2 (resF ss n) (resF ss n) w4 (RdV.own HP4.out) (RdV.own HO4.out) (by omega) (by omega)).mono ?_
    rintro e w5 ⟨rfl, q5, rfl⟩
    rw [decide_eq_true (rfl : resF ss n = resF ss n)]
    go_wp2_with fail
    refine (c_toS a n cap ss _ (HR.out.below (below_drewN HB4.out q5)) hn).mono ?_
    rintro e w6 ⟨rfl, ho6, hb6⟩
    have HB6 : Hid (Below w.heap.size w w6) := (below_drewN HB4.out q5).trans (hb6.mono HB4.out.size)
    have s46 : w4.heap.size ≤ w6.heap.size := hb6.size
    have HO6 : Hid (w6.ownsRow w1.heap.size 5 1 (.slice a2 (resF ss n).length c2) _ _) := own_below (own_drewN HO4.out q5) hb6
    have HX6 : Hid (w6.ownsRow w2.heap.size 9 1 (.slice (some ⟨w2.heap.size, 0, none⟩) n n) n _) := own_below (own_drewN HX4.out q5) hb6
    have HP6 : Hid (w6.ownsRow w3.heap.size 5 1 (.slice a4 (resF ss n).length c4) _ _) := own_below (own_drewN HP4.out q5) hb6
    go_wp2_with fail
    refine (c_eqS (some ⟨w2.heap.size, 0, none⟩) _ n n n n ss ss w6 (RdV.own HX6.out) (RdV.own ho6) hn hn).mono ?_
    rintro e w7 ⟨rfl, q7, rfl⟩
    rw [decide_eq_true (rfl : ss = ss)]
    clear ho6 hb6 HO4 HX4 HP4
    -- marks in what was handed in
    go_wp2_with fail
    refine (c_markS w2.heap.size (.slice (some ⟨w2.heap.size, 0, none⟩) n n) n 1 _ (w6.drewN q7) (own_drewN HX6.out q7) (by omega) (by omega) (by omega)).mono ?_
    rintro e w8 ⟨rfl, _, hg8⟩
    have HB8 : Hid (Below w.heap.size w w8) := (below_drewN HB6.out q7).grown hg8 HB6.out.size (fun k h => by have h' : w2.heap.size = k := Option.some.inj h; omega)
    have s68 : w6.heap.size ≤ w8.heap.size := hg8.size
    have HO8 : Hid (w8.ownsRow w1.heap.size 5 1 (.slice a2 (resF ss n).length c2) _ _) := kept_apart (own_drewN HO6.out q7) hg8 (fun g h e => by have e' : w2.heap.size = g := Option.some.inj e; have := (HG2.out _ h).2; omega)
    have HP8 : Hid (w8.ownsRow w3.heap.size 5 1 (.slice a4 (resF ss n).length c4) _ _) := kept_apart (own_drewN HP6.out q7) hg8 (fun g h e => by have e' : w2.heap.size = g := Option.some.inj e; have := (HG4.out _ h).1; omega)
    clear hg8 HO6 HX6 HP6
    go_wp2_with fail
    refine (c_eqB a4 a2 (resF ss n).length c4 (resF ss n).length c2 (resF ss n) (resF ss n) w8 (RdV.own HP8.out) (RdV.own HO8.out) (by omega) (by omega)).mono ?_
    rintro e w9 ⟨rfl, q9, rfl⟩
    rw [decide_eq_true (rfl : resF ss n = resF ss n)]
    -- marks in the answer
    go_wp2_with fail
    refine (c_markB w3.heap.size (.slice a4 (resF ss n).length c4) (resF ss n).length 1 _ (w8.drewN q9) (own_drewN HP8.out q9) (by omega) (by omega)).mono ?_
    rintro e w10 ⟨rfl, ho10, hg10⟩
    have HB10 : Hid (Below w.heap.size w w10) := (below_drewN HB8.out q9).grown hg10 HB8.out.size (fun k h => by have := (HG4.out k h).1; omega)
    have HO10 : Hid (w10.ownsRow w1.heap.size 5 1 (.slice a2 (resF ss n).length c2) _ _) := kept_apart (own_drewN HO8.out q9) hg10 (fun g h e => by have := (HG2.out _ h).2; have := (HG4.out _ e).1; omega)
    have HP10 : Hid (w10.ownsRow w3.heap.size 5 1 (.slice a4 (resF ss n).length c4) _ (marksB 1 (resF ss n).length)) := ho10
    clear hg10 ho10 HO8 HP8
    go_wp2_with fail
    refine (c_heldB a4 (resF ss n).length c4 1 w10 (RdV.own HP10.out) (by omega) (by omega)).mono ?_
    rintro e w11 ⟨rfl, hw⟩
    have hw := hw.symm
    subst hw
    go_wp2_with fail
    refine (c_toS a n cap ss w10 (HR.out.below HB10.out) hn).mono ?_
    rintro e w12 ⟨rfl, ho12, hb12⟩
    have HB12 : Hid (Below w.heap.size w w12) := HB10.out.trans (hb12.mono HB10.out.size)
    have HO12 : Hid (w12.ownsRow w1.heap.size 5 1 (.slice a2 (resF ss n).length c2) _ _) := own_below HO10.out hb12
    have HP12 : Hid (w12.ownsRow w3.heap.size 5 1 (.slice a4 (resF ss n).length c4) _ (marksB 1 (resF ss n).length)) := own_below HP10.out hb12
    have HR12 : Hid (RdV w12 _ n (ss.map Value.string)) := RdV.own ho12
    clear ho12 hb12 HO10 HP10
    go_wp2_with fail
    refine (c_implF _ n n ss w12 HR12.out hn HSS.out).mono ?_
    rintro e w13 ⟨a13, c13, rfl, ho13, hb13⟩
    have HB13 : Hid (Below w.heap.size w w13) := HB12.out.trans (hb13.mono HB12.out.size)
    have HO13 : Hid (w13.ownsRow w1.heap.size 5 1 (.slice a2 (resF ss n).length c2) _ _) := own_below HO12.out hb13
    have HP13 : Hid (w13.ownsRow w3.heap.size 5 1 (.slice a4 (resF ss n).length c4) _ (marksB 1 (resF ss n).length)) := own_below HP12.out hb13
    have HQ13 : Hid (RdV w13 a13 (resF ss n).length ((resF ss n).map (Value.int .u8))) := RdV.own ho13
    clear ho13 hb13 HO12 HP12 HR12
    go_wp2_with fail
    refine (c_eqB a13 a2 (resF ss n).length c13 (resF ss n).length c2 (resF ss n) (resF ss n) w13 HQ13.out (RdV.own HO13.out) (by omega) (by omega)).mono ?_
    rintro e w14 ⟨rfl, q14, rfl⟩
    rw [decide_eq_true (rfl : resF ss n = resF ss n)]
    go_wp2_with fail
    refine (c_heldB a4 (resF ss n).length c4 1 (w13.drewN q14) (RdV.own (own_drewN HP13.out q14)) (by omega) (by omega)).mono ?_
    rintro e w15 ⟨rfl, hw⟩
    have hw := hw.symm
    subst hw
    go_wp2
    go_ret
    exact ⟨rfl, below_drewN HB13.out q14⟩
end Go.Proofs.Ytahigniblgpoaah
