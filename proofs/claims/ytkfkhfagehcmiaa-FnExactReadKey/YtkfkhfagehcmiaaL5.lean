/-
  The walk of the law of ReadKey.
-/
import Derived.Test.YtkfkhfagehcmiaaKh
namespace Go.Proofs.Ytkfkhfagehcmiaa
open Go Go.RowKit
attribute [local go_sem ↓] Go.wp_at_zero Go.wp_at_succ

theorem kept_apart' {w w' : World} {base e size n : Nat} {v : Value} {xs : List Value} {row : Option Nat} (h : w.ownsRow base e size v n xs) (hg : w.grownBy w' row) (hlt : ∀ g, v.ownBlock = some g → row ≠ some g) : w'.ownsRow base e size v n xs :=
  h.kept hg (by
    cases hv : v.ownBlock with
    | none => exact .inl rfl
    | some g => exact .inr (fun e => hlt g hv e.symm))
theorem own_drewN' {w : World} {base e size n : Nat} {v : Value} {xs : List Value} (h : w.ownsRow base e size v n xs) (q : Nat) : (w.drewN q).ownsRow base e size v n xs := h
set_option maxRecDepth 100000 in
set_option maxHeartbeats 4000000 in
theorem law_FnExactReadKey (a : Option Addr) (n cap : Nat) (zs : List Int) (w : World) (hr : RdV w a n (zs.map (Value.int .u8))) (hz : ∀ z ∈ zs, 0 ≤ z ∧ z < 256) (hm : n ≤ maxLen) :
    Calls Try.prog 9 #[.slice a n cap] w fun e w' => e = .returned (.bool true) ∧ Below w.heap.size w w' := by
  unfold maxLen at hm
  have HR : Hid (RdV w a n (zs.map (Value.int .u8))) := hr
  have HZ : Hid (∀ z ∈ zs, 0 ≤ z ∧ z < 256) := hz
  have hL := resQ_len zs
  clear hr hz
  by_cases hbig : 1048576 < n
  · go_enter Try.func9, Try.ntmps9
    go_wp2
    go_ret
    exact ⟨rfl, Below.refl _ _⟩
  · have hn : n ≤ 1048576 := by omega
    go_enter Try.func9, Try.ntmps9
    go_wp2_with fail
    refine (c_toB a n cap zs w HR.out hn).mono ?_
    rintro e w1 ⟨rfl, ho1, hb1⟩
    go_wp2_with fail
    refine (c_specQ _ n n zs w1 (RdV.own ho1) HZ.out hn).mono ?_
    rintro e w2 ⟨a2, c2, rfl, ho2, hb2⟩
    have HB2 : Hid (Below w.heap.size w w2) := hb1.trans (hb2.mono hb1.size)
    have s12 : w1.heap.size ≤ w2.heap.size := hb2.size
    have s01 : w.heap.size ≤ w1.heap.size := hb1.size
    have HO2 : Hid (w2.ownsRow w1.heap.size 25 3 (.slice a2 (resQ zs).length c2) (resQ zs).length (cellsV (resQ zs))) := ho2
    have HG2 : Hid (∀ g, (Value.slice a2 (resQ zs).length c2).ownBlock = some g → w1.heap.size ≤ g ∧ g < w2.heap.size) := ho2.lt
    clear ho1 ho2 hb1 hb2
    -- the program's
    go_wp2_with fail
    refine (c_toB a n cap zs w2 (HR.out.below HB2.out) hn).mono ?_
    rintro e w3 ⟨rfl, ho3, hb3⟩
    have HB3 : Hid (Below w.heap.size w w3) := HB2.out.trans (hb3.mono HB2.out.size)
    have s23 : w2.heap.size < w3.heap.size := (ho3.lt w2.heap.size rfl).2
    have HO3 : Hid (w3.ownsRow w1.heap.size 25 3 (.slice a2 (resQ zs).length c2) _ _) := own_below HO2.out hb3
    have HX3 : Hid (w3.ownsRow w2.heap.size 5 1 (.slice (some ⟨w2.heap.size, 0, none⟩) n n) n (zs.map (Value.int .u8))) := ho3
    clear ho3 hb3 HO2
    go_wp2_with fail
    refine (c_implQ _ n n zs w3 (RdV.own HX3.out) HZ.out hn (Nat.le_refl _) (by omega)).mono ?_
    rintro e w4 ⟨a4, c4, rfl, ho4, hb4⟩
    have HB4 : Hid (Below w.heap.size w w4) := HB3.out.trans (hb4.mono HB3.out.size)
    have s34 : w3.heap.size ≤ w4.heap.size := hb4.size
    have HO4 : Hid (w4.ownsRow w1.heap.size 25 3 (.slice a2 (resQ zs).length c2) _ _) := own_below HO3.out hb4
    have HX4 : Hid (w4.ownsRow w2.heap.size 5 1 (.slice (some ⟨w2.heap.size, 0, none⟩) n n) n _) := own_below HX3.out hb4
    have HP4 : Hid (w4.ownsRow w3.heap.size 25 3 (.slice a4 (resQ zs).length c4) (resQ zs).length (cellsV (resQ zs))) := ho4
    have HG4 : Hid (∀ g, (Value.slice a4 (resQ zs).length c4).ownBlock = some g → w3.heap.size ≤ g ∧ g < w4.heap.size) := ho4.lt
    clear ho4 hb4 HO3 HX3
    go_wp2_with fail
    refine (c_eqV a4 a2 (resQ zs).length c4 (resQ zs).length c2 (resQ zs) (resQ zs) w4 (RdC.own HP4.out) (RdC.own HO4.out) (by omega) (by omega)).mono ?_
    rintro e w5 ⟨rfl, hb5⟩
    rw [decide_eq_true (rfl : resQ zs = resQ zs)]
    have HB5 : Hid (Below w.heap.size w w5) := HB4.out.trans (hb5.mono HB4.out.size)
    have s45 : w4.heap.size ≤ w5.heap.size := hb5.size
    have HO5 : Hid (w5.ownsRow w1.heap.size 25 3 (.slice a2 (resQ zs).length c2) _ _) := own_below HO4.out hb5
    have HP5 : Hid (w5.ownsRow w3.heap.size 25 3 (.slice a4 (resQ zs).length c4) _ _) := own_below HP4.out hb5
    have HX5 : Hid (w5.ownsRow w2.heap.size 5 1 (.slice (some ⟨w2.heap.size, 0, none⟩) n n) n _) := own_below HX4.out hb5
    clear hb5 HO4 HP4 HX4
    go_wp2_with fail
    refine (c_toB a n cap zs w5 (HR.out.below HB5.out) hn).mono ?_
    rintro e w6 ⟨rfl, ho6, hb6⟩
    have HB6 : Hid (Below w.heap.size w w6) := HB5.out.trans (hb6.mono HB5.out.size)
    have s46 : w4.heap.size ≤ w6.heap.size := by have := hb6.size; omega
    have HO6 : Hid (w6.ownsRow w1.heap.size 25 3 (.slice a2 (resQ zs).length c2) _ _) := own_below HO5.out hb6
    have HX6 : Hid (w6.ownsRow w2.heap.size 5 1 (.slice (some ⟨w2.heap.size, 0, none⟩) n n) n _) := own_below HX5.out hb6
    have HP6 : Hid (w6.ownsRow w3.heap.size 25 3 (.slice a4 (resQ zs).length c4) _ _) := own_below HP5.out hb6
    go_wp2_with fail
    refine (c_eqB (some ⟨w2.heap.size, 0, none⟩) _ n n n n zs zs w6 (RdV.own HX6.out) (RdV.own ho6) hn hn).mono ?_
    rintro e w7 ⟨rfl, q7, rfl⟩
    rw [decide_eq_true (rfl : zs = zs)]
    clear ho6 hb6 HO5 HX5 HP5
    -- marks in what was handed in
    go_wp2_with fail
    refine (c_markB w2.heap.size (.slice (some ⟨w2.heap.size, 0, none⟩) n n) n 1 _ (w6.drewN q7) (own_drewN' HX6.out q7) (by omega) (by omega)).mono ?_
    rintro e w8 ⟨rfl, _, hg8⟩
    have HB8 : Hid (Below w.heap.size w w8) := (below_drewN HB6.out q7).grown hg8 HB6.out.size (fun k h => by have h' : w2.heap.size = k := Option.some.inj h; omega)
    have s68 : w6.heap.size ≤ w8.heap.size := hg8.size
    have HO8 : Hid (w8.ownsRow w1.heap.size 25 3 (.slice a2 (resQ zs).length c2) _ _) := kept_apart' (own_drewN' HO6.out q7) hg8 (fun g h e => by have e' : w2.heap.size = g := Option.some.inj e; have := (HG2.out _ h).2; omega)
    have HP8 : Hid (w8.ownsRow w3.heap.size 25 3 (.slice a4 (resQ zs).length c4) _ _) := kept_apart' (own_drewN' HP6.out q7) hg8 (fun g h e => by have e' : w2.heap.size = g := Option.some.inj e; have := (HG4.out _ h).1; omega)
    clear hg8 HO6 HX6 HP6
    go_wp2_with fail
    refine (c_eqV a4 a2 (resQ zs).length c4 (resQ zs).length c2 (resQ zs) (resQ zs) w8 (RdC.own HP8.out) (RdC.own HO8.out) (by omega) (by omega)).mono ?_
    rintro e w9 ⟨rfl, hb9⟩
    rw [decide_eq_true (rfl : resQ zs = resQ zs)]
    have HB9 : Hid (Below w.heap.size w w9) := HB8.out.trans (hb9.mono HB8.out.size)
    have s89 : w8.heap.size ≤ w9.heap.size := hb9.size
    have HO9 : Hid (w9.ownsRow w1.heap.size 25 3 (.slice a2 (resQ zs).length c2) _ _) := own_below HO8.out hb9
    have HP9 : Hid (w9.ownsRow w3.heap.size 25 3 (.slice a4 (resQ zs).length c4) _ _) := own_below HP8.out hb9
    clear hb9 HO8 HP8
    -- marks in the answer
    go_wp2_with fail
    refine (c_markV w3.heap.size (.slice a4 (resQ zs).length c4) (resQ zs).length 1 _ w9 HP9.out (by omega) (by omega) (by omega)).mono ?_
    rintro e w10 ⟨rfl, ho10, hg10⟩
    have HB10 : Hid (Below w.heap.size w w10) := HB9.out.grown hg10 HB9.out.size (fun k h => by have := (HG4.out k h).1; omega)
    have HO10 : Hid (w10.ownsRow w1.heap.size 25 3 (.slice a2 (resQ zs).length c2) _ _) := kept_apart' HO9.out hg10 (fun g h e => by have := (HG2.out _ h).2; have := (HG4.out _ e).1; omega)
    have HP10 : Hid (w10.ownsRow w3.heap.size 25 3 (.slice a4 (resQ zs).length c4) _ (cellsV (marksV 1 (resQ zs).length))) := ho10
    clear hg10 ho10 HO9 HP9
    go_wp2_with fail
    refine (c_heldV a4 (resQ zs).length c4 1 w10 (RdC.own HP10.out) (by omega) (by omega) (by omega)).mono ?_
    rintro e w11 ⟨rfl, hb11⟩
    have HB11 : Hid (Below w.heap.size w w11) := HB10.out.trans (hb11.mono HB10.out.size)
    have HO11 : Hid (w11.ownsRow w1.heap.size 25 3 (.slice a2 (resQ zs).length c2) _ _) := own_below HO10.out hb11
    have HP11 : Hid (w11.ownsRow w3.heap.size 25 3 (.slice a4 (resQ zs).length c4) _ (cellsV (marksV 1 (resQ zs).length))) := own_below HP10.out hb11
    clear hb11 HO10 HP10
    go_wp2_with fail
    refine (c_toB a n cap zs w11 (HR.out.below HB11.out) hn).mono ?_
    rintro e w12 ⟨rfl, ho12, hb12⟩
    have HB12 : Hid (Below w.heap.size w w12) := HB11.out.trans (hb12.mono HB11.out.size)
    have HO12 : Hid (w12.ownsRow w1.heap.size 25 3 (.slice a2 (resQ zs).length c2) _ _) := own_below HO11.out hb12
    have HP12 : Hid (w12.ownsRow w3.heap.size 25 3 (.slice a4 (resQ zs).length c4) _ (cellsV (marksV 1 (resQ zs).length))) := own_below HP11.out hb12
    have HR12 : Hid (RdV w12 _ n (zs.map (Value.int .u8))) := RdV.own ho12
    clear ho12 hb12 HO11 HP11
    go_wp2_with fail
    refine (c_implQ _ n n zs w12 HR12.out HZ.out hn (Nat.le_refl _) (by omega)).mono ?_
    rintro e w13 ⟨a13, c13, rfl, ho13, hb13⟩
    have HB13 : Hid (Below w.heap.size w w13) := HB12.out.trans (hb13.mono HB12.out.size)
    have HO13 : Hid (w13.ownsRow w1.heap.size 25 3 (.slice a2 (resQ zs).length c2) _ _) := own_below HO12.out hb13
    have HP13 : Hid (w13.ownsRow w3.heap.size 25 3 (.slice a4 (resQ zs).length c4) _ (cellsV (marksV 1 (resQ zs).length))) := own_below HP12.out hb13
    have HQ13 : Hid (RdC w13 a13 (resQ zs).length (resQ zs)) := RdC.own ho13
    clear ho13 hb13 HO12 HP12 HR12
    go_wp2_with fail
    refine (c_eqV a13 a2 (resQ zs).length c13 (resQ zs).length c2 (resQ zs) (resQ zs) w13 HQ13.out (RdC.own HO13.out) (by omega) (by omega)).mono ?_
    rintro e w14 ⟨rfl, hb14⟩
    rw [decide_eq_true (rfl : resQ zs = resQ zs)]
    have HB14 : Hid (Below w.heap.size w w14) := HB13.out.trans (hb14.mono HB13.out.size)
    have s1314 : w13.heap.size ≤ w14.heap.size := hb14.size
    have HO14 : Hid (w14.ownsRow w1.heap.size 25 3 (.slice a2 (resQ zs).length c2) _ _) := own_below HO13.out hb14
    have HP14 : Hid (w14.ownsRow w3.heap.size 25 3 (.slice a4 (resQ zs).length c4) _ (cellsV (marksV 1 (resQ zs).length))) := own_below HP13.out hb14
    clear hb14 HO13 HP13
    go_wp2_with fail
    refine (c_heldV a4 (resQ zs).length c4 1 w14 (RdC.own HP14.out) (by omega) (by omega) (by omega)).mono ?_
    rintro e w15 ⟨rfl, hb15⟩
    have HB15 : Hid (Below w.heap.size w w15) := HB14.out.trans (hb15.mono HB14.out.size)
    clear hb15
    go_wp2
    go_ret
    exact ⟨rfl, HB15.out⟩

end Go.Proofs.Ytkfkhfagehcmiaa
