/-
  AnalyzeLog: the law.
-/
import Derived.Test.YtimdoaehlciecaaAj
import Derived.Test.YtimdoaehlciecaaYlb
import Derived.Deep.RegionHeld3
namespace Go.Proofs.Ytimdoaehlciecaa
open Go Go.RowKit
attribute [local go_sem ↓] Go.wp_at_zero Go.wp_at_succ

theorem ob_lt {w : World} {base e size n m c : Nat} {a : Option Addr} {xs : List Value} (h : w.ownsRow base e size (.slice a m c) n xs) : ∀ g, ob a = some g → base ≤ g ∧ g < w.heap.size := by
  intro g hg
  rcases own_form h with ⟨h1, _⟩ | ⟨g', cap, h1, h2, h3⟩
  · simp only [Value.slice.injEq] at h1; rw [h1.1] at hg; cases hg
  · simp only [Value.slice.injEq] at h1
    rw [h1.1] at hg
    obtain rfl : g' = g := Option.some.inj hg
    exact ⟨h2, h3⟩
set_option maxRecDepth 100000 in
set_option maxHeartbeats 8000000 in
theorem law_of (CAN : ∀ (a : Option Addr) (n cap : Nat) (L : List DR) (w : World), RdQ w a n L → n ≤ 60 → (∀ v ∈ L, v.b.size ≤ 1048576 ∧ v.a.size ≤ 1048576) → (∀ j, j < L.length → okLR (L.getD j zeroR) = true ∧ (L.getD j zeroR).l = (j : Int) + 1) →
    Calls Try.prog 28 #[.slice a n cap] w fun e w' => AnsTo w (anR L) e w' ∧ Below w.heap.size w w') (a : Option Addr) (n cap : Nat) (L : List DR) (w : World) (hr : RdQ w a n L) (hm : n ≤ maxLen) (hs : ∀ v ∈ L, v.b.size ≤ maxLen ∧ v.a.size ≤ maxLen) :
    Calls Try.prog 4 #[.slice a n cap] w fun e w' => e = .returned (.bool true) ∧ Below w.heap.size w w' := by
  have C1 := c_szQ a n cap L 1048576 w hr hm hs (by omega) (by omega)
  have RL : Hid (RdQ w a n L) := hr
  have HL : Hid (L.length = n) := hr.1
  have HC : Hid (_) := CAN
  clear hr hm hs CAN
  go_enter Try.func4, Try.ntmps4
  go_wp2_with fail
  refine C1.mono ?_
  rintro e w1 ⟨⟨z, rfl, hz, hf⟩, hb⟩
  have B1 : Hid (Below w.heap.size w w1) := hb
  clear hb C1
  by_cases hneg : z < 0
  · clear hf
    go_wp2
    go_ret
    exact ⟨rfl, B1.out⟩
  have FS : Hid (n ≤ 1048576 ∧ ∀ v ∈ L, v.b.size ≤ 1048576 ∧ v.a.size ≤ 1048576) := hf (by omega)
  have hn : n ≤ 1048576 := FS.out.1
  clear hf
  have CT : Hid (∀ W, Below w.heap.size w W → Calls Try.prog 8 #[.slice a n cap] W fun e w' => e = .returned (.slice (some ⟨W.heap.size, 0, none⟩) n n) ∧ w'.ownsRow W.heap.size 43 10 (.slice (some ⟨W.heap.size, 0, none⟩) n n) n (cellsQ L) ∧ Below W.heap.size W w') := fun W hW => c_toQ a n cap L W (RL.out.below hW) FS.out.1
  go_wp2_with fail
  refine (CT.out w1 B1.out).mono ?_
  rintro e w2 ⟨rfl, ho2, hb⟩
  have B2 : Hid (Below w.heap.size w w2) := B1.out.trans (hb.mono B1.out.size)
  have C3 := c_specAL HC.out _ n n L w2 (RdQ.own ho2) FS.out.1 FS.out.2
  clear ho2 hb B1
  obtain ⟨XD, hXD⟩ : ∃ x, drS (anlG n L) = x := ⟨_, rfl⟩
  obtain ⟨XT, hXT⟩ : ∃ x, txS (anlG n L) = x := ⟨_, rfl⟩
  obtain ⟨K, hK⟩ : ∃ x, anlC n L = x := ⟨_, rfl⟩
  have lD : XD.length ≤ 8 := by rw [← hXD]; exact seg_len 8 0
  have lT : XT.length ≤ 61 := by rw [← hXT]; exact seg_len 61 0
  have EX : Hid (∀ W e W', AnsAL W n L e W' → ∃ ad cd at' ct, e = .returned (.tuple #[.slice ad XD.length cd, .slice at' XT.length ct, .int .i64 K]) ∧ W'.ownsRow W.heap.size 54 2 (.slice ad XD.length cd) XD.length (cellsD (toD XD)) ∧ W'.ownsRow W.heap.size 57 2 (.slice at' XT.length ct) XT.length (cellsT (toT XT))) := fun W e W' h => by
    unfold AnsAL at h
    rw [hXD, hXT, hK] at h
    exact h
  clear hXD hXT hK
  go_wp2_with fail
  refine C3.mono ?_
  rintro e w3 ⟨hans, hb⟩
  obtain ⟨ad, cd, at', ct, rfl, od, ot⟩ := EX.out _ _ _ hans
  have B3 : Hid (Below w.heap.size w w3) := B2.out.trans (hb.mono B2.out.size)
  have SD3 : Hid (w3.ownsRow w.heap.size 54 2 (.slice ad XD.length cd) XD.length (cellsD (toD XD))) := od.down B2.out.size
  have ST3 : Hid (w3.ownsRow w.heap.size 57 2 (.slice at' XT.length ct) XT.length (cellsT (toT XT))) := ot.down B2.out.size
  have LD : Hid (∀ g, ob ad = some g → g < w3.heap.size) := fun g hg => (ob_lt od g hg).2
  have L3 : Hid (w.heap.size ≤ w3.heap.size) := B3.out.size
  have LT : Hid (∀ g, ob at' = some g → g < w3.heap.size) := fun g hg => (ob_lt ot g hg).2
  clear hb C3 B2 hans od ot
  go_wp2_with fail
  refine (CT.out w3 B3.out).mono ?_
  rintro e w4 ⟨rfl, ho4, hb⟩
  have B4 : Hid (Below w.heap.size w w4) := B3.out.trans (hb.mono B3.out.size)
  have SD4 : Hid (w4.ownsRow w.heap.size 54 2 (.slice ad XD.length cd) XD.length (cellsD (toD XD))) := own_below SD3.out hb
  have ST4 : Hid (w4.ownsRow w.heap.size 57 2 (.slice at' XT.length ct) XT.length (cellsT (toT XT))) := own_below ST3.out hb
  have X04 : Hid (w4.ownsRow w3.heap.size 43 10 (.slice (some ⟨w3.heap.size, 0, none⟩) n n) n (cellsQ L)) := ho4
  have l34 : w3.heap.size < w4.heap.size := by
    rcases own_form ho4 with ⟨h1, _⟩ | ⟨g, cp, h1, h2, h3⟩
    · simp at h1
    · simp only [Value.slice.injEq, Option.some.injEq, Addr.mk.injEq, and_true] at h1; omega
  have C5 := c_implAL _ n n L w4 (RdQ.own ho4) FS.out.1 (fun v hv => by have := FS.out.2 v hv; unfold maxLen; omega)
  clear ho4 hb B3 SD3 ST3
  go_wp2_with fail
  refine C5.mono ?_
  rintro e w5 ⟨hans, hb⟩
  obtain ⟨gd, hd, gt, ht, rfl, od, ot⟩ := EX.out _ _ _ hans
  have B5 : Hid (Below w.heap.size w w5) := B4.out.trans (hb.mono B4.out.size)
  have SD5 : Hid (w5.ownsRow w.heap.size 54 2 (.slice ad XD.length cd) XD.length (cellsD (toD XD))) := own_below SD4.out hb
  have ST5 : Hid (w5.ownsRow w.heap.size 57 2 (.slice at' XT.length ct) XT.length (cellsT (toT XT))) := own_below ST4.out hb
  have X05 : Hid (w5.ownsRow w3.heap.size 43 10 (.slice (some ⟨w3.heap.size, 0, none⟩) n n) n (cellsQ L)) := own_below X04.out hb
  have GD5 : Hid (w5.ownsRow w4.heap.size 54 2 (.slice gd XD.length hd) XD.length (cellsD (toD XD))) := od
  have GT5 : Hid (w5.ownsRow w4.heap.size 57 2 (.slice gt XT.length ht) XT.length (cellsT (toT XT))) := ot
  have nk : (K != K) = false := by simp
  clear hb C5 B4 hans od ot SD4 ST4 X04
  have C := c_eqD gd ad XD.length hd cd (toD XD) w5 (RdD.own GD5.out) (RdD.own SD5.out) (by omega)
  go_wp2_with fail
  refine C.mono ?_
  rintro e w6 ⟨rfl, hb⟩
  have SD6 : Hid (w6.ownsRow w.heap.size 54 2 (.slice ad XD.length cd) XD.length (cellsD (toD XD))) := own_below SD5.out hb
  have ST6 : Hid (w6.ownsRow w.heap.size 57 2 (.slice at' XT.length ct) XT.length (cellsT (toT XT))) := own_below ST5.out hb
  have GD6 : Hid (w6.ownsRow w4.heap.size 54 2 (.slice gd XD.length hd) XD.length (cellsD (toD XD))) := own_below GD5.out hb
  have GT6 : Hid (w6.ownsRow w4.heap.size 57 2 (.slice gt XT.length ht) XT.length (cellsT (toT XT))) := own_below GT5.out hb
  have X06 : Hid (w6.ownsRow w3.heap.size 43 10 (.slice (some ⟨w3.heap.size, 0, none⟩) n n) n (cellsQ L)) := own_below X05.out hb
  have B6 : Hid (Below w.heap.size w w6) := B5.out.trans (hb.mono B5.out.size)
  clear SD5 ST5 GD5 GT5 X05 B5 hb C
  have C := c_eqT gt at' XT.length ht ct (toT XT) w6 (RdT.own GT6.out) (RdT.own ST6.out) (by omega)
  go_wp2_with fail
  refine C.mono ?_
  rintro e w7 ⟨rfl, hb⟩
  have SD7 : Hid (w7.ownsRow w.heap.size 54 2 (.slice ad XD.length cd) XD.length (cellsD (toD XD))) := own_below SD6.out hb
  have ST7 : Hid (w7.ownsRow w.heap.size 57 2 (.slice at' XT.length ct) XT.length (cellsT (toT XT))) := own_below ST6.out hb
  have GD7 : Hid (w7.ownsRow w4.heap.size 54 2 (.slice gd XD.length hd) XD.length (cellsD (toD XD))) := own_below GD6.out hb
  have GT7 : Hid (w7.ownsRow w4.heap.size 57 2 (.slice gt XT.length ht) XT.length (cellsT (toT XT))) := own_below GT6.out hb
  have X07 : Hid (w7.ownsRow w3.heap.size 43 10 (.slice (some ⟨w3.heap.size, 0, none⟩) n n) n (cellsQ L)) := own_below X06.out hb
  have B7 : Hid (Below w.heap.size w w7) := B6.out.trans (hb.mono B6.out.size)
  clear SD6 ST6 GD6 GT6 X06 B6 hb C
  go_wp2_with fail
  refine (CT.out w7 B7.out).mono ?_
  rintro e w8 ⟨rfl, ho8, hb⟩
  have SD8 : Hid (w8.ownsRow w.heap.size 54 2 (.slice ad XD.length cd) XD.length (cellsD (toD XD))) := own_below SD7.out hb
  have ST8 : Hid (w8.ownsRow w.heap.size 57 2 (.slice at' XT.length ct) XT.length (cellsT (toT XT))) := own_below ST7.out hb
  have GD8 : Hid (w8.ownsRow w4.heap.size 54 2 (.slice gd XD.length hd) XD.length (cellsD (toD XD))) := own_below GD7.out hb
  have GT8 : Hid (w8.ownsRow w4.heap.size 57 2 (.slice gt XT.length ht) XT.length (cellsT (toT XT))) := own_below GT7.out hb
  have X08 : Hid (w8.ownsRow w3.heap.size 43 10 (.slice (some ⟨w3.heap.size, 0, none⟩) n n) n (cellsQ L)) := own_below X07.out hb
  have B8 : Hid (Below w.heap.size w w8) := B7.out.trans (hb.mono B7.out.size)
  have C7 := c_eqQ _ _ n n n L w8 (RdQ.own X08.out) (RdQ.own ho8) FS.out.1
  clear SD7 ST7 GD7 GT7 X07 B7 hb ho8
  go_wp2_with fail
  refine C7.mono ?_
  rintro e w9 ⟨rfl, hb⟩
  have SD9 : Hid (w9.ownsRow w.heap.size 54 2 (.slice ad XD.length cd) XD.length (cellsD (toD XD))) := own_below SD8.out hb
  have ST9 : Hid (w9.ownsRow w.heap.size 57 2 (.slice at' XT.length ct) XT.length (cellsT (toT XT))) := own_below ST8.out hb
  have GD9 : Hid (w9.ownsRow w4.heap.size 54 2 (.slice gd XD.length hd) XD.length (cellsD (toD XD))) := own_below GD8.out hb
  have GT9 : Hid (w9.ownsRow w4.heap.size 57 2 (.slice gt XT.length ht) XT.length (cellsT (toT XT))) := own_below GT8.out hb
  have X09 : Hid (w9.ownsRow w3.heap.size 43 10 (.slice (some ⟨w3.heap.size, 0, none⟩) n n) n (cellsQ L)) := own_below X08.out hb
  have B9 : Hid (Below w.heap.size w w9) := B8.out.trans (hb.mono B8.out.size)
  clear SD8 ST8 GD8 GT8 X08 B8 hb C7
  have C8 : Calls Try.prog 15 #[.slice (some ⟨w3.heap.size, 0, none⟩) n n, .int .i64 1] w9 fun e w' => e = .returned (.int .i64 (1 + n * 10 : Nat)) ∧ _ ∧ w9.grownBy w' (some w3.heap.size) := c_markQ w3.heap.size _ n 1 L w9 X09.out (by omega) (by omega) (by omega)
  obtain ⟨kq, hkq⟩ : ∃ x, x = 1 + n * 10 := ⟨_, rfl⟩
  rw [← hkq] at C8
  have hk0 : (0 : Int) ≤ (kq : Int) := by omega
  clear hkq
  go_wp2_with fail
  refine C8.mono ?_
  rintro e w10 ⟨rfl, -, hg⟩
  have B10 : Hid (Below w.heap.size w w10) := B9.out.grown hg B9.out.size (fun j hj => by have e' : w3.heap.size = j := Option.some.inj hj; have := L3.out; omega)
  have SD10 : Hid (w10.ownsRow w.heap.size 54 2 (.slice ad XD.length cd) XD.length (cellsD (toD XD))) := own_keep SD9.out hg (fun g h1 h2 => by have e' : w3.heap.size = g := Option.some.inj h2; have := LD.out g h1; omega)
  have ST10 : Hid (w10.ownsRow w.heap.size 57 2 (.slice at' XT.length ct) XT.length (cellsT (toT XT))) := own_keep ST9.out hg (fun g h1 h2 => by have e' : w3.heap.size = g := Option.some.inj h2; have := LT.out g h1; omega)
  have GD10 : Hid (w10.ownsRow w4.heap.size 54 2 (.slice gd XD.length hd) XD.length (cellsD (toD XD))) := own_keep GD9.out hg (fun g h1 h2 => by have e' : w3.heap.size = g := Option.some.inj h2; have := (ob_lt GD9.out g h1).1; omega)
  have GT10 : Hid (w10.ownsRow w4.heap.size 57 2 (.slice gt XT.length ht) XT.length (cellsT (toT XT))) := own_keep GT9.out hg (fun g h1 h2 => by have e' : w3.heap.size = g := Option.some.inj h2; have := (ob_lt GT9.out g h1).1; omega)
  clear SD9 ST9 GD9 GT9 X09 B9 hg C8
  have C := c_eqD gd ad XD.length hd cd (toD XD) w10 (RdD.own GD10.out) (RdD.own SD10.out) (by omega)
  go_wp2_with fail
  refine C.mono ?_
  rintro e w11 ⟨rfl, hb⟩
  have SD11 : Hid (w11.ownsRow w.heap.size 54 2 (.slice ad XD.length cd) XD.length (cellsD (toD XD))) := own_below SD10.out hb
  have ST11 : Hid (w11.ownsRow w.heap.size 57 2 (.slice at' XT.length ct) XT.length (cellsT (toT XT))) := own_below ST10.out hb
  have GD11 : Hid (w11.ownsRow w4.heap.size 54 2 (.slice gd XD.length hd) XD.length (cellsD (toD XD))) := own_below GD10.out hb
  have GT11 : Hid (w11.ownsRow w4.heap.size 57 2 (.slice gt XT.length ht) XT.length (cellsT (toT XT))) := own_below GT10.out hb
  have B11 : Hid (Below w.heap.size w w11) := B10.out.trans (hb.mono B10.out.size)
  clear SD10 ST10 GD10 GT10 B10 hb C
  have C := c_eqT gt at' XT.length ht ct (toT XT) w11 (RdT.own GT11.out) (RdT.own ST11.out) (by omega)
  go_wp2_with fail
  refine C.mono ?_
  rintro e w12 ⟨rfl, hb⟩
  have SD12 : Hid (w12.ownsRow w.heap.size 54 2 (.slice ad XD.length cd) XD.length (cellsD (toD XD))) := own_below SD11.out hb
  have ST12 : Hid (w12.ownsRow w.heap.size 57 2 (.slice at' XT.length ct) XT.length (cellsT (toT XT))) := own_below ST11.out hb
  have GD12 : Hid (w12.ownsRow w4.heap.size 54 2 (.slice gd XD.length hd) XD.length (cellsD (toD XD))) := own_below GD11.out hb
  have GT12 : Hid (w12.ownsRow w4.heap.size 57 2 (.slice gt XT.length ht) XT.length (cellsT (toT XT))) := own_below GT11.out hb
  have B12 : Hid (Below w.heap.size w w12) := B11.out.trans (hb.mono B11.out.size)
  clear SD11 ST11 GD11 GT11 B11 hb C
  have C9 : Calls Try.prog 16 #[.slice gd XD.length hd, .int .i64 1] w12 fun e w' => e = .returned (.int .i64 (1 + XD.length * 2 : Nat)) ∧ w'.ownsRow w4.heap.size 54 2 (.slice gd XD.length hd) XD.length (cellsD (marksD 1 XD.length)) ∧ w12.grownBy w' (ob gd) := by
    have := c_markD w4.heap.size _ XD.length 1 (toD XD) w12 GD12.out (by omega) (by omega) (by omega)
    rw [ob_slice] at this
    exact this
  obtain ⟨m1, hm1⟩ : ∃ x, x = 1 + XD.length * 2 := ⟨_, rfl⟩
  rw [← hm1] at C9
  have l1 : m1 ≤ 1000 := by omega
  have l2 : 1 ≤ m1 := by omega
  have M1 : Hid (m1 = 1 + XD.length * 2) := hm1
  clear hm1
  go_wp2_with fail
  refine C9.mono ?_
  rintro e w13 ⟨rfl, od, hg⟩
  have GD13 : Hid (w13.ownsRow w4.heap.size 54 2 (.slice gd XD.length hd) XD.length (cellsD (marksD 1 XD.length))) := od
  have B13 : Hid (Below w.heap.size w w13) := B12.out.grown hg B12.out.size (fun j hj => by have := (ob_lt GD12.out j hj).1; have := L3.out; omega)
  have SD13 : Hid (w13.ownsRow w.heap.size 54 2 (.slice ad XD.length cd) XD.length (cellsD (toD XD))) := own_keep SD12.out hg (fun g h1 h2 => by have := LD.out g h1; have := (ob_lt GD12.out g h2).1; omega)
  have ST13 : Hid (w13.ownsRow w.heap.size 57 2 (.slice at' XT.length ct) XT.length (cellsT (toT XT))) := own_keep ST12.out hg (own_ne2 ST12.out GD12.out (by decide))
  have GT13 : Hid (w13.ownsRow w4.heap.size 57 2 (.slice gt XT.length ht) XT.length (cellsT (toT XT))) := own_keep GT12.out hg (own_ne2 GT12.out GD12.out (by decide))
  clear SD12 ST12 GD12 GT12 B12 hg C9 od
  have C10 : Calls Try.prog 17 #[.slice gt XT.length ht, .int .i64 (m1 : Int)] w13 fun e w' => e = .returned (.int .i64 (m1 + XT.length * 2 : Nat)) ∧ w'.ownsRow w4.heap.size 57 2 (.slice gt XT.length ht) XT.length (cellsT (marksT m1 XT.length)) ∧ w13.grownBy w' (ob gt) := by
    have := c_markT w4.heap.size _ XT.length m1 (toT XT) w13 GT13.out (by omega) (by omega) (by omega)
    rw [ob_slice] at this
    exact this
  obtain ⟨m2, hm2⟩ : ∃ x, x = m1 + XT.length * 2 := ⟨_, rfl⟩
  rw [← hm2] at C10
  have M2 : Hid (m2 = m1 + XT.length * 2) := hm2
  clear hm2
  go_wp2_with fail
  refine C10.mono ?_
  rintro e w14 ⟨rfl, ot, hg⟩
  have GT14 : Hid (w14.ownsRow w4.heap.size 57 2 (.slice gt XT.length ht) XT.length (cellsT (marksT m1 XT.length))) := ot
  have B14 : Hid (Below w.heap.size w w14) := B13.out.grown hg B13.out.size (fun j hj => by have := (ob_lt GT13.out j hj).1; have := L3.out; omega)
  have SD14 : Hid (w14.ownsRow w.heap.size 54 2 (.slice ad XD.length cd) XD.length (cellsD (toD XD))) := own_keep SD13.out hg (own_ne2 SD13.out GT13.out (by decide))
  have ST14 : Hid (w14.ownsRow w.heap.size 57 2 (.slice at' XT.length ct) XT.length (cellsT (toT XT))) := own_keep ST13.out hg (fun g h1 h2 => by have := LT.out g h1; have := (ob_lt GT13.out g h2).1; omega)
  have GD14 : Hid (w14.ownsRow w4.heap.size 54 2 (.slice gd XD.length hd) XD.length (cellsD (marksD 1 XD.length))) := own_keep GD13.out hg (own_ne2 GD13.out GT13.out (by decide))
  clear SD13 ST13 GD13 GT13 B13 hg C10 ot
  have CH : Calls Try.prog 18 #[.slice gd XD.length hd, .int .i64 1] w14 fun e w' => e = .returned (.int .i64 (m1 : Int)) ∧ w' = w14 := by
    have := c_heldD gd XD.length hd 1 w14 (RdD.own GD14.out) (by omega) (by omega) (by omega)
    rw [← M1.out] at this
    exact this
  have CI : Calls Try.prog 19 #[.slice gt XT.length ht, .int .i64 (m1 : Int)] w14 fun e w' => e = .returned (.int .i64 (m2 : Int)) ∧ w' = w14 := by
    have := c_heldT gt XT.length ht m1 w14 (RdT.own GT14.out) (by omega) (by omega) (by omega)
    rw [← M2.out] at this
    exact this
  have p1 : (0 : Int) ≤ (m1 : Int) := by omega
  have p2 : (0 : Int) ≤ (m2 : Int) := by omega
  have p3 : ((m2 : Int) != (m2 : Int)) = false := by simp
  go_wp2_with fail
  refine CH.mono ?_
  rintro e y1 ⟨rfl, hy⟩
  rw [hy]
  clear hy
  go_wp2_with fail
  refine CI.mono ?_
  rintro e y2 ⟨rfl, hy⟩
  rw [hy]
  clear hy
  clear CH CI
  go_wp2_with fail
  refine (CT.out w14 B14.out).mono ?_
  rintro e w15 ⟨rfl, ho, hb⟩
  have SD15 : Hid (w15.ownsRow w.heap.size 54 2 (.slice ad XD.length cd) XD.length (cellsD (toD XD))) := own_below SD14.out hb
  have ST15 : Hid (w15.ownsRow w.heap.size 57 2 (.slice at' XT.length ct) XT.length (cellsT (toT XT))) := own_below ST14.out hb
  have GD15 : Hid (w15.ownsRow w4.heap.size 54 2 (.slice gd XD.length hd) XD.length (cellsD (marksD 1 XD.length))) := own_below GD14.out hb
  have GT15 : Hid (w15.ownsRow w4.heap.size 57 2 (.slice gt XT.length ht) XT.length (cellsT (marksT m1 XT.length))) := own_below GT14.out hb
  have B15 : Hid (Below w.heap.size w w15) := B14.out.trans (hb.mono B14.out.size)
  have C5 := c_implAL _ n n L w15 (RdQ.own ho) FS.out.1 (fun v hv => by have := FS.out.2 v hv; unfold maxLen; omega)
  clear SD14 ST14 GD14 GT14 B14 hb ho
  go_wp2_with fail
  refine C5.mono ?_
  rintro e w16 ⟨hans, hb⟩
  obtain ⟨jd, kd, jt, kt, rfl, od, ot⟩ := EX.out _ _ _ hans
  have SD16 : Hid (w16.ownsRow w.heap.size 54 2 (.slice ad XD.length cd) XD.length (cellsD (toD XD))) := own_below SD15.out hb
  have ST16 : Hid (w16.ownsRow w.heap.size 57 2 (.slice at' XT.length ct) XT.length (cellsT (toT XT))) := own_below ST15.out hb
  have GD16 : Hid (w16.ownsRow w4.heap.size 54 2 (.slice gd XD.length hd) XD.length (cellsD (marksD 1 XD.length))) := own_below GD15.out hb
  have GT16 : Hid (w16.ownsRow w4.heap.size 57 2 (.slice gt XT.length ht) XT.length (cellsT (marksT m1 XT.length))) := own_below GT15.out hb
  have B16 : Hid (Below w.heap.size w w16) := B15.out.trans (hb.mono B15.out.size)
  have JD16 : Hid (w16.ownsRow w15.heap.size 54 2 (.slice jd XD.length kd) XD.length (cellsD (toD XD))) := od
  have JT16 : Hid (w16.ownsRow w15.heap.size 57 2 (.slice jt XT.length kt) XT.length (cellsT (toT XT))) := ot
  clear SD15 ST15 GD15 GT15 B15 hb C5 hans od ot
  have C := c_eqD jd ad XD.length kd cd (toD XD) w16 (RdD.own JD16.out) (RdD.own SD16.out) (by omega)
  go_wp2_with fail
  refine C.mono ?_
  rintro e w17 ⟨rfl, hb⟩
  have SD17 : Hid (w17.ownsRow w.heap.size 54 2 (.slice ad XD.length cd) XD.length (cellsD (toD XD))) := own_below SD16.out hb
  have ST17 : Hid (w17.ownsRow w.heap.size 57 2 (.slice at' XT.length ct) XT.length (cellsT (toT XT))) := own_below ST16.out hb
  have GD17 : Hid (w17.ownsRow w4.heap.size 54 2 (.slice gd XD.length hd) XD.length (cellsD (marksD 1 XD.length))) := own_below GD16.out hb
  have GT17 : Hid (w17.ownsRow w4.heap.size 57 2 (.slice gt XT.length ht) XT.length (cellsT (marksT m1 XT.length))) := own_below GT16.out hb
  have JT17 : Hid (w17.ownsRow w15.heap.size 57 2 (.slice jt XT.length kt) XT.length (cellsT (toT XT))) := own_below JT16.out hb
  have B17 : Hid (Below w.heap.size w w17) := B16.out.trans (hb.mono B16.out.size)
  clear SD16 ST16 GD16 GT16 JT16 B16 hb C
  have C := c_eqT jt at' XT.length kt ct (toT XT) w17 (RdT.own JT17.out) (RdT.own ST17.out) (by omega)
  go_wp2_with fail
  refine C.mono ?_
  rintro e w18 ⟨rfl, hb⟩
  have SD18 : Hid (w18.ownsRow w.heap.size 54 2 (.slice ad XD.length cd) XD.length (cellsD (toD XD))) := own_below SD17.out hb
  have ST18 : Hid (w18.ownsRow w.heap.size 57 2 (.slice at' XT.length ct) XT.length (cellsT (toT XT))) := own_below ST17.out hb
  have GD18 : Hid (w18.ownsRow w4.heap.size 54 2 (.slice gd XD.length hd) XD.length (cellsD (marksD 1 XD.length))) := own_below GD17.out hb
  have GT18 : Hid (w18.ownsRow w4.heap.size 57 2 (.slice gt XT.length ht) XT.length (cellsT (marksT m1 XT.length))) := own_below GT17.out hb
  have B18 : Hid (Below w.heap.size w w18) := B17.out.trans (hb.mono B17.out.size)
  clear SD17 ST17 GD17 GT17 B17 hb C
  have CH : Calls Try.prog 18 #[.slice gd XD.length hd, .int .i64 1] w18 fun e w' => e = .returned (.int .i64 (m1 : Int)) ∧ w' = w18 := by
    have := c_heldD gd XD.length hd 1 w18 (RdD.own GD18.out) (by omega) (by omega) (by omega)
    rw [← M1.out] at this
    exact this
  have CI : Calls Try.prog 19 #[.slice gt XT.length ht, .int .i64 (m1 : Int)] w18 fun e w' => e = .returned (.int .i64 (m2 : Int)) ∧ w' = w18 := by
    have := c_heldT gt XT.length ht m1 w18 (RdT.own GT18.out) (by omega) (by omega) (by omega)
    rw [← M2.out] at this
    exact this
  have r1 : (0 : Int) ≤ (m1 : Int) := by omega
  have r2 : (0 : Int) ≤ (m2 : Int) := by omega
  have r3 : ((m2 : Int) != (m2 : Int)) = false := by simp
  go_wp2_with fail
  refine CH.mono ?_
  rintro e y1 ⟨rfl, hy⟩
  rw [hy]
  clear hy
  go_wp2_with fail
  refine CI.mono ?_
  rintro e y2 ⟨rfl, hy⟩
  rw [hy]
  clear hy
  go_wp2
  go_ret
  exact ⟨rfl, B18.out⟩

end Go.Proofs.Ytimdoaehlciecaa
