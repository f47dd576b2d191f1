/-
  Changes marked.
-/
import Derived.Test.YtiobobocjokgiaaHa
import Derived.Test.YtiobobocjokgiaaRm
import Derived.Deep.RegionHeld3
namespace Go.Proofs.Ytiobobocjokgiaa
open Go Go.RowKit
attribute [local go_sem ↓] Go.wp_at_zero Go.wp_at_succ

set_option linter.unusedVariables false
set_option maxRecDepth 100000 in
set_option maxHeartbeats 16000000 in
theorem c_markC (base : Nat) (v : Value) (n k0 : Nat) (L0 : List Value) (w : World) (hown : w.ownsRow base 42 10 v n L0) (h1 : 1 ≤ k0) (hn : n ≤ 2097152) (hk : k0 ≤ 8796093022208) :
    Calls Try.prog 11 #[v, .int .i64 k0] w fun e w' => e = .returned (.int .i64 (k0 + n * 10 : Nat)) ∧ w.grownBy w' v.ownBlock := by
  rcases own_form hown with ⟨rfl, rfl⟩ | ⟨g, cap, rfl, hg1, hg2⟩
  · go_enter Try.func11, Try.ntmps11
    go_wp2
    refine wp_loop_rounds 1 ?_
    rw [rounds_succ]
    go_wp2
    go_ret
    exact ⟨by simp, World.grownBy.refl _ _⟩
  · go_enter Try.func11, Try.ntmps11
    go_wp2
    go_loopw [1, 5] (fun m i wr => ∃ k : Nat, k ≤ n ∧ i = .int .i64 k ∧ m = .int .i64 ((k0 + k * 10 : Nat) : Int) ∧ (∃ L, wr.ownsRow base 42 10 (.slice (some ⟨g, 0, none⟩) n cap) n L) ∧ w.grownBy wr (some g)) (fun _ i _ => n - (intOf i).toNat)
    case atStart => exact ⟨0, by omega, rfl, by simp, ⟨_, hown⟩, World.grownBy.refl _ _⟩
    case round =>
      clear hown
      obtain ⟨k, hk, rfl, rfl, ⟨L, hown⟩, hgr⟩ := hrel
      by_cases hlt : k < n
      · have hLl : L.length = n * 10 := hown.1
        obtain ⟨u0, f0⟩ : ∃ u, wr.cell? ⟨g, k * 10, none⟩ = some u := ⟨_, (hown.cellAt (k * 10) (by omega)).trans (List.getElem?_eq_getElem (by have := hown.1; omega))⟩
        have z0 := hown.frozenAt (k * 10)
        obtain ⟨u1, f1⟩ : ∃ u, wr.cell? ⟨g, k * 10 + 1, none⟩ = some u := ⟨_, (hown.cellAt (k * 10 + 1) (by omega)).trans (List.getElem?_eq_getElem (by have := hown.1; omega))⟩
        have z1 := hown.frozenAt (k * 10 + 1)
        obtain ⟨u2, f2⟩ : ∃ u, wr.cell? ⟨g, k * 10 + 2, none⟩ = some u := ⟨_, (hown.cellAt (k * 10 + 2) (by omega)).trans (List.getElem?_eq_getElem (by have := hown.1; omega))⟩
        have z2 := hown.frozenAt (k * 10 + 2)
        obtain ⟨u3, f3⟩ : ∃ u, wr.cell? ⟨g, k * 10 + 3, none⟩ = some u := ⟨_, (hown.cellAt (k * 10 + 3) (by omega)).trans (List.getElem?_eq_getElem (by have := hown.1; omega))⟩
        have z3 := hown.frozenAt (k * 10 + 3)
        obtain ⟨u4, f4⟩ : ∃ u, wr.cell? ⟨g, k * 10 + 4, none⟩ = some u := ⟨_, (hown.cellAt (k * 10 + 4) (by omega)).trans (List.getElem?_eq_getElem (by have := hown.1; omega))⟩
        have z4 := hown.frozenAt (k * 10 + 4)
        obtain ⟨s0, t0⟩ := hown.stored (k * 10) (.int .i64 ((k0 : Int) + (k : Int) * 10))
        obtain ⟨s1, t1⟩ := s0.stored (k * 10 + 1) (.int .i64 ((k0 : Int) + (k : Int) * 10 + 1))
        obtain ⟨s2, t2⟩ := s1.stored (k * 10 + 2) (.int .i64 ((k0 : Int) + (k : Int) * 10 + 2))
        obtain ⟨s3, t3⟩ := s2.stored (k * 10 + 3) (.int .i64 ((k0 : Int) + (k : Int) * 10 + 3))
        obtain ⟨s4, t4⟩ := s3.stored (k * 10 + 4) (.int .i64 ((k0 : Int) + (k : Int) * 10 + 4))
        have HB0 : Hid (World.ownsRow _ base 42 10 (.slice (some ⟨g, 0, none⟩) n cap) n _) := s4
        have HGB0 : Hid (w.grownBy _ (some g)) := (((((hgr.trans t0).trans t1).trans t2).trans t3).trans t4)
        clear s0 t0 s1 t1 s2 t2 s3 t3 s4 t4 hown hgr
        go_wp2_with fail
        refine (c_mtextI2 _ (k0 + k * 10 + 5) _ (by omega) (by omega) (by omega)).mono ?_
        rintro e w3 ⟨rfl, hb3⟩
        obtain ⟨L0, hown0⟩ : ∃ L, w3.ownsRow base 42 10 (.slice (some ⟨g, 0, none⟩) n cap) n L := ⟨_, own_below HB0.out hb3⟩
        have hgr0 : w.grownBy w3 (some g) := HGB0.out.trans (grown_of_below hb3 (some g))
        clear f0 z0 f1 z1 f2 z2 f3 z3 f4 z4 HB0 HGB0 hb3
        obtain ⟨u5, f5⟩ : ∃ u, w3.cell? ⟨g, k * 10 + 5, none⟩ = some u := ⟨_, (hown0.cellAt (k * 10 + 5) (by omega)).trans (List.getElem?_eq_getElem (by have := hown0.1; omega))⟩
        have z5 := hown0.frozenAt (k * 10 + 5)
        obtain ⟨u6, f6⟩ : ∃ u, w3.cell? ⟨g, k * 10 + 6, none⟩ = some u := ⟨_, (hown0.cellAt (k * 10 + 6) (by omega)).trans (List.getElem?_eq_getElem (by have := hown0.1; omega))⟩
        have z6 := hown0.frozenAt (k * 10 + 6)
        obtain ⟨u7, f7⟩ : ∃ u, w3.cell? ⟨g, k * 10 + 7, none⟩ = some u := ⟨_, (hown0.cellAt (k * 10 + 7) (by omega)).trans (List.getElem?_eq_getElem (by have := hown0.1; omega))⟩
        have z7 := hown0.frozenAt (k * 10 + 7)
        obtain ⟨s5, t5⟩ := hown0.stored (k * 10 + 5) (.string (mtext (k0 + k * 10 + 5)))
        obtain ⟨s6, t6⟩ := s5.stored (k * 10 + 6) (.int .i64 ((k0 : Int) + (k : Int) * 10 + 6))
        obtain ⟨s7, t7⟩ := s6.stored (k * 10 + 7) (.int .i64 ((k0 : Int) + (k : Int) * 10 + 7))
        have HB1 : Hid (World.ownsRow _ base 42 10 (.slice (some ⟨g, 0, none⟩) n cap) n _) := s7
        have HGB1 : Hid (w.grownBy _ (some g)) := (((hgr0.trans t5).trans t6).trans t7)
        clear s5 t5 s6 t6 s7 t7 hown0 hgr0
        go_wp2_with fail
        refine (c_mtextI2 _ (k0 + k * 10 + 8) _ (by omega) (by omega) (by omega)).mono ?_
        rintro e w4 ⟨rfl, hb3⟩
        obtain ⟨L1, hown1⟩ : ∃ L, w4.ownsRow base 42 10 (.slice (some ⟨g, 0, none⟩) n cap) n L := ⟨_, own_below HB1.out hb3⟩
        have hgr1 : w.grownBy w4 (some g) := HGB1.out.trans (grown_of_below hb3 (some g))
        clear f5 z5 f6 z6 f7 z7 HB1 HGB1 hb3
        obtain ⟨u8, f8⟩ : ∃ u, w4.cell? ⟨g, k * 10 + 8, none⟩ = some u := ⟨_, (hown1.cellAt (k * 10 + 8) (by have := hown1.1; omega)).trans (List.getElem?_eq_getElem (by have := hown1.1; omega))⟩
        have z8 := hown1.frozenAt (k * 10 + 8)
        obtain ⟨u9, f9⟩ : ∃ u, w4.cell? ⟨g, k * 10 + 9, none⟩ = some u := ⟨_, (hown1.cellAt (k * 10 + 9) (by have := hown1.1; omega)).trans (List.getElem?_eq_getElem (by have := hown1.1; omega))⟩
        have z9 := hown1.frozenAt (k * 10 + 9)
        obtain ⟨s8, t8⟩ := hown1.stored (k * 10 + 8) (.string (mtext (k0 + k * 10 + 8)))
        have HC : Hid (∀ vb, ∃ L, World.ownsRow (((w4).setCell ⟨g, k * 10 + 8, none⟩ (.string (mtext (k0 + k * 10 + 8)))).setCell ⟨g, k * 10 + 9, none⟩ vb) base 42 10 (.slice (some ⟨g, 0, none⟩) n cap) n L) := fun vb => ⟨_, (s8.stored (k * 10 + 9) vb).1⟩
        have HGC : Hid (∀ vb, w.grownBy (((w4).setCell ⟨g, k * 10 + 8, none⟩ (.string (mtext (k0 + k * 10 + 8)))).setCell ⟨g, k * 10 + 9, none⟩ vb) (some g)) := fun vb => (hgr1.trans t8).trans (s8.stored (k * 10 + 9) vb).2
        clear s8 t8 hown1 hgr1
        go_wp2
        go_roundw
        case rel => exact ⟨k + 1, by omega, by go_num, by go_num, HC.out _, HGC.out _⟩
        case measure => simp [intOf]; omega
      · have e : k = n := by omega
        subst e
        go_wp2
        go_ret
        exact ⟨rfl, hgr⟩

end Go.Proofs.Ytiobobocjokgiaa
