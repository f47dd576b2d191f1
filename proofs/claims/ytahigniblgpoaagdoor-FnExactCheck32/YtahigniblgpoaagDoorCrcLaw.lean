/-
  The walk of the law of Check32, and how a slice of bytes that came in is read.
-/
import Derived.Test.YtahigniblgpoaagDoorCrc
import Derived.ProofKit
import Derived.OpenShut
namespace Go.Proofs.YtahigniblgpoaagDoor
open Go Go.RowKit

theorem wf_u8 {n : Int} (h : (Lit.int .u8 n).wf = true) : 0 ≤ n ∧ n < 256 := by
  have := bounds_u8 h
  omega
theorem rd_of_row {w : World} {x : Addr} {len cap : Nat} {zs : List Int} (hl : len ≤ cap) (hz : zs.length = cap) (hcell : ∀ i, i < zs.length → w.cell? (x.add i) = some (.int .u8 (zs.getD i 0))) (hwz : ∀ n ∈ zs, (Lit.int .u8 n).wf = true) : Rd w (some x) len (zs.take len) := by
  refine ⟨by simp; omega, fun z h => wf_u8 (hwz z (List.mem_of_mem_take h)), fun h => ?_⟩
  obtain ⟨b, off, spot⟩ := x
  have hc := hcell 0 (by omega)
  have hspot : spot = none := by simpa [Addr.add] using World.cell?_spot hc
  subst hspot
  refine ⟨b, off, rfl, fun i hi => ?_⟩
  have := hcell i (by omega)
  rw [List.getD_eq_getElem?_getD, List.getElem?_take_of_lt hi, ← List.getD_eq_getElem?_getD]
  have ea : (⟨b, off, none⟩ : Addr).add i = ⟨b, off + i, none⟩ := by unfold Addr.add; split <;> simp_all
  rwa [ea] at this

theorem TabH.below {w w' : World} (h : TabH w) (hb : Below w.heap.size w w') : TabH w' := fun i hi =>
  (hb.cell (p := ⟨1, i, none⟩) (World.block_lt_of_cell? w ⟨1, i, none⟩ (h i hi))).trans (h i hi)
theorem TabH.drewN {w : World} (h : TabH w) (q : Nat) : TabH (w.drewN q) := h
theorem below_drewN {B : Nat} {a w : World} (h : Below B a w) (q : Nat) : Below B a (w.drewN q) := ⟨h.os, h.tape, h.output, h.size, h.block⟩

set_option maxHeartbeats 1000000 in
theorem law5 (a : Option Addr) (n cap : Nat) (zs : List Int) (w : World) (hr : Rd w a n zs) (hm : n ≤ maxLen) (ht : TabH w) :
    Calls Tryd.prog 5 #[.slice a n cap] w fun e w' => e = .returned (.bool true) ∧ Below w.heap.size w w' := by
  unfold maxLen at hm
  have HT : Hid (TabH w) := ht
  have HR : Hid (Rd w a n zs) := hr
  clear ht hr
  by_cases h : 1048576 < n
  · go_enter Tryd.func5, Tryd.ntmps5
    go_wp2
    go_ret
    exact ⟨rfl, Below.refl _ _⟩
  · have hn : n ≤ 1048576 := by omega
    go_enter Tryd.func5, Tryd.ntmps5
    go_wp2_with fail
    refine (c_toB a n cap zs _ HR.out hn).mono ?_
    rintro e w1 ⟨rfl, hown1, hb1⟩
    have hr1 := Rd.own hown1 HR.out.2.1
    go_wp2_with fail
    refine (c10 _ n n zs _ hr1 hn).mono ?_
    rintro e w2 ⟨rfl, rfl⟩
    clear hown1 hr1
    go_wp2_with fail
    refine (c_toB a n cap zs _ (HR.out.below hb1) hn).mono ?_
    rintro e w3 ⟨rfl, hown3, hb3⟩
    have hr3 := Rd.own hown3 HR.out.2.1
    have hb3' := hb1.trans (hb3.mono hb1.size)
    clear hown3
    have HR3 : Hid (Rd w3 _ _ _) := hr3
    clear hr3
    go_wp2_with fail
    refine (c12 _ n n zs _ HR3.out hn (HT.out.below hb3')).mono ?_
    rintro e w4 ⟨rfl, rfl⟩
    go_wp2_with fail
    refine (c_toB a n cap zs _ (HR.out.below hb3') hn).mono ?_
    rintro e w5 ⟨rfl, hown5, hb5⟩
    have hr5 := Rd.own hown5 HR.out.2.1
    have hb5' := hb3'.trans (hb5.mono hb3'.size)
    clear hown5
    go_wp2_with fail
    refine (c_eqB _ _ n n n n zs zs _ (HR3.out.below hb5) hr5 hn hn).mono ?_
    rintro e w6 ⟨rfl, q, rfl⟩
    rw [decide_eq_true (rfl : zs = zs)]
    go_wp2
    go_ret
    exact ⟨rfl, below_drewN hb5' _⟩
end Go.Proofs.YtahigniblgpoaagDoor
