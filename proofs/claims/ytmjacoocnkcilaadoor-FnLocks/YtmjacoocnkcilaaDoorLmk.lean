/-
  Marks of locks, and what they read as.
-/
import Derived.Test.YtmjacoocnkcilaaDoorLfr
namespace Go.Proofs.YtmjacoocnkcilaaDoor
open Go Go.RowKit
attribute [local go_sem ↓] Go.wp_at_zero Go.wp_at_succ

def MarkedL (w : World) (B : Nat) (h : HL) (n m : Nat) : Prop := w.ownsRow B 55 4 (.slice h.a0 n h.c0) n (cellsK (marksK 1 n)) ∧ w.ownsRow B 59 2 (.slice h.a1 m h.c1) m (cellsW (marksW (1 + n * 4) m))
theorem MarkedL.below {w w' : World} {B n m : Nat} {h : HL} (o : MarkedL w B h n m) (hb : Below w.heap.size w w') : MarkedL w' B h n m := ⟨own_below o.1 hb, own_below o.2 hb⟩
set_option maxRecDepth 100000 in
set_option maxHeartbeats 8000000 in
theorem c_markL2 (B : Nat) (h : HL) (vs : List LK) (ws : List WK) (w : World) (o : OwnL w B h vs ws) (f0 : vs.length ≤ 1048576) (f1 : ws.length ≤ 1048576) :
    Calls Tryd.prog 25 #[.agg #[.slice h.a0 vs.length h.c0, .slice h.a1 ws.length h.c1], .int .i64 1] w fun e w' => e = .returned (.int .i64 (1 + (vs.length : Int) * 4 + (ws.length : Int) * 2)) ∧ MarkedL w' B h vs.length ws.length ∧ KeepL w w' h := by
  obtain ⟨V, hV⟩ : ∃ V, w.alloc (.cells #[.slice h.a0 vs.length h.c0, .slice h.a1 ws.length h.c1] 34) = V := ⟨_, rfl⟩
  have hbV : Below w.heap.size w V := by rw [← hV]; exact (Below.refl _ _).alloc (Nat.le_refl _) _
  have X : Hid (Box V w.heap.size 34 #[.slice h.a0 vs.length h.c0, .slice h.a1 ws.length h.c1]) := by unfold Hid; rw [← hV]; exact Box.new _ _ _
  have O : Hid (OwnL V B h vs ws) := o.below hbV
  have HBV : Hid (Below w.heap.size w V) := hbV
  have n0 : Hid (∀ b, ob h.a0 = some b → b < w.heap.size) := fun b hb => (own_rng o.1 b hb).2
  have n1 : Hid (∀ b, ob h.a1 = some b → b < w.heap.size) := fun b hb => (own_rng o.2.1 b hb).2
  clear hbV o
  obtain ⟨x0, x1⟩ := box2 X.out
  have C1 := c_markK B (.slice h.a0 vs.length h.c0) vs.length 1 vs V O.out.1 (by omega) f0 (by omega)
  go_enter Tryd.func25, Tryd.ntmps25
  go_wp2_with fail
  refine C1.mono ?_
  rintro e w1 ⟨rfl, o1, hg1⟩
  rw [ob_slice] at hg1
  have X1 : Hid (Box w1 w.heap.size 34 #[.slice h.a0 vs.length h.c0, .slice h.a1 ws.length h.c1]) := X.out.grown hg1 (fun e => absurd (n0.out _ e) (Nat.lt_irrefl _))
  have Q1 : w1.ownsRow B 59 2 (.slice h.a1 ws.length h.c1) ws.length (cellsW ws) := own_same O.out.2.1 (fun g eg => by
    rw [ob_slice] at eg
    exact hg1.block g (Nat.lt_of_lt_of_le (n1.out g eg) HBV.out.size) (fun e => O.out.2.2 g e.symm eg))
  have C2 := c_markW B (.slice h.a1 ws.length h.c1) ws.length (1 + vs.length * 4) ws w1 Q1 (by omega) f1 (by omega)
  have HG1 : Hid (V.grownBy w1 (ob h.a0)) := hg1
  have O1 : Hid (w1.ownsRow B 55 4 (.slice h.a0 vs.length h.c0) vs.length (cellsK (marksK 1 vs.length))) := o1
  clear hg1 x0 x1 Q1 o1
  obtain ⟨x0, x1⟩ := box2 X1.out
  have cz : (((1 + vs.length * 4 : Nat) : Nat) : Int) = 1 + (vs.length : Int) * 4 := by omega
  have cz2 : (((1 + vs.length * 4 + ws.length * 2 : Nat) : Nat) : Int) = 1 + (vs.length : Int) * 4 + (ws.length : Int) * 2 := by omega
  rw [cz, cz2] at C2
  go_wp2_with fail
  refine C2.mono ?_
  rintro e w2 ⟨rfl, o2, hg2⟩
  rw [ob_slice] at hg2
  have KL : Hid (KeepL w w2 h) := ⟨by rw [hg2.os, HG1.out.os, HBV.out.os], by rw [hg2.tape, HG1.out.tape, HBV.out.tape], by rw [hg2.output, HG1.out.output, HBV.out.output], Nat.le_trans HBV.out.size (Nat.le_trans HG1.out.size hg2.size), fun k hk h0 h1 => (hg2.block k (Nat.lt_of_lt_of_le hk (Nat.le_trans HBV.out.size HG1.out.size)) (fun e => h1 e.symm)).trans ((HG1.out.block k (Nat.lt_of_lt_of_le hk HBV.out.size) (fun e => h0 e.symm)).trans (HBV.out.block k hk))⟩
  have M2 : Hid (MarkedL w2 B h vs.length ws.length) := ⟨own_same O1.out (fun g eg => by rw [ob_slice] at eg; exact hg2.block g (own_rng O1.out g eg).2 (fun e => O.out.2.2 g eg e.symm)), o2⟩
  clear hg2 o2
  go_wp2
  go_ret
  exact ⟨rfl, M2.out, KL.out⟩
set_option maxRecDepth 100000 in
set_option maxHeartbeats 8000000 in
theorem c_heldL (B n m : Nat) (h : HL) (w : World) (o : MarkedL w B h n m) (f0 : n ≤ 1048576) (f1 : m ≤ 1048576) :
    Calls Tryd.prog 30 #[.agg #[.slice h.a0 n h.c0, .slice h.a1 m h.c1], .int .i64 1] w fun e w' => e = .returned (.int .i64 (1 + (n : Int) * 4 + (m : Int) * 2)) ∧ Below w.heap.size w w' := by
  obtain ⟨V, hV⟩ : ∃ V, w.alloc (.cells #[.slice h.a0 n h.c0, .slice h.a1 m h.c1] 34) = V := ⟨_, rfl⟩
  have HB : Hid (Below w.heap.size w V) := by unfold Hid; rw [← hV]; exact (Below.refl _ _).alloc (Nat.le_refl _) _
  have X : Hid (Box V w.heap.size 34 #[.slice h.a0 n h.c0, .slice h.a1 m h.c1]) := by unfold Hid; rw [← hV]; exact Box.new _ _ _
  have C1 := c_heldK h.a0 n h.c0 1 V (RdK.own (own_below o.1 HB.out)) (by omega) f0 (by omega)
  have C2 := c_heldW h.a1 m h.c1 (1 + n * 4) V (RdW.own (own_below o.2 HB.out)) (by omega) f1 (by omega)
  have cz : (((1 + n * 4 : Nat) : Nat) : Int) = 1 + (n : Int) * 4 := by omega
  have cz2 : (((1 + n * 4 + m * 2 : Nat) : Nat) : Int) = 1 + (n : Int) * 4 + (m : Int) * 2 := by omega
  rw [cz, cz2] at C2
  rw [cz] at C1
  clear o
  obtain ⟨x0, x1⟩ := box2 X.out
  have q1 : ¬ (1 + (n : Int) * 4) < 0 := by omega
  have q2 : ¬ (1 + (n : Int) * 4 + (m : Int) * 2) < 0 := by omega
  go_enter Tryd.func30, Tryd.ntmps30
  go_wp2_with fail
  refine C1.mono ?_
  rintro e wq ⟨rfl, hwq⟩; rw [hwq]; clear hwq
  go_wp2_with fail
  refine C2.mono ?_
  rintro e wq ⟨rfl, hwq⟩; rw [hwq]; clear hwq
  go_wp2
  go_ret
  exact ⟨rfl, HB.out⟩

end Go.Proofs.YtmjacoocnkcilaaDoor
