/-
  Marks of locks.
-/
import Derived.Test.YtmjacoocnkcilaaDoorLo
namespace Go.Proofs.YtmjacoocnkcilaaDoor
open Go Go.RowKit
attribute [local go_sem ↓] Go.wp_at_zero Go.wp_at_succ

/-- Nothing but the two rows of h is changed. -/
def KeepL (w w' : World) (h : HL) : Prop := w'.os = w.os ∧ w'.tape = w.tape ∧ w'.output = w.output ∧ w.heap.size ≤ w'.heap.size ∧ ∀ k, k < w.heap.size → ob h.a0 ≠ some k → ob h.a1 ≠ some k → w'.heap[k]? = w.heap[k]?
theorem KeepL.below {w w' : World} {h : HL} (hk : KeepL w w' h) {B : Nat} (hB : B ≤ w.heap.size) (h0 : ∀ b, ob h.a0 = some b → B ≤ b) (h1 : ∀ b, ob h.a1 = some b → B ≤ b) : Below B w w' :=
  ⟨hk.1, hk.2.1, hk.2.2.1, hk.2.2.2.1, fun k hkB => hk.2.2.2.2 k (by omega) (fun e => by have := h0 k e; omega) (fun e => by have := h1 k e; omega)⟩
theorem KeepL.box {w w' : World} {h : HL} (hk : KeepL w w' h) {g : Nat} {t : TypeId} {c : Array Value} (hb : Box w g t c) (h0 : ob h.a0 ≠ some g) (h1 : ob h.a1 ≠ some g) : Box w' g t c := (hk.2.2.2.2 g hb.lt h0 h1).trans hb
theorem KeepL.own {w w' : World} {h : HL} (hk : KeepL w w' h) {base e size n : Nat} {a : Option Addr} {m c : Nat} {xs : List Value} (ho : w.ownsRow base e size (.slice a m c) n xs) (h0 : ∀ b, ob a = some b → ob h.a0 ≠ some b) (h1 : ∀ b, ob a = some b → ob h.a1 ≠ some b) : w'.ownsRow base e size (.slice a m c) n xs :=
  own_same ho (fun g eg => by
    rw [ob_slice] at eg
    obtain ⟨a', c', e', hh⟩ := own_slc ho
    cases e'
    exact hk.2.2.2.2 g (hh g eg).2 (h0 g eg) (h1 g eg))
set_option maxRecDepth 100000 in
set_option maxHeartbeats 8000000 in
theorem c_markL (B : Nat) (h : HL) (vs : List LK) (ws : List WK) (w : World) (o : OwnL w B h vs ws) (f0 : vs.length ≤ 1048576) (f1 : ws.length ≤ 1048576) :
    Calls Tryd.prog 25 #[.agg #[.slice h.a0 vs.length h.c0, .slice h.a1 ws.length h.c1], .int .i64 1] w fun e w' => (∃ z : Int, e = .returned (.int .i64 z) ∧ 0 ≤ z) ∧ KeepL w w' h := by
  obtain ⟨V, hV⟩ : ∃ V, w.alloc (.cells #[.slice h.a0 vs.length h.c0, .slice h.a1 ws.length h.c1] 34) = V := ⟨_, rfl⟩
  have hbV : Below w.heap.size w V := by rw [← hV]; exact (Below.refl _ _).alloc (Nat.le_refl _) _
  have X : Hid (Box V w.heap.size 34 #[.slice h.a0 vs.length h.c0, .slice h.a1 ws.length h.c1]) := by unfold Hid; rw [← hV]; exact Box.new _ _ _
  have O : Hid (OwnL V B h vs ws) := o.below hbV
  have HBV : Hid (Below w.heap.size w V) := hbV
  have n0 : Hid (∀ b, ob h.a0 = some b → b < w.heap.size) := fun b hb => by obtain ⟨a', c', e', hh⟩ := own_slc o.1; cases e'; exact (hh b hb).2
  have n1 : Hid (∀ b, ob h.a1 = some b → b < w.heap.size) := fun b hb => by obtain ⟨a', c', e', hh⟩ := own_slc o.2.1; cases e'; exact (hh b hb).2
  clear hbV o
  obtain ⟨x0, x1⟩ := box2 X.out
  have C1 := c_markK B (.slice h.a0 vs.length h.c0) vs.length 1 vs V O.out.1 (by omega) f0 (by omega)
  go_enter Tryd.func25, Tryd.ntmps25
  go_wp2_with fail
  refine C1.mono ?_
  rintro e w1 ⟨rfl, o1, hg1⟩
  rw [ob_slice] at hg1
  have X1 : Hid (Box w1 w.heap.size 34 #[.slice h.a0 vs.length h.c0, .slice h.a1 ws.length h.c1]) := X.out.grown hg1 (fun e => absurd (n0.out _ e) (Nat.lt_irrefl _))
  have Q1 : w1.ownsRow B 59 2 (.slice h.a1 ws.length h.c1) ws.length (cellsW ws) := own_same O.out.2.1 (fun g eg => by
    rw [ob_slice] at eg
    exact hg1.block g (Nat.lt_of_lt_of_le (n1.out g eg) HBV.out.size) (fun e => O.out.2.2 g e.symm eg))
  have C2 := c_markW B (.slice h.a1 ws.length h.c1) ws.length (1 + vs.length * 4) ws w1 Q1 (by omega) f1 (by omega)
  have HG1 : Hid (V.grownBy w1 (ob h.a0)) := hg1
  clear hg1 x0 x1 Q1 o1
  obtain ⟨x0, x1⟩ := box2 X1.out
  have cz : (((1 + vs.length * 4 : Nat) : Nat) : Int) = 1 + (vs.length : Int) * 4 := by omega
  rw [cz] at C2
  go_wp2_with fail
  refine C2.mono ?_
  rintro e w2 ⟨rfl, o2, hg2⟩
  rw [ob_slice] at hg2
  have KL : Hid (KeepL w w2 h) := ⟨by rw [hg2.os, HG1.out.os, HBV.out.os], by rw [hg2.tape, HG1.out.tape, HBV.out.tape], by rw [hg2.output, HG1.out.output, HBV.out.output], Nat.le_trans HBV.out.size (Nat.le_trans HG1.out.size hg2.size), fun k hk h0 h1 => (hg2.block k (Nat.lt_of_lt_of_le hk (Nat.le_trans HBV.out.size HG1.out.size)) (fun e => h1 e.symm)).trans ((HG1.out.block k (Nat.lt_of_lt_of_le hk HBV.out.size) (fun e => h0 e.symm)).trans (HBV.out.block k hk))⟩
  clear hg2 o2
  go_wp2
  go_ret
  exact ⟨⟨_, rfl, by omega⟩, KL.out⟩

end Go.Proofs.YtmjacoocnkcilaaDoor
