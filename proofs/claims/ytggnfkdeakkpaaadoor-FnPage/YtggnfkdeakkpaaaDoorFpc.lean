/-
  The walk of the law of FnPage.
-/
import Derived.Test.YtggnfkdeakkpaaaDoorFpa
import Derived.Test.YtggnfkdeakkpaaaDoorFpb
import Derived.Test.YtggnfkdeakkpaaaDoorZa
import Derived.Deep.QuietTactic
import Derived.BigQuiet
namespace Go.Proofs.YtggnfkdeakkpaaaDoor
open Go Go.RowKit
attribute [local go_sem ↓] Go.wp_at_zero Go.wp_at_succ

set_option maxRecDepth 100000 in
set_option maxHeartbeats 4000000 in
theorem c_pageDraw (a : Option Addr) (n c : Nat) (zs : List Int) (w : World) (hr : RdV w a n (zs.map (Value.int .u8))) (hz : ∀ z ∈ zs, 0 ≤ z ∧ z < 256) (hn : n ≤ 1048576) :
    Calls Tryd.prog 6 #[.slice a n c] w fun e w' => (∃ (h' : HG) (D : DG), e = .returned (.agg #[.int .i64 h'.l, .slice h'.a h'.n h'.c]) ∧ okG D = true ∧ OwnG w' w.heap.size w'.heap.size h' D) ∧ Below w.heap.size w w' := by
  have HZ : Hid (∀ z ∈ zs, 0 ≤ z ∧ z < 256) := hz
  obtain ⟨V, hV⟩ : ∃ Q, w.alloc (.cells #[.int .i64 0, .slice none 0 0] 25) = Q := ⟨_, rfl⟩
  have bV : Below w.heap.size w V := by rw [← hV]; exact (Below.refl _ _).alloc (Nat.le_refl _) _
  have XV : Hid (Box V w.heap.size 25 #[.int .i64 0, .slice none 0 0]) := by unfold Hid; rw [← hV]; exact Box.new _ _ _
  have lV : w.heap.size < V.heap.size := XV.out.lt
  have BV : Hid (Below w.heap.size w V) := bV
  have HR : Hid (RdV V a n (zs.map (Value.int .u8))) := hr.below bV
  clear hr hz bV
  go_enter Tryd.func6, Tryd.ntmps6
  go_wp2_with fail
  refine (c_source a n c zs V HR.out HZ.out hn).mono ?_
  rintro e w1 ⟨rfl, hd, hb1⟩
  have HD1 : Hid (Drw V w1 V.heap.size a n c 0 zs) := hd
  have B1 : Hid (Below w.heap.size w w1) := BV.out.trans (hb1.mono BV.out.size)
  have X1 : Hid (Box w1 w.heap.size 25 #[.int .i64 0, .slice none 0 0]) := XV.out.belowS hb1
  have s1 : V.heap.size ≤ w1.heap.size := hb1.size
  clear hd hb1 BV XV HR hV
  go_wp2_with fail
  refine (c_page V w1 V.heap.size a n c 0 zs HD1.out (by omega)).mono ?_
  rintro e w2 ⟨⟨h2, D, rfl, hok, o⟩, hi⟩
  have B2 : Hid (Below w.heap.size w w2) := B1.out.trans (hi.below (by omega) (by omega))
  have X2 : Hid (Box w2 w.heap.size 25 #[.int .i64 0, .slice none 0 0]) := X1.out.innO hi (.inl lV)
  have HOK : Hid (okG D = true) := hok
  have O2 : Hid (OwnG w2 w1.heap.size w2.heap.size h2 D) := o
  clear hi hok o X1 B1 HD1
  obtain ⟨y0, y1⟩ := box2 X2.out
  have t0 := X2.out.thaw 0
  have t1 := X2.out.thaw 1
  have ON : Hid (OwnG ((w2.setCell ⟨w.heap.size, 0, none⟩ (.int .i64 h2.l)).setCell ⟨w.heap.size, 1, none⟩ (.slice h2.a h2.n h2.c)) w.heap.size _ h2 D) := (O2.out.put2 (r := w.heap.size) (.inl (by omega)) (.int .i64 h2.l) (.slice h2.a h2.n h2.c)).wide (B' := w.heap.size) (by omega)
  have BN : Hid (Below w.heap.size w ((w2.setCell ⟨w.heap.size, 0, none⟩ (.int .i64 h2.l)).setCell ⟨w.heap.size, 1, none⟩ (.slice h2.a h2.n h2.c))) := put2_below B2.out (Nat.le_refl _) _ _
  go_wp2
  exact retG1 Tryd.results6 rfl rfl (put2_box X2.out _ _) ⟨⟨h2, D, rfl, HOK.out, ON.out⟩, BN.out⟩

end Go.Proofs.YtggnfkdeakkpaaaDoor
