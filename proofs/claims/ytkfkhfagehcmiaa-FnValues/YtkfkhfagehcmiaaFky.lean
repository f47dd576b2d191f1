/-
  Lists of values that are drawn; lists that are the same.
-/
import Derived.Test.YtkfkhfagehcmiaaFkx

import Derived.Deep.QuietTactic
import Derived.BigQuiet
namespace Go.Proofs.Ytkfkhfagehcmiaa
open Go Go.RowKit
attribute [local go_sem ↓] Go.wp_at_zero Go.wp_at_succ

set_option maxRecDepth 100000 in
set_option maxHeartbeats 4000000 in
theorem c_valueOf (a : Option Addr) (n c : Nat) (zs : List Int) (w : World) (hr : RdV w a n (zs.map (Value.int .u8))) (hz : ∀ z ∈ zs, 0 ≤ z ∧ z < 256) (hn : n ≤ 1048576) :
    Calls Try.prog 17 #[.slice a n c] w fun e w' => (∃ u : VV, e = .returned (.agg #[.int .i64 u.1, .int .i64 u.2.1, .string u.2.2]) ∧ okV u = true) ∧ Below w.heap.size w w' := by
  have HZ : Hid (∀ z ∈ zs, 0 ≤ z ∧ z < 256) := hz
  obtain ⟨V, hV⟩ : ∃ Q, w.alloc (.cells #[.int .i64 0, .int .i64 0, .string ⟨#[]⟩] 25) = Q := ⟨_, rfl⟩
  have bV : Below w.heap.size w V := by rw [← hV]; exact (Below.refl _ _).alloc (Nat.le_refl _) _
  have XV : Hid (Box V w.heap.size 25 #[.int .i64 0, .int .i64 0, .string ⟨#[]⟩]) := by unfold Hid; rw [← hV]; exact Box.new _ _ _
  have lV : w.heap.size < V.heap.size := XV.out.lt
  have BV : Hid (Below w.heap.size w V) := bV
  have HR : Hid (RdV V a n (zs.map (Value.int .u8))) := hr.below bV
  clear hr hz bV
  go_enter Try.func17, Try.ntmps17
  go_wp2_with fail
  refine (c_source a n c zs V HR.out HZ.out hn).mono ?_
  rintro e w1 ⟨rfl, hd, hb1⟩
  have HD1 : Hid (Drw V w1 V.heap.size a n c 0 zs) := hd
  have B1 : Hid (Below w.heap.size w w1) := BV.out.trans (hb1.mono BV.out.size)
  have X1 : Hid (Box w1 w.heap.size 25 #[.int .i64 0, .int .i64 0, .string ⟨#[]⟩]) := XV.out.belowS hb1
  have s1 : V.heap.size ≤ w1.heap.size := hb1.size
  clear hd hb1 BV XV HR hV
  go_wp2_with fail
  refine (c_value V w1 V.heap.size a n c 0 zs HD1.out (by omega)).mono ?_
  rintro e w2 ⟨⟨u, rfl, hu⟩, _, hi⟩
  have B2 : Hid (Below w.heap.size w w2) := B1.out.trans (hi.below (by omega) (by omega))
  have X2 : Hid (Box w2 w.heap.size 25 #[.int .i64 0, .int .i64 0, .string ⟨#[]⟩]) := X1.out.innO hi (.inl lV)
  have HU : Hid (okV u = true) := hu
  clear hi hu X1 B1 HD1
  obtain ⟨s0, s1', s2⟩ := thaw3 X2.out
  have y0 : w2.cell? ⟨w.heap.size, 0, none⟩ = some (.int .i64 0) := X2.out.cell 0
  have y1 : w2.cell? ⟨w.heap.size, 1, none⟩ = some (.int .i64 0) := X2.out.cell 1
  have y2 : w2.cell? ⟨w.heap.size, 2, none⟩ = some (.string ⟨#[]⟩) := X2.out.cell 2
  obtain ⟨N, hN⟩ : ∃ Q, put3v w2 w.heap.size (.int .i64 u.1) (.int .i64 u.2.1) (.string u.2.2) = Q := ⟨_, rfl⟩
  have XN : Hid (Box N w.heap.size 25 #[.int .i64 u.1, .int .i64 u.2.1, .string u.2.2]) := by unfold Hid; rw [← hN]; exact put3v_box X2.out _ _ _
  have BN : Hid (Below w.heap.size w N) := B2.out.trans ((show Inn w.heap.size (w.heap.size + 1) w2 N by rw [← hN]; exact put3v_inn _ _ _ _ _).below (Nat.le_refl _) B2.out.size)
  unfold put3v at hN
  go_wp2
  exact retV Try.results17 rfl rfl XN.out ⟨⟨u, rfl, HU.out⟩, BN.out⟩

end Go.Proofs.Ytkfkhfagehcmiaa
