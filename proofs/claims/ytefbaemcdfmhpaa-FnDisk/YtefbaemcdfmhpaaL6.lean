/-
  The walk of the law of DiskOK.
-/
import Derived.Test.YtefbaemcdfmhpaaOi
namespace Go.Proofs.Ytefbaemcdfmhpaa
open Go Go.RowKit
attribute [local go_sem ↓] Go.wp_at_zero Go.wp_at_succ

theorem box4 {w : World} {g : Nat} {t : TypeId} {v0 v1 v2 v3 : Value} (h : Box w g t #[v0, v1, v2, v3]) : w.cell? ⟨g, 0, none⟩ = some v0 ∧ w.cell? ⟨g, 1, none⟩ = some v1 ∧ w.cell? ⟨g, 2, none⟩ = some v2 ∧ w.cell? ⟨g, 3, none⟩ = some v3 := ⟨h.cell 0, h.cell 1, h.cell 2, h.cell 3⟩
set_option maxHeartbeats 4000000 in
theorem law6 (h : HD) (D : DD) (w : World) (r : RdD w h D) (m0 : h.n0 ≤ maxLen) (m1 : h.n1 ≤ maxLen) (m2 : h.n2 ≤ maxLen) (s0 : ∀ s ∈ D.S, s.size ≤ maxLen) (s1 : ∀ p ∈ D.C, p.2.size ≤ maxLen) :
    Calls Try.prog 6 #[.agg #[.slice h.a0 h.n0 h.c0, .slice h.a1 h.n1 h.c1, .bool h.b, .slice h.a2 h.n2 h.c2]] w fun e w' => e = .returned (.bool true) ∧ Below w.heap.size w w' := by
  have R : Hid (RdD w h D) := r
  have HB : Hid (Below w.heap.size w (w.alloc (.cells #[.slice h.a0 h.n0 h.c0, .slice h.a1 h.n1 h.c1, .bool h.b, .slice h.a2 h.n2 h.c2] 50))) := (Below.refl _ _).alloc (Nat.le_refl _) _
  have BX : Hid (Box (w.alloc (.cells #[.slice h.a0 h.n0 h.c0, .slice h.a1 h.n1 h.c1, .bool h.b, .slice h.a2 h.n2 h.c2] 50)) w.heap.size 50 #[.slice h.a0 h.n0 h.c0, .slice h.a1 h.n1 h.c1, .bool h.b, .slice h.a2 h.n2 h.c2]) := Box.new _ _ _
  have C : Hid (∀ W, RdD W h D → Calls Try.prog 31 #[.agg #[.slice h.a0 h.n0 h.c0, .slice h.a1 h.n1 h.c1, .bool h.b, .slice h.a2 h.n2 h.c2], .int .i64 1048576] W fun e w' => (∃ z : Int, e = .returned (.int .i64 z) ∧ (0 ≤ z → Fit D)) ∧ Below W.heap.size W w') := fun W hW => c_szDisk h D 1048576 W hW m0 m1 m2 s0 s1 (by omega) (by omega)
  clear r m0 m1 m2 s0 s1
  go_enter Try.func6, Try.ntmps6
  go_wp2_with fail
  refine (C.out _ (R.out.below HB.out)).mono ?_
  rintro e w1 ⟨⟨z, rfl, hz⟩, hb⟩
  have B1 : Hid (Below w.heap.size w w1) := HB.out.trans (hb.mono HB.out.size)
  have X1 : Hid (Box w1 w.heap.size 50 #[.slice h.a0 h.n0 h.c0, .slice h.a1 h.n1 h.c1, .bool h.b, .slice h.a2 h.n2 h.c2]) := BX.out.belowS hb
  clear hb HB BX C
  by_cases hneg : z < 0
  · clear hz
    go_wp2
    go_ret
    exact ⟨rfl, B1.out⟩
  have F : Hid (Fit D) := hz (by omega)
  clear hz
  obtain ⟨v0, v1, v2, v3⟩ := box4 X1.out
  go_wp2_with fail
  refine (c_toDisk h D w1 (R.out.below B1.out) F.out).mono ?_
  rintro e w2 ⟨⟨h2, rfl, o2⟩, hb⟩
  have B2 : Hid (Below w.heap.size w w2) := B1.out.trans (hb.mono B1.out.size)
  have X2 : Hid (Box w2 w.heap.size 50 #[.slice h.a0 h.n0 h.c0, .slice h.a1 h.n1 h.c1, .bool h.b, .slice h.a2 h.n2 h.c2]) := X1.out.belowS hb
  have O2 : Hid (RdD w2 h2 D) := o2.rd
  clear hb o2 X1 B1 v0 v1 v2 v3
  go_wp2_with fail
  refine (c_specOK h2 D w2 O2.out F.out).mono ?_
  rintro e w3 ⟨rfl, hb⟩
  have B3 : Hid (Below w.heap.size w w3) := B2.out.trans (hb.mono B2.out.size)
  have X3 : Hid (Box w3 w.heap.size 50 #[.slice h.a0 h.n0 h.c0, .slice h.a1 h.n1 h.c1, .bool h.b, .slice h.a2 h.n2 h.c2]) := X2.out.belowS hb
  clear hb O2 X2 B2
  obtain ⟨v0, v1, v2, v3⟩ := box4 X3.out
  go_wp2_with fail
  refine (c_toDisk h D w3 (R.out.below B3.out) F.out).mono ?_
  rintro e w4 ⟨⟨h4, rfl, o4⟩, hb⟩
  have B4 : Hid (Below w.heap.size w (w4.alloc (.cells #[.slice h4.a0 h4.n0 h4.c0, .slice h4.a1 h4.n1 h4.c1, .bool h4.b, .slice h4.a2 h4.n2 h4.c2] 27))) := (B3.out.trans (hb.mono B3.out.size)).alloc (Nat.le_trans B3.out.size hb.size) _
  have X4 : Hid (Box (w4.alloc (.cells #[.slice h4.a0 h4.n0 h4.c0, .slice h4.a1 h4.n1 h4.c1, .bool h4.b, .slice h4.a2 h4.n2 h4.c2] 27)) w.heap.size 50 #[.slice h.a0 h.n0 h.c0, .slice h.a1 h.n1 h.c1, .bool h.b, .slice h.a2 h.n2 h.c2]) := (X3.out.belowS hb).alloc _
  have Y4 : Hid (Box (w4.alloc (.cells #[.slice h4.a0 h4.n0 h4.c0, .slice h4.a1 h4.n1 h4.c1, .bool h4.b, .slice h4.a2 h4.n2 h4.c2] 27)) w4.heap.size 27 #[.slice h4.a0 h4.n0 h4.c0, .slice h4.a1 h4.n1 h4.c1, .bool h4.b, .slice h4.a2 h4.n2 h4.c2]) := Box.new _ _ _
  have O4 : Hid (RdD (w4.alloc (.cells #[.slice h4.a0 h4.n0 h4.c0, .slice h4.a1 h4.n1 h4.c1, .bool h4.b, .slice h4.a2 h4.n2 h4.c2] 27)) h4 D) := o4.rd.below ((Below.refl _ _).alloc (Nat.le_refl _) _)
  clear hb o4 X3 B3 v0 v1 v2 v3
  go_wp2_with fail
  refine (c_implOK h4 D _ O4.out F.out).mono ?_
  rintro e w5 ⟨rfl, hb⟩
  have B5 : Hid (Below w.heap.size w w5) := B4.out.trans (hb.mono B4.out.size)
  have X5 : Hid (Box w5 w.heap.size 50 #[.slice h.a0 h.n0 h.c0, .slice h.a1 h.n1 h.c1, .bool h.b, .slice h.a2 h.n2 h.c2]) := X4.out.belowS hb
  have Y5 : Hid (Box w5 w4.heap.size 27 #[.slice h4.a0 h4.n0 h4.c0, .slice h4.a1 h4.n1 h4.c1, .bool h4.b, .slice h4.a2 h4.n2 h4.c2]) := Y4.out.belowS hb
  have O5 : Hid (RdD w5 h4 D) := O4.out.below hb
  clear hb O4 X4 Y4 B4
  have hne : (okD D != okD D) = false := by simp
  obtain ⟨v0, v1, v2, v3⟩ := box4 X5.out
  obtain ⟨u0, u1, u2, u3⟩ := box4 Y5.out
  have C33 : Hid (∀ W, Below w.heap.size w W → Calls Try.prog 33 #[.agg #[.slice h.a0 h.n0 h.c0, .slice h.a1 h.n1 h.c1, .bool h.b, .slice h.a2 h.n2 h.c2]] W fun e w' => (∃ h' : HD, e = .returned (.agg #[.slice h'.a0 h'.n0 h'.c0, .slice h'.a1 h'.n1 h'.c1, .bool h'.b, .slice h'.a2 h'.n2 h'.c2]) ∧ OwnD w' W.heap.size w'.heap.size h' D) ∧ Below W.heap.size W w') := fun W hW => c_toDisk h D W (R.out.below hW) F.out
  go_wp2_with fail
  go_region_held3 (fun x => x.cell? ⟨w.heap.size, 0, none⟩ = some (.slice h.a0 h.n0 h.c0) ∧ x.cell? ⟨w.heap.size, 1, none⟩ = some (.slice h.a1 h.n1 h.c1) ∧ x.cell? ⟨w.heap.size, 2, none⟩ = some (.bool h.b) ∧ x.cell? ⟨w.heap.size, 3, none⟩ = some (.slice h.a2 h.n2 h.c2) ∧ x.cell? ⟨w4.heap.size, 0, none⟩ = some (.slice h4.a0 h4.n0 h4.c0) ∧ x.cell? ⟨w4.heap.size, 1, none⟩ = some (.slice h4.a1 h4.n1 h4.c1) ∧ x.cell? ⟨w4.heap.size, 2, none⟩ = some (.bool h4.b) ∧ x.cell? ⟨w4.heap.size, 3, none⟩ = some (.slice h4.a2 h4.n2 h4.c2))
    (first | go_keep | exact ⟨far6 hb7 v0, far6 hb7 v1, far6 hb7 v2, far6 hb7 v3, far6 hb7 u0, far6 hb7 u1, far6 hb7 u2, far6 hb7 u3⟩ | exact ⟨far6 hb8 (far6 hb7 v0), far6 hb8 (far6 hb7 v1), far6 hb8 (far6 hb7 v2), far6 hb8 (far6 hb7 v3), far6 hb8 (far6 hb7 u0), far6 hb8 (far6 hb7 u1), far6 hb8 (far6 hb7 u2), far6 hb8 (far6 hb7 u3)⟩)
    (first | (go_at_call 33; refine (C33.out _ (below_drewN B5.out _)).mono ?_; rintro e w7 ⟨⟨h7, rfl, o7⟩, hb7⟩)
           | (go_at_call 28; refine (c_eqDisk h4 h7 D _ ((O5.out.below (below_drewN (Below.refl _ _) _)).below hb7) o7.rd F.out).mono ?_; rintro e w8 ⟨rfl, hb8⟩))
  have B8 : Hid (Below w.heap.size w w8) := (B5.out.drew.trans (hb7.mono B5.out.size)).trans (hb8.mono (Nat.le_trans B5.out.size hb7.size))
  clear hb7 hb8 C33
  go_wp2
  go_ret
  exact ⟨rfl, B8.out⟩
end Go.Proofs.Ytefbaemcdfmhpaa
