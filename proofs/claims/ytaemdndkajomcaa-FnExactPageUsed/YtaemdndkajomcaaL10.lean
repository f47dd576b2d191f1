/-
  The walk of the law of PageUsed.
-/
import Derived.Test.YtaemdndkajomcaaPk
namespace Go.Proofs.Ytaemdndkajomcaa
open Go Go.RowKit
attribute [local go_sem ↓] Go.wp_at_zero Go.wp_at_succ


set_option maxHeartbeats 8000000 in
theorem law_FnExactPageUsed (h : HG) (D : DG) (R c : Int) (w : World) (r : RdG w h D) (m0 : h.n ≤ maxLen) (s0 : ∀ s ∈ D.S, s.size ≤ maxLen)
    (cs : FitG D → ∀ (W : World) (h2 : HG), Below w.heap.size w W → RdG W h2 D → SrcG h2 → Calls Try.prog 43 #[.agg #[.int .i64 h2.l, .slice h2.a h2.n h2.c]] W fun e w' => e = .returned (.tuple #[.int .i64 R, .int .i64 c]) ∧ Below W.heap.size W w')
    (ci : FitG D → ∀ (W : World) (h2 : HG), Below w.heap.size w W → RdG W h2 D → SrcG h2 → Calls Try.prog 44 #[.agg #[.int .i64 h2.l, .slice h2.a h2.n h2.c]] W fun e w' => e = .returned (.tuple #[.int .i64 R, .int .i64 c]) ∧ Below W.heap.size W w') :
    Calls Try.prog 10 #[.agg #[.int .i64 h.l, .slice h.a h.n h.c]] w fun e w' => e = .returned (.bool true) ∧ Below w.heap.size w w' := by
  have RR : Hid (RdG w h D) := r
  have C : Hid (∀ W, RdG W h D → Calls Try.prog 35 #[.agg #[.int .i64 h.l, .slice h.a h.n h.c], .int .i64 1048576] W fun e w' => (∃ z : Int, e = .returned (.int .i64 z) ∧ (0 ≤ z → FitG D)) ∧ Below W.heap.size W w') := fun W hW => c_szPage h D 1048576 W hW m0 s0 (by omega) (by omega)
  have C33 : Hid (FitG D → ∀ W, Below w.heap.size w W → Calls Try.prog 37 #[.agg #[.int .i64 h.l, .slice h.a h.n h.c]] W fun e w' => (∃ h' : HG, e = .returned (.agg #[.int .i64 h'.l, .slice h'.a h'.n h'.c]) ∧ OwnG w' W.heap.size w'.heap.size h' D) ∧ Below W.heap.size W w') := fun hf W hW => c_toPage h D W (r.below hW) hf
  have CS0 : Hid (FitG D → ∀ (W : World) (h2 : HG), Below w.heap.size w W → RdG W h2 D → SrcG h2 → Calls Try.prog 43 #[.agg #[.int .i64 h2.l, .slice h2.a h2.n h2.c]] W fun e w' => e = .returned (.tuple #[.int .i64 R, .int .i64 c]) ∧ Below W.heap.size W w') := cs
  have CI0 : Hid (FitG D → ∀ (W : World) (h2 : HG), Below w.heap.size w W → RdG W h2 D → SrcG h2 → Calls Try.prog 44 #[.agg #[.int .i64 h2.l, .slice h2.a h2.n h2.c]] W fun e w' => e = .returned (.tuple #[.int .i64 R, .int .i64 c]) ∧ Below W.heap.size W w') := ci
  clear r m0 s0 cs ci
  obtain ⟨w0, hw0⟩ : ∃ W, w.alloc (.cells #[.int .i64 h.l, .slice h.a h.n h.c] 50) = W := ⟨_, rfl⟩
  have B0 : Hid (Below w.heap.size w w0) := by unfold Hid; rw [← hw0]; exact (Below.refl _ _).alloc (Nat.le_refl _) _
  have X0 : Hid (Box w0 w.heap.size 50 #[.int .i64 h.l, .slice h.a h.n h.c]) := by unfold Hid; rw [← hw0]; exact Box.new _ _ _
  obtain ⟨v0, v1⟩ := box2 X0.out
  go_enter Try.func10, Try.ntmps10
  go_wp2_with fail
  refine (C.out _ (RR.out.below B0.out)).mono ?_
  rintro e w1 ⟨⟨z, rfl, hz⟩, hb⟩
  have B1 : Hid (Below w.heap.size w w1) := B0.out.trans (hb.mono B0.out.size)
  have X1 : Hid (Box w1 w.heap.size 50 #[.int .i64 h.l, .slice h.a h.n h.c]) := X0.out.belowS hb
  clear hb B0 X0 C v0 v1 hw0
  by_cases hneg : z < 0
  · clear hz
    go_wp2
    go_ret
    exact ⟨rfl, B1.out⟩
  have FD : FitG D := hz (by omega)
  have F : Hid (FitG D) := FD
  have CS : Hid (∀ (W : World) (h2 : HG), Below w.heap.size w W → RdG W h2 D → SrcG h2 → Calls Try.prog 43 #[.agg #[.int .i64 h2.l, .slice h2.a h2.n h2.c]] W fun e w' => e = .returned (.tuple #[.int .i64 R, .int .i64 c]) ∧ Below W.heap.size W w') := CS0.out FD
  have CI : Hid (∀ (W : World) (h2 : HG), Below w.heap.size w W → RdG W h2 D → SrcG h2 → Calls Try.prog 44 #[.agg #[.int .i64 h2.l, .slice h2.a h2.n h2.c]] W fun e w' => e = .returned (.tuple #[.int .i64 R, .int .i64 c]) ∧ Below W.heap.size W w') := CI0.out FD
  clear hz FD CS0 CI0
  have q01 : w.heap.size < w1.heap.size := X1.out.lt
  obtain ⟨v0, v1⟩ := box2 X1.out
  go_wp2_with fail
  refine (C33.out F.out w1 B1.out).mono ?_
  rintro e w2 ⟨⟨h2, rfl, o2⟩, hb⟩
  have T2 : Hid (RdG w2 h2 D) := o2.rd
  have TH2 : Hid (SrcG h2) := o2.src
  clear o2
  have B2 : Hid (Below w.heap.size w w2) := B1.out.trans (hb.mono B1.out.size)
  have X2 : Hid (Box w2 w.heap.size 50 #[.int .i64 h.l, .slice h.a h.n h.c]) := X1.out.belowS hb
  have q12 : w1.heap.size ≤ w2.heap.size := hb.size
  clear B1 X1 hb v0 v1
  go_wp2_with fail
  refine (CS.out w2 h2 B2.out T2.out TH2.out).mono ?_
  rintro e w3 ⟨rfl, hb⟩
  have B3 : Hid (Below w.heap.size w w3) := B2.out.trans (hb.mono B2.out.size)
  have X3 : Hid (Box w3 w.heap.size 50 #[.int .i64 h.l, .slice h.a h.n h.c]) := X2.out.belowS hb
  have q23 : w2.heap.size ≤ w3.heap.size := hb.size
  clear B2 X2 hb 
  clear T2 TH2
  obtain ⟨v0, v1⟩ := box2 X3.out
  go_wp2_with fail
  refine (C33.out F.out w3 B3.out).mono ?_
  rintro e w4 ⟨⟨hx, rfl, ox⟩, hb⟩
  have OX4 : Hid (OwnG w4 w3.heap.size w4.heap.size hx D) := ox
  have XH : Hid (SrcG hx) := ox.src
  clear ox
  have B4 : Hid (Below w.heap.size w w4) := B3.out.trans (hb.mono B3.out.size)
  have X4 : Hid (Box w4 w.heap.size 50 #[.int .i64 h.l, .slice h.a h.n h.c]) := X3.out.belowS hb
  have q34 : w3.heap.size ≤ w4.heap.size := hb.size
  clear B3 X3 hb v0 v1
  obtain ⟨w5, hw5⟩ : ∃ W, w4.alloc (.cells #[.int .i64 hx.l, .slice hx.a hx.n hx.c] 45) = W := ⟨_, rfl⟩
  have hb : Below w4.heap.size w4 w5 := by rw [← hw5]; exact (Below.refl _ _).alloc (Nat.le_refl _) _
  have YX5 : Hid (Box w5 w4.heap.size 45 #[.int .i64 hx.l, .slice hx.a hx.n hx.c]) := by have := Box.new w4 #[.int .i64 hx.l, .slice hx.a hx.n hx.c] 45; rwa [hw5] at this
  have B5 : Hid (Below w.heap.size w w5) := B4.out.trans (hb.mono B4.out.size)
  have X5 : Hid (Box w5 w.heap.size 50 #[.int .i64 h.l, .slice h.a h.n h.c]) := X4.out.belowS hb
  have OX5 : Hid (OwnG w5 w3.heap.size w4.heap.size hx D) := OX4.out.below hb
  have q45 : w4.heap.size ≤ w5.heap.size := hb.size
  clear B4 X4 OX4 hb 
  have p5 : w4.heap.size < w5.heap.size := YX5.out.lt
  obtain ⟨v0, v1⟩ := box2 YX5.out
  go_wp2_with fail
  refine (CI.out w5 hx B5.out OX5.out.rd XH.out).mono ?_
  rintro e w6 ⟨rfl, hb⟩
  have B6 : Hid (Below w.heap.size w w6) := B5.out.trans (hb.mono B5.out.size)
  have X6 : Hid (Box w6 w.heap.size 50 #[.int .i64 h.l, .slice h.a h.n h.c]) := X5.out.belowS hb
  have OX6 : Hid (OwnG w6 w3.heap.size w4.heap.size hx D) := OX5.out.below hb
  have YX6 : Hid (Box w6 w4.heap.size 45 #[.int .i64 hx.l, .slice hx.a hx.n hx.c]) := YX5.out.belowS hb
  have q56 : w5.heap.size ≤ w6.heap.size := hb.size
  clear B5 X5 OX5 YX5 hb 
  clear v0 v1
  have hcc : (c != c) = false := by simp
  have hrr : (R != R) = false := by simp
  obtain ⟨v0, v1⟩ := box2 X6.out
  obtain ⟨u0, u1⟩ := box2 YX6.out
  go_wp2_with fail
  go_region_held3 (fun x => x.cell? ⟨w.heap.size, 0, none⟩ = some (.int .i64 h.l) ∧ x.cell? ⟨w.heap.size, 1, none⟩ = some (.slice h.a h.n h.c) ∧ x.cell? ⟨w4.heap.size, 0, none⟩ = some (.int .i64 hx.l) ∧ x.cell? ⟨w4.heap.size, 1, none⟩ = some (.slice hx.a hx.n hx.c))
    (first | exact ⟨far6 hb8 (far6 hb7 v0), far6 hb8 (far6 hb7 v1), far6 hb8 (far6 hb7 u0), far6 hb8 (far6 hb7 u1)⟩ | exact ⟨far6 hb7 v0, far6 hb7 v1, far6 hb7 u0, far6 hb7 u1⟩ | go_keep)
    (first | (go_at_call 37; refine (C33.out F.out _ (below_drewN B6.out _)).mono ?_; rintro e wa ⟨⟨h7, rfl, o7⟩, hb7⟩)
           | (go_at_call 32; refine (c_eqPage hx h7 D _ ((OX6.out.rd.below (below_drewN (Below.refl _ _) _)).below hb7) o7.rd F.out).mono ?_; rintro e w7 ⟨rfl, hb8⟩))
  have hb : Below w6.heap.size w6 w7 := ((Below.refl w6.heap.size w6).drew.trans hb7).trans (hb8.mono hb7.size)
  clear hb7 hb8 o7 v0 v1 u0 u1
  have B7 : Hid (Below w.heap.size w w7) := B6.out.trans (hb.mono B6.out.size)
  have X7 : Hid (Box w7 w.heap.size 50 #[.int .i64 h.l, .slice h.a h.n h.c]) := X6.out.belowS hb
  have OX7 : Hid (OwnG w7 w3.heap.size w4.heap.size hx D) := OX6.out.below hb
  have YX7 : Hid (Box w7 w4.heap.size 45 #[.int .i64 hx.l, .slice hx.a hx.n hx.c]) := YX6.out.belowS hb
  have q67 : w6.heap.size ≤ w7.heap.size := hb.size
  clear B6 X6 OX6 YX6 hb 
  go_wp2
  go_ret
  exact ⟨rfl, B7.out⟩
end Go.Proofs.Ytaemdndkajomcaa
