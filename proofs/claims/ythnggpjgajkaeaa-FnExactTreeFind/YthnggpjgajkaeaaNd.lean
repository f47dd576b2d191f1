/-
  The law of TreeFind.
-/
import Derived.Test.YthnggpjgajkaeaaNc
import Derived.Test.YthnggpjgajkaeaaMn
namespace Go.Proofs.Ythnggpjgajkaeaa
open Go Go.RowKit
attribute [local go_sem ↓] Go.wp_at_zero Go.wp_at_succ

set_option maxRecDepth 100000 in
set_option maxHeartbeats 8000000 in
theorem law_FnExactTreeFind (ro : Int) (a : Option Addr) (n c : Nat) (vs : List TNode) (key : ByteArray) (w : World) (hr : RdN w a n vs) (hm : n ≤ maxLen) (hs : ∀ i, i < n → (vs.getD i zeroN).kn ≤ maxLen ∧ (∀ s ∈ (vs.getD i zeroN).ks, s.size ≤ maxLen) ∧ (vs.getD i zeroN).im ≤ maxLen) (hky : key.size ≤ maxLen) :
    Calls Try.prog 9 #[.agg #[.int .i64 ro, .slice a n c], .string key] w fun e w' => e = .returned (.bool true) ∧ Below w.heap.size w w' := by
  unfold maxLen at hky
  by_cases hk : 1048576 < key.size
  · clear hr hs
    go_enter Try.func9, Try.ntmps9
    go_wp2
    go_ret
    exact ⟨rfl, (Below.refl _ _).alloc (Nat.le_refl _) _⟩
  have hkey : key.size ≤ 1048576 := by omega
  obtain ⟨V, hV⟩ : ∃ V, w.alloc (.cells #[.int .i64 ro, .slice a n c] 46) = V := ⟨_, rfl⟩
  have B0 : Hid (Below w.heap.size w V) := by unfold Hid; rw [← hV]; exact (Below.refl _ _).alloc (Nat.le_refl _) _
  have X0 : Hid (Box V w.heap.size 46 #[.int .i64 ro, .slice a n c]) := by unfold Hid; rw [← hV]; exact Box.new _ _ _
  have C1 := c_szT ro a n c vs 1048576 V (hr.below B0.out) hm hs (by omega) (by omega)
  have HR : Hid (RdN w a n vs) := hr
  clear hr hs
  have x0 : V.cell? ⟨w.heap.size, 0, none⟩ = some (.int .i64 ro) := X0.out.cell 0
  have x1 : V.cell? ⟨w.heap.size, 1, none⟩ = some (.slice a n c) := X0.out.cell 1
  go_enter Try.func9, Try.ntmps9
  go_wp2_with fail
  refine C1.mono ?_
  rintro e w1 ⟨⟨z, rfl, hz, hzn⟩, hb⟩
  have B1 : Hid (Below w.heap.size w w1) := B0.out.trans (hb.mono B0.out.size)
  have X1 : Hid (Box w1 w.heap.size 46 #[.int .i64 ro, .slice a n c]) := X0.out.belowS hb
  clear hb B0 X0 C1 hV x0 x1
  by_cases hneg : z < 0
  · clear hzn
    go_wp2
    go_ret
    exact ⟨rfl, B1.out⟩
  have hn : n ≤ 1048576 := (hzn (by omega)).1
  have HF : Hid (∀ i, i < n → FitN (vs.getD i zeroN)) := (hzn (by omega)).2
  have CT : Hid (∀ W, Below w.heap.size w W → Calls Try.prog 29 #[.agg #[.int .i64 ro, .slice a n c]] W fun e w' => (∃ (x : Nat) (gs : List TNode), e = .returned (.agg #[.int .i64 ro, .slice (some ⟨x, 0, none⟩) n n]) ∧ TrC w' x n vs gs) ∧ Below W.heap.size W w') := fun W hW => c_toTC ro a n c vs W (HR.out.below hW) hn HF.out
  have CS : Hid (∀ W x gs, TrC W x n vs gs → Calls Try.prog 31 #[.agg #[.int .i64 ro, .slice (some ⟨x, 0, none⟩) n n], .string key] W fun e w' => AnsF (vs.map saysN) ro key e ∧ Below W.heap.size W w') := fun W x gs h => by have := c_specFind ro (some ⟨x, 0, none⟩) n n gs key W h.rd hn h.fit h.nil hkey; rw [h.says] at this; exact this
  have CI : Hid (∀ W x gs, TrC W x n vs gs → Calls Try.prog 20 #[.agg #[.int .i64 ro, .slice (some ⟨x, 0, none⟩) n n], .string key] W fun e w' => AnsF (vs.map saysN) ro key e ∧ Below W.heap.size W w') := fun W x gs h => by have := c_implFind ro (some ⟨x, 0, none⟩) n n gs key W h.rd hn h.fit h.nil hkey; rw [h.says] at this; exact this
  have CE : Hid (∀ W x gs y us, TrC W x n vs gs → TrC W y n vs us → Calls Try.prog 24 #[.agg #[.int .i64 ro, .slice (some ⟨x, 0, none⟩) n n], .agg #[.int .i64 ro, .slice (some ⟨y, 0, none⟩) n n]] W fun e w' => e = .returned (.bool true) ∧ Below W.heap.size W w') := fun W x gs y us h1 h2 => c_eqT2 ro _ _ n n n gs us W h1.rd h2.rd (h1.same.symm.trans h2.same) hn h1.fit
  clear hzn HR HF
  have x0 : w1.cell? ⟨w.heap.size, 0, none⟩ = some (.int .i64 ro) := X1.out.cell 0
  have x1 : w1.cell? ⟨w.heap.size, 1, none⟩ = some (.slice a n c) := X1.out.cell 1
  go_wp2_with fail
  refine (CT.out w1 B1.out).mono ?_
  rintro e w2 ⟨⟨x2, g2, rfl, r2⟩, hb⟩
  have B2 : Hid (Below w.heap.size w w2) := B1.out.trans (hb.mono B1.out.size)
  have X2 : Hid (Box w2 w.heap.size 46 #[.int .i64 ro, .slice a n c]) := X1.out.belowS hb
  have CS2 := CS.out w2 x2 g2 r2
  clear hb B1 X1 CS r2 x0 x1
  go_wp2_with fail
  refine CS2.mono ?_
  rintro e w3 ⟨⟨d1, k1, rfl, hd1⟩, hb⟩
  have B3 : Hid (Below w.heap.size w w3) := B2.out.trans (hb.mono B2.out.size)
  have X3 : Hid (Box w3 w.heap.size 46 #[.int .i64 ro, .slice a n c]) := X2.out.belowS hb
  have HD1 : Hid (FindIs (vs.map saysN) ro key d1 k1) := hd1
  clear hd1
  clear hb B2 X2 CS2
  have x0 : w3.cell? ⟨w.heap.size, 0, none⟩ = some (.int .i64 ro) := X3.out.cell 0
  have x1 : w3.cell? ⟨w.heap.size, 1, none⟩ = some (.slice a n c) := X3.out.cell 1
  go_wp2_with fail
  refine (CT.out w3 B3.out).mono ?_
  rintro e w4 ⟨⟨ax, gx, rfl, rx⟩, hb⟩
  have B4 : Hid (Below w.heap.size w w4) := B3.out.trans (hb.mono B3.out.size)
  have X4 : Hid (Box w4 w.heap.size 46 #[.int .i64 ro, .slice a n c]) := X3.out.belowS hb
  have RX4 : Hid (TrC w4 ax n vs gx) := rx
  clear hb B3 X3 rx x0 x1
  obtain ⟨w5, hw5⟩ : ∃ W, w4.alloc (.cells #[.int .i64 ro, .slice (some ⟨ax, 0, none⟩) n n] 27) = W := ⟨_, rfl⟩
  have hb : Below w4.heap.size w4 w5 := by rw [← hw5]; exact (Below.refl _ _).alloc (Nat.le_refl _) _
  have B5 : Hid (Below w.heap.size w w5) := B4.out.trans (hb.mono B4.out.size)
  have X5 : Hid (Box w5 w.heap.size 46 #[.int .i64 ro, .slice a n c]) := X4.out.belowS hb
  have Y5 : Hid (Box w5 w4.heap.size 27 #[.int .i64 ro, .slice (some ⟨ax, 0, none⟩) n n]) := by unfold Hid; rw [← hw5]; exact Box.new _ _ _
  have RX5 : Hid (TrC w5 ax n vs gx) := RX4.out.below hb
  have C5 := CI.out w5 ax gx RX5.out
  clear hb B4 X4 RX4 CI
  have y0 : w5.cell? ⟨w4.heap.size, 0, none⟩ = some (.int .i64 ro) := Y5.out.cell 0
  have y1 : w5.cell? ⟨w4.heap.size, 1, none⟩ = some (.slice (some ⟨ax, 0, none⟩) n n) := Y5.out.cell 1
  go_wp2_with fail
  refine C5.mono ?_
  rintro e w6 ⟨⟨d2, k2, rfl, hd2⟩, hb⟩
  have B6 : Hid (Below w.heap.size w w6) := B5.out.trans (hb.mono B5.out.size)
  have X6 : Hid (Box w6 w.heap.size 46 #[.int .i64 ro, .slice a n c]) := X5.out.belowS hb
  have Y6 : Hid (Box w6 w4.heap.size 27 #[.int .i64 ro, .slice (some ⟨ax, 0, none⟩) n n]) := Y5.out.belowS hb
  have RX6 : Hid (TrC w6 ax n vs gx) := RX5.out.below hb
  obtain ⟨rfl, rfl⟩ := HD1.out.uniq hd2
  have nn : (d2 != d2) = false := by simp
  have nk : (k2 != k2) = false := by simp
  clear hd2
  clear hb B5 X5 Y5 RX5 C5 y0 y1 hw5
  have x0 : w6.cell? ⟨w.heap.size, 0, none⟩ = some (.int .i64 ro) := X6.out.cell 0
  have x1 : w6.cell? ⟨w.heap.size, 1, none⟩ = some (.slice a n c) := X6.out.cell 1
  have y0 : w6.cell? ⟨w4.heap.size, 0, none⟩ = some (.int .i64 ro) := Y6.out.cell 0
  have y1 : w6.cell? ⟨w4.heap.size, 1, none⟩ = some (.slice (some ⟨ax, 0, none⟩) n n) := Y6.out.cell 1
  go_wp2_with fail
  go_region_held3 (fun x => x.cell? ⟨w.heap.size, 0, none⟩ = some (.int .i64 ro) ∧ x.cell? ⟨w.heap.size, 1, none⟩ = some (.slice a n c) ∧ x.cell? ⟨w4.heap.size, 0, none⟩ = some (.int .i64 ro) ∧ x.cell? ⟨w4.heap.size, 1, none⟩ = some (.slice (some ⟨ax, 0, none⟩) n n))
    (first | exact ⟨far6 hb8 (far6 hb7 x0), far6 hb8 (far6 hb7 x1), far6 hb8 (far6 hb7 y0), far6 hb8 (far6 hb7 y1)⟩ | exact ⟨far6 hb7 x0, far6 hb7 x1, far6 hb7 y0, far6 hb7 y1⟩ | go_keep)
    (first | (go_at_call 29; refine (CT.out _ (below_drewN B6.out _)).mono ?_; rintro e wa ⟨⟨a7, g7, rfl, r7⟩, hb7⟩)
           | (go_at_call 24; refine (CE.out _ _ _ _ _ (RX6.out.below ((Below.refl _ _).drew.trans hb7)) r7).mono ?_; rintro e w8 ⟨rfl, hb8⟩))
  have hb : Below w6.heap.size w6 w8 := ((Below.refl w6.heap.size w6).drew.trans hb7).trans (hb8.mono hb7.size)
  have B8 : Hid (Below w.heap.size w w8) := B6.out.trans (hb.mono B6.out.size)
  clear hb hb7 hb8 r7
  go_wp2
  go_ret
  exact ⟨rfl, B8.out⟩

end Go.Proofs.Ythnggpjgajkaeaa
