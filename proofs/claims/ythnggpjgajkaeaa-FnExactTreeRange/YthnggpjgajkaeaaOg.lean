/-
  The law of TreeRange.
-/
import Derived.Test.YthnggpjgajkaeaaNf
import Derived.Test.YthnggpjgajkaeaaOb
namespace Go.Proofs.Ythnggpjgajkaeaa
open Go Go.RowKit
attribute [local go_sem ↓] Go.wp_at_zero Go.wp_at_succ

theorem c_eqSame (a a' : Option Addr) (n cap cap' : Nat) (R : List ByteArray) (w : World) (hr : RdV w a n (R.map Value.string)) (hr' : RdV w a' n (R.map Value.string)) (hn : n ≤ 1048576) :
    Calls Try.prog 33 #[.slice a n cap, .slice a' n cap'] w fun e w' => e = .returned (.bool true) ∧ Below w.heap.size w w' := by
  refine (c_eqS a a' n cap n cap' R R w hr hr' hn hn).mono ?_
  rintro e w' ⟨rfl, q, rfl⟩
  exact ⟨by simp, below_drewN (Below.refl _ _) q⟩
/-- A copy with all that marks ask for. -/
structure TrO (w : World) (B x n : Nat) (bs : Nat → Nat) (vs gs : List TNode) : Prop where
  c : TrC w x n vs gs
  mks : MkT w B x n bs gs
theorem TrO.below {w w' : World} {B x n : Nat} {bs : Nat → Nat} {vs gs : List TNode} (h : TrO w B x n bs vs gs) (hb : Below w.heap.size w w') (hx : x < w.heap.size) (hE : bs n ≤ w.heap.size) : TrO w' B x n bs vs gs :=
  ⟨h.c.below hb, ⟨h.mks.row.same (hb.block x hx), fun i hi => (h.mks.lists i hi).same fun g _ h2 => hb.block g (by have := h.mks.le (show i + 1 ≤ n by omega) (Nat.le_refl _); omega), h.mks.mono, h.mks.first⟩⟩
set_option maxRecDepth 100000 in
set_option maxHeartbeats 8000000 in
theorem c_toTO (ro : Int) (a : Option Addr) (n c : Nat) (vs : List TNode) (w : World) (hr : RdN w a n vs) (hn : n ≤ 1048576) (hf : ∀ i, i < n → FitN (vs.getD i zeroN)) :
    Calls Try.prog 29 #[.agg #[.int .i64 ro, .slice a n c]] w fun e w' => (∃ (x : Nat) (gs : List TNode) (bs : Nat → Nat), e = .returned (.agg #[.int .i64 ro, .slice (some ⟨x, 0, none⟩) n n]) ∧ TrO w' w.heap.size x n bs vs gs ∧ w.heap.size ≤ x ∧ x < w'.heap.size ∧ bs n ≤ w'.heap.size) ∧ Below w.heap.size w w' := by
  refine (c_toTB ro a n c vs w hr hn hf).mono ?_
  rintro e w' ⟨⟨x, gs, bs, rfl, hs, ho, ⟨hof, h0, hE⟩, hx1, hx2⟩, hb⟩
  have hl : gs.length = n := by rw [← hs.len]; exact hr.1
  have hin : ∀ i, i < n → InN w' (gs.getD i zeroN) := fun i hi => (hof.own i (by omega)).inn
  exact ⟨⟨x, gs, bs, rfl, ⟨⟨hs, RdN.own ho hin, fun i hi => fit_same (hr.2.2 i hi) (hin i hi) (hs.at i) (hf i hi), fun i hi => own_src (hof.own i (by omega)).1⟩, ⟨RowW.of ho, fun i hi => AnyN1.of (hof.own i (by omega)), fun i hi => hof.mono i (by omega), h0⟩⟩, hx1, hx2, hE⟩, hb⟩
theorem own_inn {w w' : World} {base e size n B E : Nat} {a : Option Addr} {m cp : Nat} {xs : List Value} (h : w.ownsRow base e size (.slice a m cp) n xs) (hi : Inn B E w w') (hg : ∀ g, ob a = some g → g < w.heap.size ∧ (g < B ∨ E ≤ g)) : w'.ownsRow base e size (.slice a m cp) n xs := own_same h fun g e => by rw [ob_slice] at e; exact hi.block g (hg g e).1 (hg g e).2
set_option maxRecDepth 100000 in
set_option maxHeartbeats 20000000 in
theorem law_FnExactTreeRange (ro : Int) (a : Option Addr) (n c : Nat) (vs : List TNode) (fr to : ByteArray) (w : World) (hr : RdN w a n vs) (hm : n ≤ maxLen) (hs : ∀ i, i < n → (vs.getD i zeroN).kn ≤ maxLen ∧ (∀ s ∈ (vs.getD i zeroN).ks, s.size ≤ maxLen) ∧ (vs.getD i zeroN).im ≤ maxLen) (hfr : fr.size ≤ maxLen) (hto : to.size ≤ maxLen) :
    Calls Try.prog 10 #[.agg #[.int .i64 ro, .slice a n c], .string fr, .string to] w fun e w' => e = .returned (.bool true) ∧ Below w.heap.size w w' := by
  unfold maxLen at hfr hto
  by_cases hk1 : 1048576 < fr.size
  · clear hr hs
    go_enter Try.func10, Try.ntmps10
    go_wp2
    go_ret
    exact ⟨rfl, (Below.refl _ _).alloc (Nat.le_refl _) _⟩
  by_cases hk2 : 1048576 < to.size
  · clear hr hs
    go_enter Try.func10, Try.ntmps10
    go_wp2
    go_ret
    exact ⟨rfl, (Below.refl _ _).alloc (Nat.le_refl _) _⟩
  have hf1 : fr.size ≤ 1048576 := by omega
  have ht1 : to.size ≤ 1048576 := by omega
  obtain ⟨V, hV⟩ : ∃ V, w.alloc (.cells #[.int .i64 ro, .slice a n c] 46) = V := ⟨_, rfl⟩
  have B0 : Hid (Below w.heap.size w V) := by unfold Hid; rw [← hV]; exact (Below.refl _ _).alloc (Nat.le_refl _) _
  have X0 : Hid (Box V w.heap.size 46 #[.int .i64 ro, .slice a n c]) := by unfold Hid; rw [← hV]; exact Box.new _ _ _
  have C1 := c_szT ro a n c vs 1048576 V (hr.below B0.out) hm hs (by omega) (by omega)
  have HR : Hid (RdN w a n vs) := hr
  clear hr hs
  have x0 : V.cell? ⟨w.heap.size, 0, none⟩ = some (.int .i64 ro) := X0.out.cell 0
  have x1 : V.cell? ⟨w.heap.size, 1, none⟩ = some (.slice a n c) := X0.out.cell 1
  go_enter Try.func10, Try.ntmps10
  go_wp2_with fail
  refine C1.mono ?_
  rintro e w1 ⟨⟨z, rfl, hz, hzn⟩, hb⟩
  have B1 : Hid (Below w.heap.size w w1) := B0.out.trans (hb.mono B0.out.size)
  have X1 : Hid (Box w1 w.heap.size 46 #[.int .i64 ro, .slice a n c]) := X0.out.belowS hb
  clear hb B0 X0 C1 hV x0 x1
  by_cases hneg : z < 0
  · clear hzn
    go_wp2
    go_ret
    exact ⟨rfl, B1.out⟩
  have hn : n ≤ 1048576 := (hzn (by omega)).1
  have HF : Hid (∀ i, i < n → FitN (vs.getD i zeroN)) := (hzn (by omega)).2
  have CT : Hid (∀ W, Below w.heap.size w W → Calls Try.prog 29 #[.agg #[.int .i64 ro, .slice a n c]] W fun e w' => (∃ (x : Nat) (gs : List TNode), e = .returned (.agg #[.int .i64 ro, .slice (some ⟨x, 0, none⟩) n n]) ∧ TrC w' x n vs gs) ∧ Below W.heap.size W w') := fun W hW => c_toTC ro a n c vs W (HR.out.below hW) hn HF.out
  have CO : Hid (∀ W, Below w.heap.size w W → Calls Try.prog 29 #[.agg #[.int .i64 ro, .slice a n c]] W fun e w' => (∃ (x : Nat) (gs : List TNode) (bs : Nat → Nat), e = .returned (.agg #[.int .i64 ro, .slice (some ⟨x, 0, none⟩) n n]) ∧ TrO w' W.heap.size x n bs vs gs ∧ W.heap.size ≤ x ∧ x < w'.heap.size ∧ bs n ≤ w'.heap.size) ∧ Below W.heap.size W w') := fun W hW => c_toTO ro a n c vs W (HR.out.below hW) hn HF.out
  have CS : Hid (∀ W x gs, TrC W x n vs gs → Calls Try.prog 32 #[.agg #[.int .i64 ro, .slice (some ⟨x, 0, none⟩) n n], .string fr, .string to] W fun e w' => AnsRg (vs.map saysN) ro fr to W e w') := fun W x gs h => by have := c_specRange ro (some ⟨x, 0, none⟩) n n gs fr to W h.rd hn h.fit h.nil hf1 ht1; rw [h.says] at this; exact this
  have CI : Hid (∀ W x gs, TrC W x n vs gs → Calls Try.prog 16 #[.agg #[.int .i64 ro, .slice (some ⟨x, 0, none⟩) n n], .string fr, .string to] W fun e w' => AnsRg (vs.map saysN) ro fr to W e w') := fun W x gs h => by have := c_implRange ro (some ⟨x, 0, none⟩) n n gs fr to W h.rd hn h.fit h.nil hf1 ht1; rw [h.says] at this; exact this
  have CE : Hid (∀ W x gs y us, TrC W x n vs gs → TrC W y n vs us → Calls Try.prog 24 #[.agg #[.int .i64 ro, .slice (some ⟨x, 0, none⟩) n n], .agg #[.int .i64 ro, .slice (some ⟨y, 0, none⟩) n n]] W fun e w' => e = .returned (.bool true) ∧ Below W.heap.size W w') := fun W x gs y us h1 h2 => c_eqT2 ro _ _ n n n gs us W h1.rd h2.rd (h1.same.symm.trans h2.same) hn h1.fit
  clear hzn HR HF
  have x0 : w1.cell? ⟨w.heap.size, 0, none⟩ = some (.int .i64 ro) := X1.out.cell 0
  have x1 : w1.cell? ⟨w.heap.size, 1, none⟩ = some (.slice a n c) := X1.out.cell 1
  go_wp2_with fail
  refine (CT.out w1 B1.out).mono ?_
  rintro e w2 ⟨⟨x2, g2, rfl, r2⟩, hb⟩
  have B2 : Hid (Below w.heap.size w w2) := B1.out.trans (hb.mono B1.out.size)
  have X2 : Hid (Box w2 w.heap.size 46 #[.int .i64 ro, .slice a n c]) := X1.out.belowS hb
  have CS2 := CS.out w2 x2 g2 r2
  clear hb B1 X1 CS r2 x0 x1
  go_wp2_with fail
  refine CS2.mono ?_
  rintro e w3 ⟨aw, mw, cw, R, kw, rfl, hRl, hm9, oW, hrg, hb⟩
  have B3 : Hid (Below w.heap.size w w3) := B2.out.trans (hb.mono B2.out.size)
  have X3 : Hid (Box w3 w.heap.size 46 #[.int .i64 ro, .slice a n c]) := X2.out.belowS hb
  have OW3 : Hid (w3.ownsRow w2.heap.size 9 1 (.slice aw mw cw) mw (R.map Value.string)) := oW
  have BW : Hid (∀ g, ob aw = some g → w2.heap.size ≤ g ∧ g < w3.heap.size) := own_blk oW
  have HRG : Hid (RangeIs (vs.map saysN) ro fr to R kw) := hrg
  have HRL : Hid (R.length = mw) := hRl
  have s3 : Hid (w2.heap.size ≤ w3.heap.size) := hb.size
  have z2 : Hid (w.heap.size < w2.heap.size) := X2.out.lt
  clear hb B2 X2 CS2 oW hrg hRl
  have x0 : w3.cell? ⟨w.heap.size, 0, none⟩ = some (.int .i64 ro) := X3.out.cell 0
  have x1 : w3.cell? ⟨w.heap.size, 1, none⟩ = some (.slice a n c) := X3.out.cell 1
  go_wp2_with fail
  refine (CO.out w3 B3.out).mono ?_
  rintro e w4 ⟨⟨ax, gx, bs, rfl, rx, hx1, hx2, hE⟩, hb⟩
  have B4 : Hid (Below w.heap.size w w4) := B3.out.trans (hb.mono B3.out.size)
  have X4 : Hid (Box w4 w.heap.size 46 #[.int .i64 ro, .slice a n c]) := X3.out.belowS hb
  have RX4 : Hid (TrO w4 w3.heap.size ax n bs vs gx) := rx
  have OW4 : Hid (w4.ownsRow w2.heap.size 9 1 (.slice aw mw cw) mw (R.map Value.string)) := own_below OW3.out hb
  have HX : Hid (w3.heap.size ≤ ax ∧ ax < w4.heap.size ∧ bs n ≤ w4.heap.size ∧ w3.heap.size ≤ w4.heap.size) := ⟨hx1, hx2, hE, hb.size⟩
  clear hb B3 X3 rx x0 x1 OW3 hx1 hx2 hE CO
  obtain ⟨w5, hw5⟩ : ∃ W, w4.alloc (.cells #[.int .i64 ro, .slice (some ⟨ax, 0, none⟩) n n] 27) = W := ⟨_, rfl⟩
  have hb : Below w4.heap.size w4 w5 := by rw [← hw5]; exact (Below.refl _ _).alloc (Nat.le_refl _) _
  have B5 : Hid (Below w.heap.size w w5) := B4.out.trans (hb.mono B4.out.size)
  have X5 : Hid (Box w5 w.heap.size 46 #[.int .i64 ro, .slice a n c]) := X4.out.belowS hb
  have Y5 : Hid (Box w5 w4.heap.size 27 #[.int .i64 ro, .slice (some ⟨ax, 0, none⟩) n n]) := by unfold Hid; rw [← hw5]; exact Box.new _ _ _
  have RX5 : Hid (TrO w5 w3.heap.size ax n bs vs gx) := RX4.out.below hb HX.out.2.1 HX.out.2.2.1
  have OW5 : Hid (w5.ownsRow w2.heap.size 9 1 (.slice aw mw cw) mw (R.map Value.string)) := own_below OW4.out hb
  have z5 : Hid (w4.heap.size < w5.heap.size) := Y5.out.lt
  have C5 := CI.out w5 ax gx RX5.out.c
  clear hb B4 X4 RX4 OW4
  have y0 : w5.cell? ⟨w4.heap.size, 0, none⟩ = some (.int .i64 ro) := Y5.out.cell 0
  have y1 : w5.cell? ⟨w4.heap.size, 1, none⟩ = some (.slice (some ⟨ax, 0, none⟩) n n) := Y5.out.cell 1
  go_wp2_with fail
  refine C5.mono ?_
  rintro e w6 ⟨ag, mg, cg, R', kg, rfl, hRl, _, oG, hrg, hb⟩
  obtain ⟨rfl, rfl⟩ := HRG.out.uniq hrg
  obtain rfl : mg = mw := by rw [← hRl, HRL.out]
  have B6 : Hid (Below w.heap.size w w6) := B5.out.trans (hb.mono B5.out.size)
  have X6 : Hid (Box w6 w.heap.size 46 #[.int .i64 ro, .slice a n c]) := X5.out.belowS hb
  have Y6 : Hid (Box w6 w4.heap.size 27 #[.int .i64 ro, .slice (some ⟨ax, 0, none⟩) n n]) := Y5.out.belowS hb
  have RX6 : Hid (TrO w6 w3.heap.size ax n bs vs gx) := RX5.out.below hb (by have := HX.out; have := z5.out; omega) (by have := HX.out; have := z5.out; omega)
  have OW6 : Hid (w6.ownsRow w2.heap.size 9 1 (.slice aw mg cw) mg (R'.map Value.string)) := own_below OW5.out hb
  have OG6 : Hid (w6.ownsRow w5.heap.size 9 1 (.slice ag mg cg) mg (R'.map Value.string)) := oG
  have BG : Hid (∀ g, ob ag = some g → w5.heap.size ≤ g ∧ g < w6.heap.size) := own_blk oG
  have s6 : Hid (w5.heap.size ≤ w6.heap.size) := hb.size
  have nk : (kg != kg) = false := by simp
  have CQ := c_eqSame ag aw mg cg cw R' w6 (RdV.own oG) (RdV.own OW6.out) (by omega)
  clear hb B5 X5 Y5 RX5 OW5 C5 oG hrg hRl y0 y1 hw5
  go_wp2_with fail
  refine CQ.mono ?_
  rintro e w7 ⟨rfl, hb⟩
  have B7 : Hid (Below w.heap.size w w7) := B6.out.trans (hb.mono B6.out.size)
  have X7 : Hid (Box w7 w.heap.size 46 #[.int .i64 ro, .slice a n c]) := X6.out.belowS hb
  have Y7 : Hid (Box w7 w4.heap.size 27 #[.int .i64 ro, .slice (some ⟨ax, 0, none⟩) n n]) := Y6.out.belowS hb
  have RX7 : Hid (TrO w7 w3.heap.size ax n bs vs gx) := RX6.out.below hb (by have := HX.out; have := z5.out; have := s6.out; omega) (by have := HX.out; have := z5.out; have := s6.out; omega)
  have OW7 : Hid (w7.ownsRow w2.heap.size 9 1 (.slice aw mg cw) mg (R'.map Value.string)) := own_below OW6.out hb
  have OG7 : Hid (w7.ownsRow w5.heap.size 9 1 (.slice ag mg cg) mg (R'.map Value.string)) := own_below OG6.out hb
  have s7 : Hid (w6.heap.size ≤ w7.heap.size) := hb.size
  clear hb B6 X6 Y6 RX6 OW6 OG6 CQ
  have x0 : w7.cell? ⟨w.heap.size, 0, none⟩ = some (.int .i64 ro) := X7.out.cell 0
  have x1 : w7.cell? ⟨w.heap.size, 1, none⟩ = some (.slice a n c) := X7.out.cell 1
  have y0 : w7.cell? ⟨w4.heap.size, 0, none⟩ = some (.int .i64 ro) := Y7.out.cell 0
  have y1 : w7.cell? ⟨w4.heap.size, 1, none⟩ = some (.slice (some ⟨ax, 0, none⟩) n n) := Y7.out.cell 1
  go_wp2_with fail
  go_region_held3 (fun x => x.cell? ⟨w.heap.size, 0, none⟩ = some (.int .i64 ro) ∧ x.cell? ⟨w.heap.size, 1, none⟩ = some (.slice a n c) ∧ x.cell? ⟨w4.heap.size, 0, none⟩ = some (.int .i64 ro) ∧ x.cell? ⟨w4.heap.size, 1, none⟩ = some (.slice (some ⟨ax, 0, none⟩) n n))
    (first | exact ⟨far6 hb8 (far6 hb7 x0), far6 hb8 (far6 hb7 x1), far6 hb8 (far6 hb7 y0), far6 hb8 (far6 hb7 y1)⟩ | exact ⟨far6 hb7 x0, far6 hb7 x1, far6 hb7 y0, far6 hb7 y1⟩ | go_keep)
    (first | (go_at_call 29; refine (CT.out _ (below_drewN B7.out _)).mono ?_; rintro e wa ⟨⟨a7, g7, rfl, r7⟩, hb7⟩)
           | (go_at_call 24; refine (CE.out _ _ _ _ _ (RX7.out.c.below ((Below.refl _ _).drew.trans hb7)) r7).mono ?_; rintro e w8 ⟨rfl, hb8⟩))
  have hb : Below w7.heap.size w7 w8 := ((Below.refl w7.heap.size w7).drew.trans hb7).trans (hb8.mono hb7.size)
  have B8 : Hid (Below w.heap.size w w8) := B7.out.trans (hb.mono B7.out.size)
  have X8 : Hid (Box w8 w.heap.size 46 #[.int .i64 ro, .slice a n c]) := X7.out.belowS hb
  have Y8 : Hid (Box w8 w4.heap.size 27 #[.int .i64 ro, .slice (some ⟨ax, 0, none⟩) n n]) := Y7.out.belowS hb
  have RX8 : Hid (TrO w8 w3.heap.size ax n bs vs gx) := RX7.out.below hb (by have := HX.out; have := z5.out; have := s6.out; have := s7.out; omega) (by have := HX.out; have := z5.out; have := s6.out; have := s7.out; omega)
  have OW8 : Hid (w8.ownsRow w2.heap.size 9 1 (.slice aw mg cw) mg (R'.map Value.string)) := own_below OW7.out hb
  have OG8 : Hid (w8.ownsRow w5.heap.size 9 1 (.slice ag mg cg) mg (R'.map Value.string)) := own_below OG7.out hb
  have s8 : Hid (w7.heap.size ≤ w8.heap.size) := hb.size
  have CM := c_markTW ro w3.heap.size ax n bs gx w8 RX8.out.mks hn RX8.out.c.fit (by have := HX.out; have := z5.out; have := s6.out; have := s7.out; have := s8.out; omega) (by have := HX.out; have := z5.out; have := s6.out; have := s7.out; have := s8.out; omega)
  clear hb hb7 hb8 r7 B7 X7 Y7 RX7 OW7 OG7 x0 x1 y0 y1 CE RX8
  have y0 : w8.cell? ⟨w4.heap.size, 0, none⟩ = some (.int .i64 ro) := Y8.out.cell 0
  have y1 : w8.cell? ⟨w4.heap.size, 1, none⟩ = some (.slice (some ⟨ax, 0, none⟩) n n) := Y8.out.cell 1
  go_wp2_with fail
  refine CM.mono ?_
  rintro e w9 ⟨⟨km, rfl, hkm⟩, hI⟩
  have z3 : Hid (w.heap.size < ax) := by unfold Hid; have := HX.out; have h1 := z2.out; have h2 := s3.out; omega
  have L8 : Hid (w6.heap.size ≤ w8.heap.size) := by unfold Hid; have := s7.out; have := s8.out; omega
  have B9 : Hid (Below w.heap.size w w9) := B8.out.trans (hI.below (by have := z3.out; omega) B8.out.size)
  have X9 : Hid (Box w9 w.heap.size 46 #[.int .i64 ro, .slice a n c]) := X8.out.innO hI (.inl z3.out)
  have OW9 : Hid (w9.ownsRow w2.heap.size 9 1 (.slice aw mg cw) mg (R'.map Value.string)) := own_inn OW8.out hI fun g e => by have h1 := BW.out g e; have h2 := HX.out; have h3 := z5.out; have h4 := s6.out; have h5 := L8.out; omega
  have OG9 : Hid (w9.ownsRow w5.heap.size 9 1 (.slice ag mg cg) mg (R'.map Value.string)) := own_inn OG8.out hI fun g e => by have h1 := BG.out g e; have h2 := HX.out; have h3 := z5.out; have h5 := L8.out; omega
  have s9 : Hid (w8.heap.size ≤ w9.heap.size) := hI.size
  have CQ := c_eqSame ag aw mg cg cw R' w9 (RdV.own OG9.out) (RdV.own OW9.out) (by omega)
  clear hI B8 X8 Y8 OW8 OG8 CM y0 y1
  go_wp2_with fail
  refine CQ.mono ?_
  rintro e w10 ⟨rfl, hb⟩
  have B10 : Hid (Below w.heap.size w w10) := B9.out.trans (hb.mono B9.out.size)
  have X10 : Hid (Box w10 w.heap.size 46 #[.int .i64 ro, .slice a n c]) := X9.out.belowS hb
  have OW10 : Hid (w10.ownsRow w2.heap.size 9 1 (.slice aw mg cw) mg (R'.map Value.string)) := own_below OW9.out hb
  have s10 : Hid (w9.heap.size ≤ w10.heap.size) := hb.size
  have OG10 : Hid (w10.ownsRow w5.heap.size 9 1 (.slice ag mg cg) mg (R'.map Value.string)) := own_below OG9.out hb
  have CMk := c_markS w5.heap.size (.slice ag mg cg) mg 1 (R'.map Value.string) w10 OG10.out (by omega) (by omega) (by omega)
  rw [show (((1 : Nat)) : Int) = 1 from rfl] at CMk
  clear hb B9 X9 OW9 OG9 CQ
  go_wp2_with fail
  refine CMk.mono ?_
  rintro e w11 ⟨rfl, hmk, hg⟩
  rw [ob_slice] at hg
  have B11 : Hid (Below w.heap.size w w11) := B10.out.grown hg B10.out.size (fun g e => by have h1 := BG.out g e; have h2 := HX.out; have h3 := z5.out; have h4 := z3.out; omega)
  have X11 : Hid (Box w11 w.heap.size 46 #[.int .i64 ro, .slice a n c]) := X10.out.grown hg (fun e => by have h1 := BG.out _ e; have h2 := HX.out; have h3 := z5.out; have h4 := z3.out; omega)
  have OW11 : Hid (w11.ownsRow w2.heap.size 9 1 (.slice aw mg cw) mg (R'.map Value.string)) := own_same OW10.out fun g e => by
    rw [ob_slice] at e
    have h1 := BW.out g e
    have h2 := HX.out
    have h3 := z5.out
    have h5 := L8.out
    have h6 := s6.out
    have h7 := s9.out
    have h8 := s10.out
    exact hg.block g (by omega) (fun q => by have := BG.out g q.symm; omega)
  have M11 : Hid (w11.ownsRow w5.heap.size 9 1 (.slice ag mg cg) mg (marksS 1 mg)) := hmk
  have CH := c_heldS ag mg cg 1 w11 (RdV.own hmk) (by omega) (by omega) (by omega)
  rw [show (((1 : Nat)) : Int) = 1 from rfl] at CH
  obtain ⟨q1, hq1⟩ : ∃ q : Nat, 1 + mg = q := ⟨_, rfl⟩
  have HQ1 : Hid (1 + mg = q1) := hq1
  rw [hq1] at CH ⊢
  have nq : ((q1 : Int) != (q1 : Int)) = false := by simp
  clear hmk hg B10 X10 OW10 OG10 CMk hq1
  go_wp2_with fail
  refine CH.mono ?_
  rintro e w12 ⟨rfl, hb⟩
  have B12 : Hid (Below w.heap.size w w12) := B11.out.trans (hb.mono B11.out.size)
  have X12 : Hid (Box w12 w.heap.size 46 #[.int .i64 ro, .slice a n c]) := X11.out.belowS hb
  have OW12 : Hid (w12.ownsRow w2.heap.size 9 1 (.slice aw mg cw) mg (R'.map Value.string)) := own_below OW11.out hb
  have s12 : Hid (w11.heap.size ≤ w12.heap.size) := hb.size
  have M12 : Hid (w12.ownsRow w5.heap.size 9 1 (.slice ag mg cg) mg (marksS 1 mg)) := own_below M11.out hb
  clear hb B11 X11 OW11 M11 CH
  have x0 : w12.cell? ⟨w.heap.size, 0, none⟩ = some (.int .i64 ro) := X12.out.cell 0
  have x1 : w12.cell? ⟨w.heap.size, 1, none⟩ = some (.slice a n c) := X12.out.cell 1
  go_wp2_with fail
  refine (CT.out w12 B12.out).mono ?_
  rintro e w13 ⟨⟨x13, g13, rfl, r13⟩, hb⟩
  have B13 : Hid (Below w.heap.size w w13) := B12.out.trans (hb.mono B12.out.size)
  have X13 : Hid (Box w13 w.heap.size 46 #[.int .i64 ro, .slice a n c]) := X12.out.belowS hb
  have OW13 : Hid (w13.ownsRow w2.heap.size 9 1 (.slice aw mg cw) mg (R'.map Value.string)) := own_below OW12.out hb
  have s13 : Hid (w12.heap.size ≤ w13.heap.size) := hb.size
  have M13 : Hid (w13.ownsRow w5.heap.size 9 1 (.slice ag mg cg) mg (marksS 1 mg)) := own_below M12.out hb
  have C13 := CI.out w13 x13 g13 r13
  clear hb B12 X12 OW12 M12 CT CI r13 x0 x1
  go_wp2_with fail
  refine C13.mono ?_
  rintro e w14 ⟨ah, mh, ch, R'', kh, rfl, hRl, _, oH, hrg, hb⟩
  obtain ⟨rfl, rfl⟩ := HRG.out.uniq hrg
  obtain rfl : mh = mg := by rw [← hRl, HRL.out]
  have B14 : Hid (Below w.heap.size w w14) := B13.out.trans (hb.mono B13.out.size)
  have X14 : Hid (Box w14 w.heap.size 46 #[.int .i64 ro, .slice a n c]) := X13.out.belowS hb
  have OW14 : Hid (w14.ownsRow w2.heap.size 9 1 (.slice aw mh cw) mh (R''.map Value.string)) := own_below OW13.out hb
  have s14 : Hid (w13.heap.size ≤ w14.heap.size) := hb.size
  have M14 : Hid (w14.ownsRow w5.heap.size 9 1 (.slice ag mh cg) mh (marksS 1 mh)) := own_below M13.out hb
  have CQ := c_eqSame ah aw mh ch cw R'' w14 (RdV.own oH) (RdV.own OW14.out) (by omega)
  clear hb B13 X13 OW13 M13 C13 oH hrg hRl
  go_wp2_with fail
  refine CQ.mono ?_
  rintro e w15 ⟨rfl, hb⟩
  have B15 : Hid (Below w.heap.size w w15) := B14.out.trans (hb.mono B14.out.size)
  have M15 : Hid (w15.ownsRow w5.heap.size 9 1 (.slice ag mh cg) mh (marksS 1 mh)) := own_below M14.out hb
  have CH := c_heldS ag mh cg 1 w15 (RdV.own M15.out) (by omega) (by omega) (by omega)
  rw [show (((1 : Nat)) : Int) = 1 from rfl, HQ1.out] at CH
  clear hb B14 X14 OW14 M14 CQ
  go_wp2_with fail
  refine CH.mono ?_
  rintro e w16 ⟨rfl, hb⟩
  have B16 : Hid (Below w.heap.size w w16) := B15.out.trans (hb.mono B15.out.size)
  clear hb B15 M15 CH
  go_wp2
  go_ret
  exact ⟨rfl, B16.out⟩

end Go.Proofs.Ythnggpjgajkaeaa
