/-
  The law of FnExactTreeInsert.
-/
import Derived.Test.YthnggpjgajkaeaaQm
import Derived.Test.YthnggpjgajkaeaaZQc
namespace Go.Proofs.Ythnggpjgajkaeaa
open Go Go.RowKit
attribute [local go_sem ↓] Go.wp_at_zero Go.wp_at_succ

theorem TreeSays.uniq {K : Option (List ByteArray)} {s s' : List (Bool × List ByteArray × List Int)} (h : TreeSays K s) (h' : TreeSays K s') : s' = s := by
  cases K with
  | none => exact Eq.trans h' (Eq.symm h)
  | some K => exact h'.det h
theorem kOK_size {s : ByteArray} (h : kOK s = true) : s.size ≤ 30 := by unfold kOK at h; simp at h; omega
theorem KOK.sizes {K : List ByteArray} (h : KOK K) : ∀ s ∈ K, s.size ≤ 1048576 := by
  intro s hs
  obtain ⟨i, hi⟩ := List.mem_iff_getElem?.1 hs
  have hl := (List.getElem?_eq_some_iff.1 hi).1
  have := kOK_size (h.2.1 i hl)
  rw [List.getD_eq_getElem?_getD, hi] at this
  simp at this; omega
theorem InsIs.fit {L : List ND} {ro : Int} {key : ByteArray} {c : Int} {K' : Option (List ByteArray)} {vs : List TNode} (h : InsIs L ro key c K') (hs : TreeSays K' (vs.map saysN)) (hk : key.size ≤ 1048576) : FitT vs := by
  cases K' with
  | none => have e : vs = [] := by simpa using (show vs.map saysN = [] from hs)
            rw [e]; intro v hv; cases hv
  | some K =>
    rcases h with ⟨_, _, e⟩ | ⟨_, ks, f, d, g, h⟩
    · cases e
    · rcases h with ⟨_, _, e⟩ | ⟨_, _, _, e⟩ | ⟨_, hn, _, e⟩
      · cases e
      · cases e
      · cases e
        have h60 := g.keys.1
        refine FitT.of hs (by rw [List.length_append, List.length_cons, List.length_take, List.length_drop]; omega) fun s hm => ?_
        rcases List.mem_append.1 hm with hm | hm
        · exact g.keys.sizes s (List.mem_of_mem_take hm)
        · rcases List.mem_cons.1 hm with rfl | hm
          · exact hk
          · exact g.keys.sizes s (List.mem_of_mem_drop hm)
theorem DelIs.fit {L : List ND} {ro : Int} {key : ByteArray} {c : Int} {K' : Option (List ByteArray)} {vs : List TNode} (h : DelIs L ro key c K') (hs : TreeSays K' (vs.map saysN)) (_ : key.size ≤ 1048576) : FitT vs := by
  cases K' with
  | none => have e : vs = [] := by simpa using (show vs.map saysN = [] from hs)
            rw [e]; intro v hv; cases hv
  | some K =>
    rcases h with ⟨_, _, e⟩ | ⟨_, ks, f, d, g, h⟩
    · cases e
    · rcases h with ⟨_, _, e⟩ | ⟨_, _, e⟩
      · cases e
      · cases e
        have h60 := g.keys.1
        refine FitT.of hs (by rw [List.length_append, List.length_take, List.length_drop]; omega) fun s hm => ?_
        rcases List.mem_append.1 hm with hm | hm
        · exact g.keys.sizes s (List.mem_of_mem_take hm)
        · exact g.keys.sizes s (List.mem_of_mem_drop hm)
theorem OwnTr.lens {w : World} {B nc : Nat} {na : Option Addr} {bs : Nat → Nat} {vs : List TNode} (h : OwnTr w B na nc bs vs) (f : FitT vs) : ∀ v ∈ vs, v.kn ≤ 61 ∧ v.im ≤ 5 := by
  intro v hv
  obtain ⟨i, hi⟩ := List.mem_iff_getElem?.1 hv
  have o := h.lists.own i (List.getElem?_eq_some_iff.1 hi).1
  rw [List.getD_eq_getElem?_getD, hi] at o
  have l := o.lens
  have q := f v hv
  simp at l
  omega
set_option maxRecDepth 100000 in
set_option maxHeartbeats 20000000 in
theorem law_FnExactTreeInsert (ro : Int) (a : Option Addr) (n c : Nat) (vs : List TNode) (key : ByteArray) (w : World) (hr : RdN w a n vs) (hm : n ≤ maxLen) (hs : ∀ i, i < n → (vs.getD i zeroN).kn ≤ maxLen ∧ (∀ s ∈ (vs.getD i zeroN).ks, s.size ≤ maxLen) ∧ (vs.getD i zeroN).im ≤ maxLen) (hky : key.size ≤ maxLen) :
    Calls Try.prog 7 #[.agg #[.int .i64 ro, .slice a n c], .string key] w fun e w' => e = .returned (.bool true) ∧ Below w.heap.size w w' := by
  unfold maxLen at hky
  by_cases hk1 : 1048576 < key.size
  · clear hr hs
    go_enter Try.func7, Try.ntmps7
    go_wp2
    go_ret
    exact ⟨rfl, (Below.refl _ _).alloc (Nat.le_refl _) _⟩
  have hf1 : key.size ≤ 1048576 := by omega
  obtain ⟨V, hV⟩ : ∃ V, w.alloc (.cells #[.int .i64 ro, .slice a n c] 46) = V := ⟨_, rfl⟩
  have B0 : Hid (Below w.heap.size w V) := by unfold Hid; rw [← hV]; exact (Below.refl _ _).alloc (Nat.le_refl _) _
  have X0 : Hid (Box V w.heap.size 46 #[.int .i64 ro, .slice a n c]) := by unfold Hid; rw [← hV]; exact Box.new _ _ _
  have C1 := c_szT ro a n c vs 1048576 V (hr.below B0.out) hm hs (by omega) (by omega)
  have HR : Hid (RdN w a n vs) := hr
  clear hr hs
  have x0 : V.cell? ⟨w.heap.size, 0, none⟩ = some (.int .i64 ro) := X0.out.cell 0
  have x1 : V.cell? ⟨w.heap.size, 1, none⟩ = some (.slice a n c) := X0.out.cell 1
  go_enter Try.func7, Try.ntmps7
  go_wp2_with fail
  refine C1.mono ?_
  rintro e w1 ⟨⟨z, rfl, hz, hzn⟩, hb⟩
  have B1 : Hid (Below w.heap.size w w1) := B0.out.trans (hb.mono B0.out.size)
  have X1 : Hid (Box w1 w.heap.size 46 #[.int .i64 ro, .slice a n c]) := X0.out.belowS hb
  clear hb B0 X0 C1 hV x0 x1
  by_cases hneg : z < 0
  · clear hzn
    go_wp2
    go_ret
    exact ⟨rfl, B1.out⟩
  have hn : n ≤ 1048576 := (hzn (by omega)).1
  have HF : Hid (∀ i, i < n → FitN (vs.getD i zeroN)) := (hzn (by omega)).2
  have CT : Hid (∀ W, Below w.heap.size w W → Calls Try.prog 29 #[.agg #[.int .i64 ro, .slice a n c]] W fun e w' => (∃ (x : Nat) (gs : List TNode), e = .returned (.agg #[.int .i64 ro, .slice (some ⟨x, 0, none⟩) n n]) ∧ TrC w' x n vs gs) ∧ Below W.heap.size W w') := fun W hW => c_toTC ro a n c vs W (HR.out.below hW) hn HF.out
  have CO : Hid (∀ W, Below w.heap.size w W → Calls Try.prog 29 #[.agg #[.int .i64 ro, .slice a n c]] W fun e w' => (∃ (x : Nat) (gs : List TNode) (bs : Nat → Nat), e = .returned (.agg #[.int .i64 ro, .slice (some ⟨x, 0, none⟩) n n]) ∧ TrO w' W.heap.size x n bs vs gs ∧ W.heap.size ≤ x ∧ x < w'.heap.size ∧ bs n ≤ w'.heap.size) ∧ Below W.heap.size W w') := fun W hW => c_toTO ro a n c vs W (HR.out.below hW) hn HF.out
  have CS : Hid (∀ W x gs, TrC W x n vs gs → Calls Try.prog 21 #[.agg #[.int .i64 ro, .slice (some ⟨x, 0, none⟩) n n], .string key] W fun e w' => AnsTC W (InsIs (vs.map saysN) ro key) e w' ∧ Below W.heap.size W w') := fun W x gs h => by have := c_specTI ro (some ⟨x, 0, none⟩) n n gs key W h.rd hn h.fit h.nil hf1; rw [h.says] at this; exact this
  have CI : Hid (∀ W x gs, TrC W x n vs gs → Calls Try.prog 15 #[.agg #[.int .i64 ro, .slice (some ⟨x, 0, none⟩) n n], .string key] W fun e w' => AnsTC W (InsIs (vs.map saysN) ro key) e w' ∧ Below W.heap.size W w') := fun W x gs h => by have := c_implTI ro (some ⟨x, 0, none⟩) n n gs key W h.rd hn h.fit h.nil hf1; rw [h.says] at this; exact this
  have CE : Hid (∀ W x gs y us, TrC W x n vs gs → TrC W y n vs us → Calls Try.prog 24 #[.agg #[.int .i64 ro, .slice (some ⟨x, 0, none⟩) n n], .agg #[.int .i64 ro, .slice (some ⟨y, 0, none⟩) n n]] W fun e w' => e = .returned (.bool true) ∧ Below W.heap.size W w') := fun W x gs y us h1 h2 => c_eqT2 ro _ _ n n n gs us W h1.rd h2.rd (h1.same.symm.trans h2.same) hn h1.fit
  clear hzn HR HF
  have x0 : w1.cell? ⟨w.heap.size, 0, none⟩ = some (.int .i64 ro) := X1.out.cell 0
  have x1 : w1.cell? ⟨w.heap.size, 1, none⟩ = some (.slice a n c) := X1.out.cell 1
  go_wp2_with fail
  refine (CT.out w1 B1.out).mono ?_
  rintro e w2 ⟨⟨x2, g2, rfl, r2⟩, hb⟩
  have B2 : Hid (Below w.heap.size w w2) := B1.out.trans (hb.mono B1.out.size)
  have X2 : Hid (Box w2 w.heap.size 46 #[.int .i64 ro, .slice a n c]) := X1.out.belowS hb
  have CS2 := CS.out w2 x2 g2 r2
  clear hb B1 X1 CS r2 x0 x1
  go_wp2_with fail
  refine CS2.mono ?_
  rintro e w3 ⟨⟨aw, cw, ww, bw, kw, Kw, rfl, oW, hIw, hSw⟩, hb⟩
  have B3 : Hid (Below w.heap.size w w3) := B2.out.trans (hb.mono B2.out.size)
  have X3 : Hid (Box w3 w.heap.size 46 #[.int .i64 ro, .slice a n c]) := X2.out.belowS hb
  have OW3 : Hid (OwnTr w3 w2.heap.size aw cw bw ww) := oW
  have HIW : Hid (InsIs (vs.map saysN) ro key kw Kw) := hIw
  have HSW : Hid (TreeSays Kw (ww.map saysN)) := hSw
  have FW : Hid (FitT ww) := hIw.fit hSw hf1
  have UW : Hid ((∀ g, ob aw = some g → g < w3.heap.size) ∧ bw ww.length ≤ w3.heap.size) := ⟨fun g e => (own_blk oW.own g e).2, oW.hi⟩
  have s3 : Hid (w2.heap.size ≤ w3.heap.size) := hb.size
  have z2 : Hid (w.heap.size < w2.heap.size) := X2.out.lt
  obtain ⟨mw, hmw⟩ : ∃ q, ww.length = q := ⟨_, rfl⟩
  obtain ⟨rw', hrw⟩ : ∃ q, ((mw - 1 : Nat) : Int) = q := ⟨_, rfl⟩
  have HMW : Hid (ww.length = mw ∧ ((mw - 1 : Nat) : Int) = rw') := ⟨hmw, hrw⟩
  rw [hmw, hrw]
  obtain ⟨w4, hw4⟩ : ∃ W, w3.alloc (.cells #[.int .i64 rw', .slice aw mw cw] 27) = W := ⟨_, rfl⟩
  have hb4 : Below w3.heap.size w3 w4 := by rw [← hw4]; exact (Below.refl _ _).alloc (Nat.le_refl _) _
  have B4 : Hid (Below w.heap.size w w4) := B3.out.trans (hb4.mono B3.out.size)
  have X4 : Hid (Box w4 w.heap.size 46 #[.int .i64 ro, .slice a n c]) := X3.out.belowS hb4
  have P4 : Hid (Box w4 w3.heap.size 27 #[.int .i64 rw', .slice aw mw cw]) := by unfold Hid; rw [← hw4]; exact Box.new _ _ _
  have OW4 : Hid (OwnTr w4 w2.heap.size aw cw bw ww) := OW3.out.below hb4
  have s4 : Hid (w3.heap.size < w4.heap.size) := P4.out.lt
  clear hb hb4 B2 X2 CS2 oW hIw hSw hmw hrw B3 X3 OW3
  have x0 : w4.cell? ⟨w.heap.size, 0, none⟩ = some (.int .i64 ro) := X4.out.cell 0
  have x1 : w4.cell? ⟨w.heap.size, 1, none⟩ = some (.slice a n c) := X4.out.cell 1
  go_wp2_with fail
  clear hw4
  refine (CO.out w4 B4.out).mono ?_
  rintro e w5 ⟨⟨ax, gx, bs, rfl, rx, hx1, hx2, hE⟩, hb⟩
  have B5 : Hid (Below w.heap.size w w5) := B4.out.trans (hb.mono B4.out.size)
  have X5 : Hid (Box w5 w.heap.size 46 #[.int .i64 ro, .slice a n c]) := X4.out.belowS hb
  have P5 : Hid (Box w5 w3.heap.size 27 #[.int .i64 rw', .slice aw mw cw]) := P4.out.belowS hb
  have OW5 : Hid (OwnTr w5 w2.heap.size aw cw bw ww) := OW4.out.below hb
  have HX : Hid (w4.heap.size ≤ ax ∧ ax < w5.heap.size ∧ bs n ≤ w5.heap.size ∧ w4.heap.size ≤ w5.heap.size) := ⟨hx1, hx2, hE, hb.size⟩
  obtain ⟨w6, hw6⟩ : ∃ W, w5.alloc (.cells #[.int .i64 ro, .slice (some ⟨ax, 0, none⟩) n n] 27) = W := ⟨_, rfl⟩
  have hb6 : Below w5.heap.size w5 w6 := by rw [← hw6]; exact (Below.refl _ _).alloc (Nat.le_refl _) _
  have B6 : Hid (Below w.heap.size w w6) := B5.out.trans (hb6.mono B5.out.size)
  have X6 : Hid (Box w6 w.heap.size 46 #[.int .i64 ro, .slice a n c]) := X5.out.belowS hb6
  have P6 : Hid (Box w6 w3.heap.size 27 #[.int .i64 rw', .slice aw mw cw]) := P5.out.belowS hb6
  have OW6 : Hid (OwnTr w6 w2.heap.size aw cw bw ww) := OW5.out.below hb6
  have Y6 : Hid (Box w6 w5.heap.size 27 #[.int .i64 ro, .slice (some ⟨ax, 0, none⟩) n n]) := by unfold Hid; rw [← hw6]; exact Box.new _ _ _
  have RX6 : Hid (TrO w6 w4.heap.size ax n bs vs gx) := rx.below hb6 hx2 hE
  have s6 : Hid (w5.heap.size < w6.heap.size) := Y6.out.lt
  have CI6 := CI.out w6 ax gx RX6.out.c
  clear hb hb6 B4 X4 P4 OW4 rx x0 x1 hx1 hx2 hE CO B5 X5 P5 OW5
  have y0 : w6.cell? ⟨w5.heap.size, 0, none⟩ = some (.int .i64 ro) := Y6.out.cell 0
  have y1 : w6.cell? ⟨w5.heap.size, 1, none⟩ = some (.slice (some ⟨ax, 0, none⟩) n n) := Y6.out.cell 1
  go_wp2_with fail
  clear hw6
  refine CI6.mono ?_
  rintro e w7 ⟨⟨ag, cg, wg, bg, kg, Kg, rfl, oG, hIg, hSg⟩, hb⟩
  obtain ⟨rfl, rfl⟩ := HIW.out.uniq hIg
  have hsame : wg.map saysN = ww.map saysN := HSW.out.uniq hSg
  have HSG : Hid (wg.map saysN = ww.map saysN) := hsame
  have hlen : wg.length = mw := by have := congrArg List.length hsame; rw [List.length_map, List.length_map, HMW.out.1] at this; exact this
  have HLG : Hid (wg.length = mw) := hlen
  have FG : Hid (FitT wg) := hIg.fit hSg hf1
  rw [hlen, HMW.out.2]
  have B7 : Hid (Below w.heap.size w w7) := B6.out.trans (hb.mono B6.out.size)
  have X7 : Hid (Box w7 w.heap.size 46 #[.int .i64 ro, .slice a n c]) := X6.out.belowS hb
  have P7 : Hid (Box w7 w3.heap.size 27 #[.int .i64 rw', .slice aw mw cw]) := P6.out.belowS hb
  have Y7 : Hid (Box w7 w5.heap.size 27 #[.int .i64 ro, .slice (some ⟨ax, 0, none⟩) n n]) := Y6.out.belowS hb
  have OW7 : Hid (OwnTr w7 w2.heap.size aw cw bw ww) := OW6.out.below hb
  have RX7 : Hid (TrO w7 w4.heap.size ax n bs vs gx) := RX6.out.below hb (by have := HX.out; have := s6.out; omega) (by have := HX.out; have := s6.out; omega)
  have OG7 : Hid (OwnTr w7 w6.heap.size ag cg bg wg) := oG
  have UG : Hid ((∀ g, ob ag = some g → g < w7.heap.size) ∧ bg wg.length ≤ w7.heap.size) := ⟨fun g e => (own_blk oG.own g e).2, oG.hi⟩
  have s7 : Hid (w6.heap.size ≤ w7.heap.size) := hb.size
  obtain ⟨w8, hw8⟩ : ∃ W, w7.alloc (.cells #[.int .i64 rw', .slice ag mw cg] 27) = W := ⟨_, rfl⟩
  have hb8 : Below w7.heap.size w7 w8 := by rw [← hw8]; exact (Below.refl _ _).alloc (Nat.le_refl _) _
  have B8 : Hid (Below w.heap.size w w8) := B7.out.trans (hb8.mono B7.out.size)
  have X8 : Hid (Box w8 w.heap.size 46 #[.int .i64 ro, .slice a n c]) := X7.out.belowS hb8
  have P8 : Hid (Box w8 w3.heap.size 27 #[.int .i64 rw', .slice aw mw cw]) := P7.out.belowS hb8
  have Y8 : Hid (Box w8 w5.heap.size 27 #[.int .i64 ro, .slice (some ⟨ax, 0, none⟩) n n]) := Y7.out.belowS hb8
  have G8 : Hid (Box w8 w7.heap.size 27 #[.int .i64 rw', .slice ag mw cg]) := by unfold Hid; rw [← hw8]; exact Box.new _ _ _
  have OW8 : Hid (OwnTr w8 w2.heap.size aw cw bw ww) := OW7.out.below hb8
  have OG8 : Hid (OwnTr w8 w6.heap.size ag cg bg wg) := OG7.out.below hb8
  have RX8 : Hid (TrO w8 w4.heap.size ax n bs vs gx) := RX7.out.below hb8 (by have := HX.out; have := s6.out; have := s7.out; omega) (by have := HX.out; have := s6.out; have := s7.out; omega)
  have s8 : Hid (w7.heap.size < w8.heap.size) := G8.out.lt
  have CQ : Hid (∀ W, OwnTr W w6.heap.size ag cg bg wg → OwnTr W w2.heap.size aw cw bw ww → Calls Try.prog 24 #[.agg #[.int .i64 rw', .slice ag mw cg], .agg #[.int .i64 rw', .slice aw mw cw]] W fun e w' => e = .returned (.bool true) ∧ Below W.heap.size W w') := fun W h1 h2 => by
    have := c_eqTr h1 h2 FG.out HSG.out
    rw [HLG.out, HMW.out.1, HMW.out.2] at this
    exact this
  have nk : (kg != kg) = false := by simp
  clear hb hb8 B6 X6 P6 Y6 OW6 RX6 CI6 oG hIg hSg hsame hlen y0 y1 B7 X7 P7 Y7 OW7 OG7 RX7
  have p0 : w8.cell? ⟨w3.heap.size, 0, none⟩ = some (.int .i64 rw') := P8.out.cell 0
  have p1 : w8.cell? ⟨w3.heap.size, 1, none⟩ = some (.slice aw mw cw) := P8.out.cell 1
  have q0 : w8.cell? ⟨w7.heap.size, 0, none⟩ = some (.int .i64 rw') := G8.out.cell 0
  have q1 : w8.cell? ⟨w7.heap.size, 1, none⟩ = some (.slice ag mw cg) := G8.out.cell 1
  go_wp2_with fail
  clear hw8
  refine (CQ.out w8 OG8.out OW8.out).mono ?_
  rintro e w9 ⟨rfl, hb⟩
  have B9 : Hid (Below w.heap.size w w9) := B8.out.trans (hb.mono B8.out.size)
  have X9 : Hid (Box w9 w.heap.size 46 #[.int .i64 ro, .slice a n c]) := X8.out.belowS hb
  have P9 : Hid (Box w9 w3.heap.size 27 #[.int .i64 rw', .slice aw mw cw]) := P8.out.belowS hb
  have Y9 : Hid (Box w9 w5.heap.size 27 #[.int .i64 ro, .slice (some ⟨ax, 0, none⟩) n n]) := Y8.out.belowS hb
  have G9 : Hid (Box w9 w7.heap.size 27 #[.int .i64 rw', .slice ag mw cg]) := G8.out.belowS hb
  have OW9 : Hid (OwnTr w9 w2.heap.size aw cw bw ww) := OW8.out.below hb
  have OG9 : Hid (OwnTr w9 w6.heap.size ag cg bg wg) := OG8.out.below hb
  have RX9 : Hid (TrO w9 w4.heap.size ax n bs vs gx) := RX8.out.below hb (by have := HX.out; have := s6.out; have := s7.out; have := s8.out; omega) (by have := HX.out; have := s6.out; have := s7.out; have := s8.out; omega)
  have s9 : Hid (w8.heap.size ≤ w9.heap.size) := hb.size
  clear hb B8 X8 P8 Y8 G8 OW8 OG8 RX8 p0 p1 q0 q1
  have x0 : w9.cell? ⟨w.heap.size, 0, none⟩ = some (.int .i64 ro) := X9.out.cell 0
  have x1 : w9.cell? ⟨w.heap.size, 1, none⟩ = some (.slice a n c) := X9.out.cell 1
  have y0 : w9.cell? ⟨w5.heap.size, 0, none⟩ = some (.int .i64 ro) := Y9.out.cell 0
  have y1 : w9.cell? ⟨w5.heap.size, 1, none⟩ = some (.slice (some ⟨ax, 0, none⟩) n n) := Y9.out.cell 1
  go_wp2_with fail
  go_region_held3 (fun x => x.cell? ⟨w.heap.size, 0, none⟩ = some (.int .i64 ro) ∧ x.cell? ⟨w.heap.size, 1, none⟩ = some (.slice a n c) ∧ x.cell? ⟨w5.heap.size, 0, none⟩ = some (.int .i64 ro) ∧ x.cell? ⟨w5.heap.size, 1, none⟩ = some (.slice (some ⟨ax, 0, none⟩) n n))
    (first | exact ⟨far6 hb8 (far6 hb7 x0), far6 hb8 (far6 hb7 x1), far6 hb8 (far6 hb7 y0), far6 hb8 (far6 hb7 y1)⟩ | exact ⟨far6 hb7 x0, far6 hb7 x1, far6 hb7 y0, far6 hb7 y1⟩ | go_keep)
    (first | (go_at_call 29; refine (CT.out _ (below_drewN B9.out _)).mono ?_; rintro e wa ⟨⟨a7, g7, rfl, r7⟩, hb7⟩)
           | (go_at_call 24; refine (CE.out _ _ _ _ _ (RX9.out.c.below ((Below.refl _ _).drew.trans hb7)) r7).mono ?_; rintro e w10 ⟨rfl, hb8⟩))
  have hb : Below w9.heap.size w9 w10 := ((Below.refl w9.heap.size w9).drew.trans hb7).trans (hb8.mono hb7.size)
  have B10 : Hid (Below w.heap.size w w10) := B9.out.trans (hb.mono B9.out.size)
  have X10 : Hid (Box w10 w.heap.size 46 #[.int .i64 ro, .slice a n c]) := X9.out.belowS hb
  have P10 : Hid (Box w10 w3.heap.size 27 #[.int .i64 rw', .slice aw mw cw]) := P9.out.belowS hb
  have Y10 : Hid (Box w10 w5.heap.size 27 #[.int .i64 ro, .slice (some ⟨ax, 0, none⟩) n n]) := Y9.out.belowS hb
  have G10 : Hid (Box w10 w7.heap.size 27 #[.int .i64 rw', .slice ag mw cg]) := G9.out.belowS hb
  have OW10 : Hid (OwnTr w10 w2.heap.size aw cw bw ww) := OW9.out.below hb
  have OG10 : Hid (OwnTr w10 w6.heap.size ag cg bg wg) := OG9.out.below hb
  have RX10 : Hid (TrO w10 w4.heap.size ax n bs vs gx) := RX9.out.below hb (by have := HX.out; have := s6.out; have := s7.out; have := s8.out; have := s9.out; omega) (by have := HX.out; have := s6.out; have := s7.out; have := s8.out; have := s9.out; omega)
  have s10 : Hid (w9.heap.size ≤ w10.heap.size) := hb.size
  have CM := c_markTW ro w4.heap.size ax n bs gx w10 RX10.out.mks hn RX10.out.c.fit (by have := HX.out; have := s6.out; have := s7.out; have := s8.out; have := s9.out; have := s10.out; omega) (by have := HX.out; have := s6.out; have := s7.out; have := s8.out; have := s9.out; have := s10.out; omega)
  clear hb hb7 hb8 r7 B9 X9 P9 Y9 G9 OW9 OG9 RX9 x0 x1 y0 y1 CE RX10
  have y0 : w10.cell? ⟨w5.heap.size, 0, none⟩ = some (.int .i64 ro) := Y10.out.cell 0
  have y1 : w10.cell? ⟨w5.heap.size, 1, none⟩ = some (.slice (some ⟨ax, 0, none⟩) n n) := Y10.out.cell 1
  go_wp2_with fail
  refine CM.mono ?_
  rintro e w11 ⟨⟨km, rfl, hkm⟩, hI⟩
  have z3 : Hid (w.heap.size < ax ∧ w3.heap.size < ax) := by unfold Hid; have := HX.out; have := z2.out; have := s3.out; have := s4.out; omega
  have L10 : Hid (w6.heap.size ≤ w7.heap.size ∧ w7.heap.size < w10.heap.size) := by unfold Hid; have := s7.out; have := s8.out; have := s9.out; have := s10.out; omega
  have B11 : Hid (Below w.heap.size w w11) := B10.out.trans (hI.below (by have := z3.out; omega) B10.out.size)
  have X11 : Hid (Box w11 w.heap.size 46 #[.int .i64 ro, .slice a n c]) := X10.out.innO hI (.inl z3.out.1)
  have P11 : Hid (Box w11 w3.heap.size 27 #[.int .i64 rw', .slice aw mw cw]) := P10.out.innO hI (.inl z3.out.2)
  have G11 : Hid (Box w11 w7.heap.size 27 #[.int .i64 rw', .slice ag mw cg]) := G10.out.innO hI (.inr (by have := HX.out; have := s6.out; have := s7.out; omega))
  have OW11 : Hid (OwnTr w11 w2.heap.size aw cw bw ww) := OW10.out.innU hI UW.out.1 UW.out.2 (by have := z3.out; omega)
  have OG11 : Hid (OwnTr w11 w6.heap.size ag cg bg wg) := OG10.out.inn hI fun g h1 _ => .inr (by have := HX.out; have := s6.out; omega)
  have s11 : Hid (w10.heap.size ≤ w11.heap.size) := hI.size
  have nkm : ¬ ((km : Nat) : Int) < 0 := by omega
  clear hI B10 X10 P10 Y10 G10 OW10 OG10 CM y0 y1
  have p0 : w11.cell? ⟨w3.heap.size, 0, none⟩ = some (.int .i64 rw') := P11.out.cell 0
  have p1 : w11.cell? ⟨w3.heap.size, 1, none⟩ = some (.slice aw mw cw) := P11.out.cell 1
  have q0 : w11.cell? ⟨w7.heap.size, 0, none⟩ = some (.int .i64 rw') := G11.out.cell 0
  have q1 : w11.cell? ⟨w7.heap.size, 1, none⟩ = some (.slice ag mw cg) := G11.out.cell 1
  go_wp2_with fail
  refine (CQ.out w11 OG11.out OW11.out).mono ?_
  rintro e w12 ⟨rfl, hb⟩
  have B12 : Hid (Below w.heap.size w w12) := B11.out.trans (hb.mono B11.out.size)
  have X12 : Hid (Box w12 w.heap.size 46 #[.int .i64 ro, .slice a n c]) := X11.out.belowS hb
  have P12 : Hid (Box w12 w3.heap.size 27 #[.int .i64 rw', .slice aw mw cw]) := P11.out.belowS hb
  have G12 : Hid (Box w12 w7.heap.size 27 #[.int .i64 rw', .slice ag mw cg]) := G11.out.belowS hb
  have OW12 : Hid (OwnTr w12 w2.heap.size aw cw bw ww) := OW11.out.below hb
  have OG12 : Hid (OwnTr w12 w6.heap.size ag cg bg wg) := OG11.out.below hb
  have s12 : Hid (w11.heap.size ≤ w12.heap.size) := hb.size
  have CMk := c_markTX rw' w6.heap.size cg ag bg wg w12 OG12.out FG.out w7.heap.size UG.out.1 UG.out.2
  have CH : Hid (∀ W, RdN W ag mw (mkAll 1 wg) → Calls Try.prog 26 #[.agg #[.int .i64 rw', .slice ag mw cg], .int .i64 1] W fun e w' => e = .returned (.int .i64 (endAll 1 wg : Nat)) ∧ Below W.heap.size W w') := by
    have few := OG12.out.few
    have ln := OG12.out.lens FG.out
    have h := fun W hW => c_heldTX rw' cg ag wg W hW few ln
    rw [HLG.out] at h
    exact h
  rw [HLG.out] at CMk
  obtain ⟨qe, hqe⟩ : ∃ q : Nat, endAll 1 wg = q := ⟨_, rfl⟩
  rw [hqe] at CMk CH
  have nq : ((qe : Int) != (qe : Int)) = false := by simp
  have nq0 : ¬ ((qe : Nat) : Int) < 0 := by omega
  clear hb B11 X11 P11 G11 OW11 OG11 p0 p1 q0 q1 hqe
  have q0 : w12.cell? ⟨w7.heap.size, 0, none⟩ = some (.int .i64 rw') := G12.out.cell 0
  have q1 : w12.cell? ⟨w7.heap.size, 1, none⟩ = some (.slice ag mw cg) := G12.out.cell 1
  go_wp2_with fail
  refine CMk.mono ?_
  rintro e w13 ⟨rfl, hmk, hb⟩
  have B13 : Hid (Below w.heap.size w w13) := B12.out.trans (hb.below (by have := z3.out; have := HX.out; have := s6.out; omega) B12.out.size)
  have X13 : Hid (Box w13 w.heap.size 46 #[.int .i64 ro, .slice a n c]) := X12.out.innO hb (.inl (by have := z3.out; have := HX.out; have := s6.out; omega))
  have P13 : Hid (Box w13 w3.heap.size 27 #[.int .i64 rw', .slice aw mw cw]) := P12.out.innO hb (.inl (by have := z3.out; have := HX.out; have := s6.out; omega))
  have G13 : Hid (Box w13 w7.heap.size 27 #[.int .i64 rw', .slice ag mw cg]) := G12.out.innO hb (.inr (Nat.le_refl _))
  have OW13 : Hid (OwnTr w13 w2.heap.size aw cw bw ww) := OW12.out.innU hb UW.out.1 UW.out.2 (by have := z3.out; have := HX.out; have := s6.out; omega)
  have M13 : Hid (OwnTr w13 w6.heap.size ag cg bg (mkAll 1 wg)) := hmk
  have s13 : Hid (w12.heap.size ≤ w13.heap.size) := hb.size
  have RM : Hid (∀ W, Below w13.heap.size w13 W → RdN W ag mw (mkAll 1 wg)) := fun W hW => by have := (M13.out.below hW).rd; rw [mkAll_len, HLG.out] at this; exact this
  clear hb hmk B12 X12 P12 G12 OW12 OG12 CMk q0 q1
  have q0 : w13.cell? ⟨w7.heap.size, 0, none⟩ = some (.int .i64 rw') := G13.out.cell 0
  have q1 : w13.cell? ⟨w7.heap.size, 1, none⟩ = some (.slice ag mw cg) := G13.out.cell 1
  go_wp2_with fail
  refine (CH.out w13 (RM.out w13 (Below.refl _ _))).mono ?_
  rintro e w14 ⟨rfl, hb⟩
  have B14 : Hid (Below w.heap.size w w14) := B13.out.trans (hb.mono B13.out.size)
  have X14 : Hid (Box w14 w.heap.size 46 #[.int .i64 ro, .slice a n c]) := X13.out.belowS hb
  have P14 : Hid (Box w14 w3.heap.size 27 #[.int .i64 rw', .slice aw mw cw]) := P13.out.belowS hb
  have G14 : Hid (Box w14 w7.heap.size 27 #[.int .i64 rw', .slice ag mw cg]) := G13.out.belowS hb
  have OW14 : Hid (OwnTr w14 w2.heap.size aw cw bw ww) := OW13.out.below hb
  have D14 : Hid (Below w13.heap.size w13 w14) := hb
  clear hb B13 X13 P13 G13 OW13 q0 q1
  have x0 : w14.cell? ⟨w.heap.size, 0, none⟩ = some (.int .i64 ro) := X14.out.cell 0
  have x1 : w14.cell? ⟨w.heap.size, 1, none⟩ = some (.slice a n c) := X14.out.cell 1
  go_wp2_with fail
  refine (CT.out w14 B14.out).mono ?_
  rintro e w15 ⟨⟨x15, g15, rfl, r15⟩, hb⟩
  have B15 : Hid (Below w.heap.size w w15) := B14.out.trans (hb.mono B14.out.size)
  have P15 : Hid (Box w15 w3.heap.size 27 #[.int .i64 rw', .slice aw mw cw]) := P14.out.belowS hb
  have G15 : Hid (Box w15 w7.heap.size 27 #[.int .i64 rw', .slice ag mw cg]) := G14.out.belowS hb
  have OW15 : Hid (OwnTr w15 w2.heap.size aw cw bw ww) := OW14.out.below hb
  have D15 : Hid (Below w13.heap.size w13 w15) := D14.out.trans (hb.mono D14.out.size)
  have C15 := CI.out w15 x15 g15 r15
  clear hb B14 X14 P14 G14 OW14 CT CI r15 x0 x1 D14
  go_wp2_with fail
  refine C15.mono ?_
  rintro e w16 ⟨⟨ah, ch, wh, bh, kh, Kh, rfl, oH, hIh, hSh⟩, hb⟩
  obtain ⟨rfl, rfl⟩ := HIW.out.uniq hIh
  have hsame : wh.map saysN = ww.map saysN := HSW.out.uniq hSh
  have hlen : wh.length = mw := by have := congrArg List.length hsame; rw [List.length_map, List.length_map, HMW.out.1] at this; exact this
  have FH := hIh.fit hSh hf1
  rw [hlen, HMW.out.2]
  have B16 : Hid (Below w.heap.size w w16) := B15.out.trans (hb.mono B15.out.size)
  have P16 : Hid (Box w16 w3.heap.size 27 #[.int .i64 rw', .slice aw mw cw]) := P15.out.belowS hb
  have G16 : Hid (Box w16 w7.heap.size 27 #[.int .i64 rw', .slice ag mw cg]) := G15.out.belowS hb
  have OW16 : Hid (OwnTr w16 w2.heap.size aw cw bw ww) := OW15.out.below hb
  have D16 : Hid (Below w13.heap.size w13 w16) := D15.out.trans (hb.mono D15.out.size)
  obtain ⟨w17, hw17⟩ : ∃ W, w16.alloc (.cells #[.int .i64 rw', .slice ah mw ch] 27) = W := ⟨_, rfl⟩
  have hb17 : Below w16.heap.size w16 w17 := by rw [← hw17]; exact (Below.refl _ _).alloc (Nat.le_refl _) _
  have CQH : Calls Try.prog 24 #[.agg #[.int .i64 rw', .slice ah mw ch], .agg #[.int .i64 rw', .slice aw mw cw]] w17 fun e w' => e = .returned (.bool true) ∧ Below w17.heap.size w17 w' := by
    have := c_eqTr (oH.below hb17) (OW16.out.below hb17) FH hsame
    rw [hlen, HMW.out.1, HMW.out.2] at this
    exact this
  have H17 : Hid (Box w17 w16.heap.size 27 #[.int .i64 rw', .slice ah mw ch]) := by unfold Hid; rw [← hw17]; exact Box.new _ _ _
  have B17 : Hid (Below w.heap.size w w17) := B16.out.trans (hb17.mono B16.out.size)
  have P17 : Hid (Box w17 w3.heap.size 27 #[.int .i64 rw', .slice aw mw cw]) := P16.out.belowS hb17
  have G17 : Hid (Box w17 w7.heap.size 27 #[.int .i64 rw', .slice ag mw cg]) := G16.out.belowS hb17
  have D17 : Hid (Below w13.heap.size w13 w17) := D16.out.trans (hb17.mono D16.out.size)
  clear hb hb17 B15 P15 G15 OW15 C15 oH hIh hSh hsame hlen FH D15 D16 B16 P16 G16 OW16
  have p0 : w17.cell? ⟨w3.heap.size, 0, none⟩ = some (.int .i64 rw') := P17.out.cell 0
  have p1 : w17.cell? ⟨w3.heap.size, 1, none⟩ = some (.slice aw mw cw) := P17.out.cell 1
  have h0 : w17.cell? ⟨w16.heap.size, 0, none⟩ = some (.int .i64 rw') := H17.out.cell 0
  have h1 : w17.cell? ⟨w16.heap.size, 1, none⟩ = some (.slice ah mw ch) := H17.out.cell 1
  go_wp2_with fail
  clear hw17
  refine CQH.mono ?_
  rintro e w18 ⟨rfl, hb⟩
  have B18 : Hid (Below w.heap.size w w18) := B17.out.trans (hb.mono B17.out.size)
  have G18 : Hid (Box w18 w7.heap.size 27 #[.int .i64 rw', .slice ag mw cg]) := G17.out.belowS hb
  have D18 : Hid (Below w13.heap.size w13 w18) := D17.out.trans (hb.mono D17.out.size)
  clear hb B17 P17 G17 D17 CQH p0 p1 h0 h1 H17
  have q0 : w18.cell? ⟨w7.heap.size, 0, none⟩ = some (.int .i64 rw') := G18.out.cell 0
  have q1 : w18.cell? ⟨w7.heap.size, 1, none⟩ = some (.slice ag mw cg) := G18.out.cell 1
  go_wp2_with fail
  refine (CH.out w18 (RM.out w18 D18.out)).mono ?_
  rintro e w19 ⟨rfl, hb⟩
  have B19 : Hid (Below w.heap.size w w19) := B18.out.trans (hb.mono B18.out.size)
  clear hb B18 G18 D18 CH RM q0 q1
  go_wp2
  go_ret
  exact ⟨rfl, B19.out⟩

end Go.Proofs.Ythnggpjgajkaeaa
