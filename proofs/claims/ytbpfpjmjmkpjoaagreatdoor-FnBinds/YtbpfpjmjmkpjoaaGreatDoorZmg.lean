/-
  The levels of the program's parser: negations, primaries; all levels together.
-/
import Derived.Test.YtbpfpjmjmkpjoaaGreatDoorZmi
namespace Go.Proofs.YtbpfpjmjmkpjoaaGreatDoor
open Go Go.RowKit
attribute [local go_sem ↓] Go.wp_at_zero Go.wp_at_succ

set_option linter.unusedVariables false
set_option linter.unusedSimpArgs false
set_option maxRecDepth 100000 in
set_option maxHeartbeats 8000000 in
theorem c_tv1 (g : Nat) (w : World) (T T1 : List ByteArray) (hT1 : T.drop 1 = T1) (n o : Nat) (v : VT) (h : StI g w T n o) (hT : TbG g w) (hv : valT (nxt T) = some v) :
    Calls Tryz.prog 146 #[.pointer (some ⟨g, 0, none⟩)] w fun e w' => e = .returned (.tuple #[.agg #[.int .i64 v.k, .int .i64 v.n, .string v.t], .bool true]) ∧ StI g w' T1 n o ∧ Below g w w' := by
  have hl := valT_pos hv
  obtain ⟨V0, hV0⟩ : ∃ Q, w.alloc (.cells #[.int .i64 0, .int .i64 0, .string ⟨#[]⟩] 31) = Q := ⟨_, rfl⟩
  have b0 : Below w.heap.size w V0 := by rw [← hV0]; exact (Below.refl _ _).alloc (Nat.le_refl _) _
  have X0 : Hid (Box V0 w.heap.size 31 #[.int .i64 0, .int .i64 0, .string ⟨#[]⟩]) := by unfold Hid; rw [← hV0]; exact Box.new _ _ _
  have lg := h.lt
  have h0 : StI g V0 T n o := h.below b0
  have hT0 := hT.below (b0.mono (show g ≤ w.heap.size by omega))
  have C := c_next g V0 T n o h0
  have C2 := c_rv (nxt T) V0 (nxt_tok h.toks) hT0.errs hT0.tabs.p
  have HS : Hid (StI g V0 T n o) := h0
  have B0 : Hid (Below w.heap.size w V0) := b0
  clear b0 h h0 hT hT0
  go_enter Tryz.func146, Tryz.ntmps146
  go_wp2_with fail
  refine C.mono ?_
  rintro e w1 ⟨rfl, rfl⟩
  clear C
  go_wp2_with fail
  refine C2.mono ?_
  rintro e w2 ⟨⟨k, m, s, rfl, hvk⟩, hb2⟩
  obtain rfl : v = ⟨k, m, s⟩ := hvk v hv
  rw [hv]
  have hs2 : StI g w2 T n o := HS.out.below hb2
  have X2 : Hid (Box w2 w.heap.size 31 #[.int .i64 0, .int .i64 0, .string ⟨#[]⟩]) := X0.out.belowS hb2
  have B2 : Hid (Below w.heap.size w w2) := B0.out.trans (hb2.mono B0.out.size)
  clear C2 hb2 HS X0 B0 hvk hv hV0
  have g2 : g < w2.heap.size := hs2.lt
  obtain ⟨a, cap, h1, h2, hb, ht⟩ := hs2
  obtain ⟨b, off, rfl, hg, hcell⟩ := nxt_cell ht (by omega)
  obtain ⟨N, hN⟩ : ∃ N, T.length = N := ⟨_, rfl⟩
  rw [hN] at hb h1 hl
  obtain ⟨V3, hV3⟩ : ∃ Q, w2.alloc (.cells #[.int .i64 k, .int .i64 m, .string s] 31) = Q := ⟨_, rfl⟩
  have b3 : Below w2.heap.size w2 V3 := by rw [← hV3]; exact (Below.refl _ _).alloc (Nat.le_refl _) _
  have hb3 : Box V3 g 106 #[.slice (some ⟨b, off, none⟩) N cap, .int .i64 (n : Int), .int .i64 (o : Int)] := hb.belowS b3
  have ht3 : TkR g V3 (some ⟨b, off, none⟩) T := ht.below (b3.mono (show g ≤ w2.heap.size by omega))
  have X3 : Hid (Box V3 w.heap.size 31 #[.int .i64 0, .int .i64 0, .string ⟨#[]⟩]) := X2.out.belowS b3
  have Y3 : Hid (Box V3 w2.heap.size 31 #[.int .i64 k, .int .i64 m, .string s]) := by unfold Hid; rw [← hV3]; exact Box.new _ _ _
  have B3 : Hid (Below w.heap.size w V3) := B2.out.trans (b3.mono B2.out.size)
  obtain ⟨x0, x1, x2⟩ := box3 hb3
  have t0 := hb3.thaw 0
  have R : Hid (StI g (V3.setCell ⟨g, 0, none⟩ (.slice (if cap = 1 then some ⟨b, off, none⟩ else some ⟨b, off + 1, none⟩) (N - 1) (cap - 1))) T1 n o) := by unfold Hid; rw [← hT1]; exact take_k hb3 ht3 hN 1 hl h1 h2
  have e1 : (0 : Int) ≤ 1 := by omega
  have e2 : (1 : Int) ≤ (N : Int) := by omega
  have e3 : (N : Int) ≤ (cap : Int) := by omega
  have l1 := X2.out.lt
  have l2 := X3.out.lt
  have l3 := Y3.out.lt
  have ng : g ≠ w.heap.size := by omega
  have ng2 : g ≠ w2.heap.size := by omega
  obtain ⟨y0, y1, y2⟩ := box3 Y3.out
  obtain ⟨p0, p1, p2⟩ := box3 X3.out
  have q0 := X3.out.thaw 0
  have q1 := X3.out.thaw 1
  have q2 := X3.out.thaw 2
  clear hb hb3 ht ht3 b3 hN hcell X2 B2 hT1
  by_cases hc1 : cap = 1
  · have R2 : Hid (StI g (V3.setCell ⟨g, 0, none⟩ (.slice (some ⟨b, off, none⟩) 0 0)) T1 n o) := by
      have := R.out; rw [if_pos hc1, show N - 1 = 0 by omega, show cap - 1 = 0 by omega] at this; exact this
    subst hc1
    clear R
    obtain rfl : N = 1 := by omega
    go_wp2
    refine retV2 (v := .bool true) rfl rfl rfl rfl (put3_box (Box.setOther X3.out _ _ (by simpa using Ne.symm ng)) _ _ _) ⟨rfl, R2.out.up (put3_below (Below.refl (g + 1) _) (show g + 1 ≤ w.heap.size by omega) _ _ _), ?_⟩
    exact put3_below ((B3.out.mono (show g ≤ w.heap.size by omega)).setCell (p := ⟨g, 0, none⟩) (Nat.le_refl g) _) (show g ≤ w.heap.size by omega) _ _ _
  · have R2 : Hid (StI g (V3.setCell ⟨g, 0, none⟩ (.slice (some ⟨b, off + 1, none⟩) (N - 1) (cap - 1))) T1 n o) := by
      have := R.out; rw [if_neg hc1] at this; exact this
    clear R
    go_wp2
    refine retV2 (v := .bool true) rfl rfl rfl rfl (put3_box (Box.setOther X3.out _ _ (by simpa using Ne.symm ng)) _ _ _) ⟨rfl, R2.out.up (put3_below (Below.refl (g + 1) _) (show g + 1 ≤ w.heap.size by omega) _ _ _), ?_⟩
    exact put3_below ((B3.out.mono (show g ≤ w.heap.size by omega)).setCell (p := ⟨g, 0, none⟩) (Nat.le_refl g) _) (show g ≤ w.heap.size by omega) _ _ _

end Go.Proofs.YtbpfpjmjmkpjoaaGreatDoor
namespace Go.Proofs.YtbpfpjmjmkpjoaaGreatDoor
open Go Go.RowKit
attribute [local go_sem ↓] Go.wp_at_zero Go.wp_at_succ

set_option linter.unusedVariables false
set_option linter.unusedSimpArgs false
set_option maxRecDepth 100000 in
set_option maxHeartbeats 8000000 in
theorem c_tv2 (g : Nat) (w : World) (T : List ByteArray) (n o : Nat) (h : StI g w T n o) (hT : TbG g w) (hv : valT (nxt T) = none) (hm : nxt T ≠ wMin) :
    Calls Tryz.prog 146 #[.pointer (some ⟨g, 0, none⟩)] w fun e w' => e = .returned (.tuple #[.agg #[.int .i64 0, .int .i64 0, .string ⟨#[]⟩], .bool false]) ∧ StI g w' T n o ∧ Below g w w' := by
  obtain ⟨V0, hV0⟩ : ∃ Q, w.alloc (.cells #[.int .i64 0, .int .i64 0, .string ⟨#[]⟩] 31) = Q := ⟨_, rfl⟩
  have b0 : Below w.heap.size w V0 := by rw [← hV0]; exact (Below.refl _ _).alloc (Nat.le_refl _) _
  have X0 : Hid (Box V0 w.heap.size 31 #[.int .i64 0, .int .i64 0, .string ⟨#[]⟩]) := by unfold Hid; rw [← hV0]; exact Box.new _ _ _
  have lg := h.lt
  have h0 : StI g V0 T n o := h.below b0
  have hT0 := hT.below (b0.mono (show g ≤ w.heap.size by omega))
  have HTK : Hid (∀ t ∈ T, Tok t) := h.toks
  have C := c_next g V0 T n o h0
  have C2 := c_rv (nxt T) V0 (nxt_tok h.toks) hT0.errs hT0.tabs.p
  have HS : Hid (StI g V0 T n o) := h0
  have HTT : Hid (TbG g V0) := hT0
  have B0 : Hid (Below w.heap.size w V0) := b0
  clear b0 h h0 hT hT0
  go_enter Tryz.func146, Tryz.ntmps146
  go_wp2_with fail
  refine C.mono ?_
  rintro e w1 ⟨rfl, rfl⟩
  clear C
  go_wp2_with fail
  refine C2.mono ?_
  rintro e w2 ⟨⟨k, m, s, rfl, hvk⟩, hb2⟩
  rw [hv, show (none : Option VT).isSome = false from rfl]
  have hs2 : StI g w2 T n o := HS.out.below hb2
  have X2 : Hid (Box w2 w.heap.size 31 #[.int .i64 0, .int .i64 0, .string ⟨#[]⟩]) := X0.out.belowS hb2
  have B2 : Hid (Below w.heap.size w w2) := B0.out.trans (hb2.mono B0.out.size)
  have HTT2 : Hid (TbG g w2) := HTT.out.below (hb2.mono (by have := HS.out.lt; omega))
  clear C2 hb2 HS X0 B0 hvk hv hV0 HTT
  obtain ⟨V3, hV3⟩ : ∃ Q, w2.alloc (.cells #[.int .i64 k, .int .i64 m, .string s] 31) = Q := ⟨_, rfl⟩
  have b3 : Below w2.heap.size w2 V3 := by rw [← hV3]; exact (Below.refl _ _).alloc (Nat.le_refl _) _
  have hs3 : StI g V3 T n o := hs2.below b3
  have l9 := hs2.lt
  have HTT3 : Hid (TbG g V3) := HTT2.out.below (b3.mono (by omega))
  have X3 : Hid (Box V3 w.heap.size 31 #[.int .i64 0, .int .i64 0, .string ⟨#[]⟩]) := X2.out.belowS b3
  have B3 : Hid (Below w.heap.size w V3) := B2.out.trans (b3.mono B2.out.size)
  have HS3 : Hid (StI g V3 T n o) := hs3
  have C3 := c_next g V3 T n o hs3
  obtain ⟨p0, p1, p2⟩ := box3 X3.out
  have q0 := X3.out.thaw 0
  have q1 := X3.out.thaw 1
  have q2 := X3.out.thaw 2
  have l2 := X3.out.lt
  clear hs2 b3 X2 B2 hs3 HTT2
  obtain ⟨y, hy⟩ : ∃ y, nxt T = y := ⟨_, rfl⟩
  have q : (y.toList == [45]) = false := by
    rw [← hy, toList_data]
    simp only [beq_eq_false_iff_ne, ne_eq]
    exact fun e => hm (ba_eq0 (Array.toList_inj.1 e))
  rw [hy] at C3
  clear hy hm
  go_wp2_with fail
  refine C3.mono ?_
  rintro e w4 ⟨rfl, rfl⟩
  clear C3 hV3
  go_wp2
  with_reducible refine retV2 (v := .bool false) rfl rfl rfl rfl (put3_box X3.out _ _ _) ⟨rfl, HS3.out.up (put3_below (Below.refl (g + 1) _) (show g + 1 ≤ w.heap.size by omega) _ _ _), ?_⟩
  exact put3_below (B3.out.mono (show g ≤ w.heap.size by omega)) (show g ≤ w.heap.size by omega) _ _ _
set_option maxRecDepth 100000 in
set_option maxHeartbeats 8000000 in
theorem c_tv3 (g : Nat) (w : World) (T : List ByteArray) (n o : Nat) (h : StI g w T n o) (hT : TbG g w) (hm : nxt T = wMin) (hl : T.length = 1) :
    Calls Tryz.prog 146 #[.pointer (some ⟨g, 0, none⟩)] w fun e w' => e = .returned (.tuple #[.agg #[.int .i64 0, .int .i64 0, .string ⟨#[]⟩], .bool false]) ∧ StI g w' T n o ∧ Below g w w' := by
  have hv : valT (nxt T) = none := by rw [hm]; decide
  have HM : Hid (nxt T = wMin) := hm
  clear hm
  obtain ⟨V0, hV0⟩ : ∃ Q, w.alloc (.cells #[.int .i64 0, .int .i64 0, .string ⟨#[]⟩] 31) = Q := ⟨_, rfl⟩
  have b0 : Below w.heap.size w V0 := by rw [← hV0]; exact (Below.refl _ _).alloc (Nat.le_refl _) _
  have X0 : Hid (Box V0 w.heap.size 31 #[.int .i64 0, .int .i64 0, .string ⟨#[]⟩]) := by unfold Hid; rw [← hV0]; exact Box.new _ _ _
  have lg := h.lt
  have h0 : StI g V0 T n o := h.below b0
  have hT0 := hT.below (b0.mono (show g ≤ w.heap.size by omega))
  have HTK : Hid (∀ t ∈ T, Tok t) := h.toks
  have C := c_next g V0 T n o h0
  have C2 := c_rv (nxt T) V0 (nxt_tok h.toks) hT0.errs hT0.tabs.p
  have HS : Hid (StI g V0 T n o) := h0
  have HTT : Hid (TbG g V0) := hT0
  have B0 : Hid (Below w.heap.size w V0) := b0
  clear b0 h h0 hT hT0
  go_enter Tryz.func146, Tryz.ntmps146
  go_wp2_with fail
  refine C.mono ?_
  rintro e w1 ⟨rfl, rfl⟩
  clear C
  go_wp2_with fail
  refine C2.mono ?_
  rintro e w2 ⟨⟨k, m, s, rfl, hvk⟩, hb2⟩
  rw [hv, show (none : Option VT).isSome = false from rfl]
  have hs2 : StI g w2 T n o := HS.out.below hb2
  have X2 : Hid (Box w2 w.heap.size 31 #[.int .i64 0, .int .i64 0, .string ⟨#[]⟩]) := X0.out.belowS hb2
  have B2 : Hid (Below w.heap.size w w2) := B0.out.trans (hb2.mono B0.out.size)
  have HTT2 : Hid (TbG g w2) := HTT.out.below (hb2.mono (by have := HS.out.lt; omega))
  clear C2 hb2 HS X0 B0 hvk hv hV0 HTT
  obtain ⟨V3, hV3⟩ : ∃ Q, w2.alloc (.cells #[.int .i64 k, .int .i64 m, .string s] 31) = Q := ⟨_, rfl⟩
  have b3 : Below w2.heap.size w2 V3 := by rw [← hV3]; exact (Below.refl _ _).alloc (Nat.le_refl _) _
  have hs3 : StI g V3 T n o := hs2.below b3
  have l9 := hs2.lt
  have HTT3 : Hid (TbG g V3) := HTT2.out.below (b3.mono (by omega))
  have X3 : Hid (Box V3 w.heap.size 31 #[.int .i64 0, .int .i64 0, .string ⟨#[]⟩]) := X2.out.belowS b3
  have B3 : Hid (Below w.heap.size w V3) := B2.out.trans (b3.mono B2.out.size)
  have HS3 : Hid (StI g V3 T n o) := hs3
  have C3 := c_next g V3 T n o hs3
  obtain ⟨p0, p1, p2⟩ := box3 X3.out
  have q0 := X3.out.thaw 0
  have q1 := X3.out.thaw 1
  have q2 := X3.out.thaw 2
  have l2 := X3.out.lt
  clear hs2 b3 X2 B2 hs3 HTT2
  rw [HM.out] at C3
  unfold wMin at C3
  obtain ⟨a, cap, h1, h2, hb, ht⟩ := HS3.out
  rw [hl] at hb
  obtain ⟨x0, x1, x2⟩ := box3 hb
  clear hb ht
  go_wp2_with fail
  refine C3.mono ?_
  rintro e w4 ⟨rfl, rfl⟩
  clear C3 hV3
  go_wp2
  with_reducible refine retV2 (v := .bool false) rfl rfl rfl rfl (put3_box X3.out _ _ _) ⟨rfl, HS3.out.up (put3_below (Below.refl (g + 1) _) (show g + 1 ≤ w.heap.size by omega) _ _ _), ?_⟩
  exact put3_below (B3.out.mono (show g ≤ w.heap.size by omega)) (show g ≤ w.heap.size by omega) _ _ _
set_option maxRecDepth 100000 in
set_option maxHeartbeats 8000000 in
theorem c_tv4 (g : Nat) (w : World) (T : List ByteArray) (n o : Nat) (h : StI g w T n o) (hT : TbG g w) (hm : nxt T = wMin) (hl : 2 ≤ T.length) (hz : ∀ x, numB (nxt (T.drop 1)) = some x → x = 0) :
    Calls Tryz.prog 146 #[.pointer (some ⟨g, 0, none⟩)] w fun e w' => e = .returned (.tuple #[.agg #[.int .i64 0, .int .i64 0, .string ⟨#[]⟩], .bool false]) ∧ StI g w' T n o ∧ Below g w w' := by
  have hv : valT (nxt T) = none := by rw [hm]; decide
  have HM : Hid (nxt T = wMin) := hm
  clear hm
  obtain ⟨V0, hV0⟩ : ∃ Q, w.alloc (.cells #[.int .i64 0, .int .i64 0, .string ⟨#[]⟩] 31) = Q := ⟨_, rfl⟩
  have b0 : Below w.heap.size w V0 := by rw [← hV0]; exact (Below.refl _ _).alloc (Nat.le_refl _) _
  have X0 : Hid (Box V0 w.heap.size 31 #[.int .i64 0, .int .i64 0, .string ⟨#[]⟩]) := by unfold Hid; rw [← hV0]; exact Box.new _ _ _
  have lg := h.lt
  have h0 : StI g V0 T n o := h.below b0
  have hT0 := hT.below (b0.mono (show g ≤ w.heap.size by omega))
  have HTK : Hid (∀ t ∈ T, Tok t) := h.toks
  have C := c_next g V0 T n o h0
  have C2 := c_rv (nxt T) V0 (nxt_tok h.toks) hT0.errs hT0.tabs.p
  have HS : Hid (StI g V0 T n o) := h0
  have HTT : Hid (TbG g V0) := hT0
  have B0 : Hid (Below w.heap.size w V0) := b0
  clear b0 h h0 hT hT0
  go_enter Tryz.func146, Tryz.ntmps146
  go_wp2_with fail
  refine C.mono ?_
  rintro e w1 ⟨rfl, rfl⟩
  clear C
  go_wp2_with fail
  refine C2.mono ?_
  rintro e w2 ⟨⟨k, m, s, rfl, hvk⟩, hb2⟩
  rw [hv, show (none : Option VT).isSome = false from rfl]
  have hs2 : StI g w2 T n o := HS.out.below hb2
  have X2 : Hid (Box w2 w.heap.size 31 #[.int .i64 0, .int .i64 0, .string ⟨#[]⟩]) := X0.out.belowS hb2
  have B2 : Hid (Below w.heap.size w w2) := B0.out.trans (hb2.mono B0.out.size)
  have HTT2 : Hid (TbG g w2) := HTT.out.below (hb2.mono (by have := HS.out.lt; omega))
  clear C2 hb2 HS X0 B0 hvk hv hV0 HTT
  obtain ⟨V3, hV3⟩ : ∃ Q, w2.alloc (.cells #[.int .i64 k, .int .i64 m, .string s] 31) = Q := ⟨_, rfl⟩
  have b3 : Below w2.heap.size w2 V3 := by rw [← hV3]; exact (Below.refl _ _).alloc (Nat.le_refl _) _
  have hs3 : StI g V3 T n o := hs2.below b3
  have l9 := hs2.lt
  have HTT3 : Hid (TbG g V3) := HTT2.out.below (b3.mono (by omega))
  have X3 : Hid (Box V3 w.heap.size 31 #[.int .i64 0, .int .i64 0, .string ⟨#[]⟩]) := X2.out.belowS b3
  have B3 : Hid (Below w.heap.size w V3) := B2.out.trans (b3.mono B2.out.size)
  have HS3 : Hid (StI g V3 T n o) := hs3
  have C3 := c_next g V3 T n o hs3
  obtain ⟨p0, p1, p2⟩ := box3 X3.out
  have q0 := X3.out.thaw 0
  have q1 := X3.out.thaw 1
  have q2 := X3.out.thaw 2
  have l2 := X3.out.lt
  clear hs2 b3 X2 B2 hs3 HTT2
  rw [HM.out] at C3
  unfold wMin at C3
  obtain ⟨a, cap, h1, h2, hb, ht⟩ := HS3.out
  obtain ⟨b, off, rfl, hg, hall⟩ := ht.2 (by omega)
  obtain ⟨u, hu⟩ : ∃ u, nxt (T.drop 1) = u := ⟨_, rfl⟩
  have c1 : V3.cell? ⟨b, off + 1, none⟩ = some (.string u) := by
    rw [hall 1 (by omega), ← hu]
    cases T with
    | nil => simp at hl
    | cons x r => cases r with
      | nil => simp at hl
      | cons x2 r2 => rfl
  obtain ⟨N, hN⟩ : ∃ N, T.length = N := ⟨_, rfl⟩
  rw [hN] at hb h1 hl
  obtain ⟨x0, x1, x2⟩ := box3 hb
  have tk : u.size ≤ 65536 := by
    rw [← hu]
    exact (nxt_tok (T := T.drop 1) fun t ht => HTK.out t (List.mem_of_mem_drop ht)).size
  have g1 : ¬ (N : Int) < 2 := by omega
  have g2 : (1 : Int) < (N : Int) := by omega
  have C4 := c_rn u V3 tk HTT3.out.errs HTT3.out.tabs.p
  rw [hu] at hz
  have HZ : Hid (∀ x, numB u = some x → x = 0) := hz
  have HL : Hid (T.length = N) := hN
  clear hb ht hz hu hN hall tk
  go_wp2_with fail
  refine C3.mono ?_
  rintro e w4 ⟨rfl, rfl⟩
  clear C3 hV3
  go_wp2_with fail
  refine C4.mono ?_
  rintro e w5 ⟨⟨z, rfl, hzz⟩, hb5⟩
  have X5 : Hid (Box w5 w.heap.size 31 #[.int .i64 0, .int .i64 0, .string ⟨#[]⟩]) := X3.out.belowS hb5
  have B5 : Hid (Below w.heap.size w w5) := B3.out.trans (hb5.mono B3.out.size)
  have HS5 : Hid (StI g w5 T n o) := HS3.out.below hb5
  have HZZ : Hid (∀ x, numB u = some x → z = x) := hzz
  clear C4 hzz p0 p1 p2 q0 q1 q2 l2 X3 B3 HS3 c1
  obtain ⟨U6, hU6⟩ : ∃ Q, w5.alloc (.cells #[.int .i64 1, .int .i64 z, .string ⟨#[]⟩] 31) = Q := ⟨_, rfl⟩
  have b5 : Below w5.heap.size w5 U6 := by rw [← hU6]; exact (Below.refl _ _).alloc (Nat.le_refl _) _
  have Z6 : Box U6 w5.heap.size 31 #[.int .i64 1, .int .i64 z, .string ⟨#[]⟩] := by rw [← hU6]; exact Box.new _ _ _
  obtain ⟨z9, z8, z7⟩ := box3 Z6
  have f2 := Z6.thaw 2
  obtain ⟨V6, hV6⟩ : ∃ Q, U6.setCell ⟨w5.heap.size, 2, none⟩ (.string ⟨#[]⟩) = Q := ⟨_, rfl⟩
  have b6 : Below w5.heap.size w5 V6 := by rw [← hV6]; exact b5.setCell (p := ⟨w5.heap.size, 2, none⟩) (Nat.le_refl _) _
  have X6 : Hid (Box V6 w.heap.size 31 #[.int .i64 0, .int .i64 0, .string ⟨#[]⟩]) := X5.out.belowS b6
  have Y6 : Hid (Box V6 w5.heap.size 31 #[.int .i64 1, .int .i64 z, .string ⟨#[]⟩]) := by
    unfold Hid; rw [← hV6]
    have := Z6.set 2 (.string ⟨#[]⟩)
    simpa using this
  have B6 : Hid (Below w.heap.size w V6) := B5.out.trans (b6.mono B5.out.size)
  have HS6 : Hid (StI g V6 T n o) := HS5.out.below b6
  obtain ⟨p0, p1, p2⟩ := box3 X6.out
  have q0 := X6.out.thaw 0
  have q1 := X6.out.thaw 1
  have q2 := X6.out.thaw 2
  obtain ⟨y0, y1, y2⟩ := box3 Y6.out
  have l2 := X6.out.lt
  clear b6 hb5 b5 Z6
  cases hnu : numB u with
  | none =>
    rw [show (none : Option Int).isSome = false from rfl]
    clear hnu
    go_wp2
    with_reducible refine retV2 (v := .bool false) rfl rfl rfl rfl (put3_box X6.out _ _ _) ⟨rfl, HS6.out.up (put3_below (Below.refl (g + 1) _) (show g + 1 ≤ w.heap.size by omega) _ _ _), ?_⟩
    exact put3_below (B6.out.mono (show g ≤ w.heap.size by omega)) (show g ≤ w.heap.size by omega) _ _ _
  | some x =>
    have hx0 := HZ.out x hnu
    have z0 : (z == 0) = true := by rw [HZZ.out x hnu, hx0]; rfl
    clear hx0
    rw [show (some x : Option Int).isSome = true from rfl]
    clear hnu
    go_wp2
    with_reducible refine retV2 (v := .bool false) rfl rfl rfl rfl (put3_box X6.out _ _ _) ⟨rfl, HS6.out.up (put3_below (Below.refl (g + 1) _) (show g + 1 ≤ w.heap.size by omega) _ _ _), ?_⟩
    exact put3_below (B6.out.mono (show g ≤ w.heap.size by omega)) (show g ≤ w.heap.size by omega) _ _ _
set_option maxRecDepth 100000 in
set_option maxHeartbeats 8000000 in
theorem c_tv5 (g : Nat) (w : World) (T T1 : List ByteArray) (hT1 : T.drop 2 = T1) (n o : Nat) (x : Int) (h : StI g w T n o) (hT : TbG g w) (hm : nxt T = wMin) (hl : 2 ≤ T.length) (hz : numB (nxt (T.drop 1)) = some x) (hx : x ≠ 0) :
    Calls Tryz.prog 146 #[.pointer (some ⟨g, 0, none⟩)] w fun e w' => e = .returned (.tuple #[.agg #[.int .i64 1, .int .i64 (-x), .string ⟨#[]⟩], .bool true]) ∧ StI g w' T1 n o ∧ Below g w w' := by
  have hv : valT (nxt T) = none := by rw [hm]; decide
  have HM : Hid (nxt T = wMin) := hm
  clear hm
  have hxb : -1000000000 ≤ x ∧ x ≤ 1000000000 := ((num_iff _ x).1 hz).2
  obtain ⟨V0, hV0⟩ : ∃ Q, w.alloc (.cells #[.int .i64 0, .int .i64 0, .string ⟨#[]⟩] 31) = Q := ⟨_, rfl⟩
  have b0 : Below w.heap.size w V0 := by rw [← hV0]; exact (Below.refl _ _).alloc (Nat.le_refl _) _
  have X0 : Hid (Box V0 w.heap.size 31 #[.int .i64 0, .int .i64 0, .string ⟨#[]⟩]) := by unfold Hid; rw [← hV0]; exact Box.new _ _ _
  have lg := h.lt
  have h0 : StI g V0 T n o := h.below b0
  have hT0 := hT.below (b0.mono (show g ≤ w.heap.size by omega))
  have HTK : Hid (∀ t ∈ T, Tok t) := h.toks
  have C := c_next g V0 T n o h0
  have C2 := c_rv (nxt T) V0 (nxt_tok h.toks) hT0.errs hT0.tabs.p
  have HS : Hid (StI g V0 T n o) := h0
  have HTT : Hid (TbG g V0) := hT0
  have B0 : Hid (Below w.heap.size w V0) := b0
  clear b0 h h0 hT hT0
  go_enter Tryz.func146, Tryz.ntmps146
  go_wp2_with fail
  refine C.mono ?_
  rintro e w1 ⟨rfl, rfl⟩
  clear C
  go_wp2_with fail
  refine C2.mono ?_
  rintro e w2 ⟨⟨k, m, s, rfl, hvk⟩, hb2⟩
  rw [hv, show (none : Option VT).isSome = false from rfl]
  have hs2 : StI g w2 T n o := HS.out.below hb2
  have X2 : Hid (Box w2 w.heap.size 31 #[.int .i64 0, .int .i64 0, .string ⟨#[]⟩]) := X0.out.belowS hb2
  have B2 : Hid (Below w.heap.size w w2) := B0.out.trans (hb2.mono B0.out.size)
  have HTT2 : Hid (TbG g w2) := HTT.out.below (hb2.mono (by have := HS.out.lt; omega))
  clear C2 hb2 HS X0 B0 hvk hv hV0 HTT
  obtain ⟨V3, hV3⟩ : ∃ Q, w2.alloc (.cells #[.int .i64 k, .int .i64 m, .string s] 31) = Q := ⟨_, rfl⟩
  have b3 : Below w2.heap.size w2 V3 := by rw [← hV3]; exact (Below.refl _ _).alloc (Nat.le_refl _) _
  have hs3 : StI g V3 T n o := hs2.below b3
  have l9 := hs2.lt
  have HTT3 : Hid (TbG g V3) := HTT2.out.below (b3.mono (by omega))
  have X3 : Hid (Box V3 w.heap.size 31 #[.int .i64 0, .int .i64 0, .string ⟨#[]⟩]) := X2.out.belowS b3
  have B3 : Hid (Below w.heap.size w V3) := B2.out.trans (b3.mono B2.out.size)
  have HS3 : Hid (StI g V3 T n o) := hs3
  have C3 := c_next g V3 T n o hs3
  obtain ⟨p0, p1, p2⟩ := box3 X3.out
  have q0 := X3.out.thaw 0
  have q1 := X3.out.thaw 1
  have q2 := X3.out.thaw 2
  have l2 := X3.out.lt
  clear hs2 b3 X2 B2 hs3 HTT2
  rw [HM.out] at C3
  unfold wMin at C3
  obtain ⟨a, cap, h1, h2, hb, ht⟩ := HS3.out
  obtain ⟨b, off, rfl, hg, hall⟩ := ht.2 (by omega)
  obtain ⟨u, hu⟩ : ∃ u, nxt (T.drop 1) = u := ⟨_, rfl⟩
  have c1 : V3.cell? ⟨b, off + 1, none⟩ = some (.string u) := by
    rw [hall 1 (by omega), ← hu]
    cases T with
    | nil => simp at hl
    | cons x r => cases r with
      | nil => simp at hl
      | cons x2 r2 => rfl
  obtain ⟨N, hN⟩ : ∃ N, T.length = N := ⟨_, rfl⟩
  rw [hN] at hb h1 hl
  obtain ⟨x0, x1, x2⟩ := box3 hb
  have tk : u.size ≤ 65536 := by
    rw [← hu]
    exact (nxt_tok (T := T.drop 1) fun t ht => HTK.out t (List.mem_of_mem_drop ht)).size
  have g1 : ¬ (N : Int) < 2 := by omega
  have g2 : (1 : Int) < (N : Int) := by omega
  have C4 := c_rn u V3 tk HTT3.out.errs HTT3.out.tabs.p
  rw [hu] at hz
  have HZ : Hid (numB u = some x) := hz
  have HL : Hid (T.length = N) := hN
  have HTD : Hid (T.drop 2 = T1) := hT1
  clear hT1 hb ht hz hu hN hall tk
  go_wp2_with fail
  refine C3.mono ?_
  rintro e w4 ⟨rfl, rfl⟩
  clear C3 hV3
  go_wp2_with fail
  refine C4.mono ?_
  rintro e w5 ⟨⟨z, rfl, hzz⟩, hb5⟩
  have X5 : Hid (Box w5 w.heap.size 31 #[.int .i64 0, .int .i64 0, .string ⟨#[]⟩]) := X3.out.belowS hb5
  have B5 : Hid (Below w.heap.size w w5) := B3.out.trans (hb5.mono B3.out.size)
  have HS5 : Hid (StI g w5 T n o) := HS3.out.below hb5
  obtain rfl : z = x := hzz x HZ.out
  rw [HZ.out, show (some z : Option Int).isSome = true from rfl]
  clear C4 hzz p0 p1 p2 q0 q1 q2 l2 X3 B3 HS3 c1 x0 x1 x2
  obtain ⟨U6, hU6⟩ : ∃ Q, w5.alloc (.cells #[.int .i64 1, .int .i64 z, .string ⟨#[]⟩] 31) = Q := ⟨_, rfl⟩
  have b5 : Below w5.heap.size w5 U6 := by rw [← hU6]; exact (Below.refl _ _).alloc (Nat.le_refl _) _
  have Z6 : Box U6 w5.heap.size 31 #[.int .i64 1, .int .i64 z, .string ⟨#[]⟩] := by rw [← hU6]; exact Box.new _ _ _
  obtain ⟨z9, z8, z7⟩ := box3 Z6
  have f2 := Z6.thaw 2
  obtain ⟨V6, hV6⟩ : ∃ Q, U6.setCell ⟨w5.heap.size, 2, none⟩ (.string ⟨#[]⟩) = Q := ⟨_, rfl⟩
  have b6 : Below w5.heap.size w5 V6 := by rw [← hV6]; exact b5.setCell (p := ⟨w5.heap.size, 2, none⟩) (Nat.le_refl _) _
  have X6 : Hid (Box V6 w.heap.size 31 #[.int .i64 0, .int .i64 0, .string ⟨#[]⟩]) := X5.out.belowS b6
  have Y6 : Hid (Box V6 w5.heap.size 31 #[.int .i64 1, .int .i64 z, .string ⟨#[]⟩]) := by
    unfold Hid; rw [← hV6]
    have := Z6.set 2 (.string ⟨#[]⟩)
    simpa using this
  have B6 : Hid (Below w.heap.size w V6) := B5.out.trans (b6.mono B5.out.size)
  have HS6 : StI g V6 T n o := HS5.out.below b6
  obtain ⟨a, cap, h1, h2, hb, ht⟩ := HS6
  obtain ⟨b, off, rfl, hg, _⟩ := ht.2 (by have := HL.out; omega)
  rw [HL.out] at hb h1
  obtain ⟨x0, x1, x2⟩ := box3 hb
  have t0 := hb.thaw 0
  have R : Hid (StI g (V6.setCell ⟨g, 0, none⟩ (.slice (if cap = 2 then some ⟨b, off, none⟩ else some ⟨b, off + 2, none⟩) (N - 2) (cap - 2))) T1 n o) := by unfold Hid; rw [← HTD.out]; exact take_k hb ht HL.out 2 hl h1 h2
  obtain ⟨p0, p1, p2⟩ := box3 X6.out
  have q0 := X6.out.thaw 0
  have q1 := X6.out.thaw 1
  have q2 := X6.out.thaw 2
  obtain ⟨y0, y1, y2⟩ := box3 Y6.out
  have l1 := X5.out.lt
  have l2 := X6.out.lt
  have l3 := Y6.out.lt
  have l5 := HS5.out.lt
  have ng : g ≠ w.heap.size := by omega
  have ng2 : g ≠ w5.heap.size := by omega
  have z0 : (z == 0) = false := by simpa using hx
  have z1 : IntKind.i64.wrap (-z) = -z := by simp [IntKind.wrap_i64]; omega
  have k1 : (0 : Int) ≤ 2 := by omega
  have k2 : (2 : Int) ≤ (N : Int) := by omega
  have k3 : (N : Int) ≤ (cap : Int) := by omega
  clear b5 Z6 b6 hb5 hb ht X5 B5 HS5 hx
  by_cases hc1 : cap = 2
  · have R2 : Hid (StI g (V6.setCell ⟨g, 0, none⟩ (.slice (some ⟨b, off, none⟩) 0 0)) T1 n o) := by
      have := R.out; rw [if_pos hc1, show N - 2 = 0 by omega, show cap - 2 = 0 by omega] at this; exact this
    have XF : Hid (Box (V6.setCell ⟨g, 0, none⟩ (.slice (some ⟨b, off, none⟩) 0 0)) w.heap.size 31 #[.int .i64 0, .int .i64 0, .string ⟨#[]⟩]) := Box.setOther X6.out ⟨g, 0, none⟩ _ (Ne.symm ng)
    subst hc1
    clear R
    obtain rfl : N = 2 := by omega
    go_wp2
    with_reducible refine retV2 (v := .bool true) rfl rfl rfl rfl (put3_box XF.out _ _ _) ⟨rfl, R2.out.up (put3_below (Below.refl (g + 1) _) (show g + 1 ≤ w.heap.size by omega) _ _ _), ?_⟩
    exact put3_below ((B6.out.mono (show g ≤ w.heap.size by omega)).setCell (p := ⟨g, 0, none⟩) (Nat.le_refl g) _) (show g ≤ w.heap.size by omega) _ _ _
  · have R2 : Hid (StI g (V6.setCell ⟨g, 0, none⟩ (.slice (some ⟨b, off + 2, none⟩) (N - 2) (cap - 2))) T1 n o) := by
      have := R.out; rw [if_neg hc1] at this; exact this
    have XF : Hid (Box (V6.setCell ⟨g, 0, none⟩ (.slice (some ⟨b, off + 2, none⟩) (N - 2) (cap - 2))) w.heap.size 31 #[.int .i64 0, .int .i64 0, .string ⟨#[]⟩]) := Box.setOther X6.out ⟨g, 0, none⟩ _ (Ne.symm ng)
    clear R
    go_wp2
    with_reducible refine retV2 (v := .bool true) rfl rfl rfl rfl (put3_box XF.out _ _ _) ⟨rfl, R2.out.up (put3_below (Below.refl (g + 1) _) (show g + 1 ≤ w.heap.size by omega) _ _ _), ?_⟩
    exact put3_below ((B6.out.mono (show g ≤ w.heap.size by omega)).setCell (p := ⟨g, 0, none⟩) (Nat.le_refl g) _) (show g ≤ w.heap.size by omega) _ _ _

end Go.Proofs.YtbpfpjmjmkpjoaaGreatDoor
namespace Go.Proofs.YtbpfpjmjmkpjoaaGreatDoor
open Go Go.RowKit
attribute [local go_sem ↓] Go.wp_at_zero Go.wp_at_succ

set_option linter.unusedVariables false
set_option linter.unusedSimpArgs false
theorem c_tvY (g : Nat) (w : World) (T T1 : List ByteArray) (n o : Nat) (v : VT) (h : StI g w T n o) (hT : TbG g w) (hv : vAt T = some (v, T1)) :
    Calls Tryz.prog 146 #[.pointer (some ⟨g, 0, none⟩)] w fun e w' => e = .returned (.tuple #[.agg #[.int .i64 v.k, .int .i64 v.n, .string v.t], .bool true]) ∧ StI g w' T1 n o ∧ Below g w w' := by
  unfold vAt at hv
  split at hv
  · rename_i u hu
    simp only [Option.some.injEq, Prod.mk.injEq] at hv
    obtain ⟨rfl, h1⟩ := hv
    exact c_tv1 g w T T1 h1 n o u h hT hu
  · split at hv
    · rename_i hm
      split at hv
      · rename_i x hx
        split at hv
        · cases hv
        · rename_i h0
          simp only [Option.some.injEq, Prod.mk.injEq] at hv
          obtain ⟨rfl, h1⟩ := hv
          have hl := numB_pos hx
          rw [List.length_drop] at hl
          exact c_tv5 g w T T1 h1 n o x h hT hm (by omega) hx h0
      · cases hv
    · cases hv
theorem c_tvN (g : Nat) (w : World) (T : List ByteArray) (n o : Nat) (h : StI g w T n o) (hT : TbG g w) (hv : vAt T = none) :
    Calls Tryz.prog 146 #[.pointer (some ⟨g, 0, none⟩)] w fun e w' => e = .returned (.tuple #[.agg #[.int .i64 0, .int .i64 0, .string ⟨#[]⟩], .bool false]) ∧ StI g w' T n o ∧ Below g w w' := by
  unfold vAt at hv
  split at hv
  · cases hv
  · rename_i hu
    split at hv
    · rename_i hm
      have hl := nxt_pos hm (by decide)
      by_cases h2 : 2 ≤ T.length
      · refine c_tv4 g w T n o h hT hm h2 (fun x hx => ?_)
        rw [hx] at hv
        dsimp only at hv
        split at hv
        · assumption
        · cases hv
      · exact c_tv3 g w T n o h hT hm (by omega)
    · rename_i hm
      exact c_tv2 g w T n o h hT hu hm
theorem neg_inv {o : Nat} {T : List ByteArray} {n : Nat} {r : Res} (h : Parses .neg o T n r) (hn : n ≤ 40) :
    (∃ v T1, vAt T = some (v, T1) ∧ ((n = 40 ∧ r = .err 6) ∨ (n < 40 ∧ r = .ok (.con v.k v.n v.t) T1 (n + 1)))) ∨ (vAt T = none ∧ ((nxt T = wMin ∧ o = 48 ∧ r = .err 16) ∨ (nxt T = wMin ∧ o < 48 ∧ ∃ r1, Parses .neg (o + 1) (T.drop 1) n r1 ∧ r1.fits ∧ r = unR 5 r1) ∨ (nxt T ≠ wMin ∧ Parses .pri o T n r))) := by
  cases h with
  | gVM h1 h2 => exact .inl ⟨_, _, h1, .inl ⟨h2, rfl⟩⟩
  | gV h1 h2 => exact .inl ⟨_, _, h1, .inr ⟨h2, rfl⟩⟩
  | gDeep h1 h2 h3 => exact .inr ⟨h1, .inl ⟨h2, h3, rfl⟩⟩
  | gErr h1 h2 h3 h4 => exact .inr ⟨h1, .inr (.inl ⟨h2, h3, _, h4, trivial, rfl⟩)⟩
  | gMany h1 h2 h3 h4 h5 => exact .inr ⟨h1, .inr (.inl ⟨h2, h3, _, h4, h4.fits hn rfl, by unfold unR; simp only [h5, if_true]⟩)⟩
  | @gOk _ _ T1 _ n1 p h1 h2 h3 h4 h5 => exact .inr ⟨h1, .inr (.inl ⟨h2, h3, _, h4, h4.fits hn rfl, by unfold unR; simp only [if_neg (show ¬ n1 = 40 by omega)]⟩)⟩
  | gP h1 h2 h3 => exact .inr ⟨h1, .inr (.inr ⟨h2, h3⟩)⟩
theorem pri_inv {o : Nat} {T : List ByteArray} {n : Nat} {r : Res} (h : Parses .pri o T n r) (hn : n ≤ 40) :
    (nxt T = wOp ∧ o = 48 ∧ r = .err 16) ∨ (nxt T = wOp ∧ o < 48 ∧ ∃ r1, Parses (.ch .or) (o + 1) (T.drop 1) n r1 ∧ ((∃ e, r1 = .err e ∧ r = .err e) ∨ ∃ p T1 n1, r1 = .ok p T1 n1 ∧ n1 ≤ 40 ∧ ((nxt T1 ≠ wCl ∧ r = .err 3) ∨ (nxt T1 = wCl ∧ r = .ok p (T1.drop 1) n1)))) ∨
    (nxt T ≠ wOp ∧ ((∃ k, colOf (nxt T) = some k ∧ ((n = 40 ∧ r = .err 6) ∨ (n < 40 ∧ r = .ok (.col (k : Int)) (T.drop 1) (n + 1)))) ∨ (colOf (nxt T) = none ∧ r = .err 3))) := by
  cases h with
  | pDeep h1 h2 => exact .inl ⟨h1, h2, rfl⟩
  | pErr h1 h2 h3 => exact .inr (.inl ⟨h1, h2, _, h3, .inl ⟨_, rfl, rfl⟩⟩)
  | pNo h1 h2 h3 h4 => exact .inr (.inl ⟨h1, h2, _, h3, .inr ⟨_, _, _, rfl, h3.fits hn rfl, .inl ⟨h4, rfl⟩⟩⟩)
  | pOk h1 h2 h3 h4 => exact .inr (.inl ⟨h1, h2, _, h3, .inr ⟨_, _, _, rfl, h3.fits hn rfl, .inr ⟨h4, rfl⟩⟩⟩)
  | pColM h1 h2 h3 => exact .inr (.inr ⟨h1, .inl ⟨_, h2, .inl ⟨h3, rfl⟩⟩⟩)
  | pCol h1 h2 h3 => exact .inr (.inr ⟨h1, .inl ⟨_, h2, .inr ⟨h3, rfl⟩⟩⟩)
  | pF h1 h2 => exact .inr (.inr ⟨h1, .inr ⟨h2, rfl⟩⟩)
set_option maxRecDepth 100000 in
set_option maxHeartbeats 8000000 in
theorem ic_neg (T : List ByteArray) (hc : IC 250 .pri T) (hs : ∀ T', T'.length < T.length → IC 248 .neg T') : IC 248 .neg T := by
  intro g w n o r h hT hn ho hp
  have hmf : ∀ (fn : Fn) (first cap : Array Value) (w : World), (Instr.makeFunc fn first cap).run Tryz.prog w = .ok (.func fn first cap) w := fun _ _ _ _ => rfl
  rcases neg_inv hp hn with ⟨v, T1, hv, hr⟩ | ⟨hv, hr⟩
  · have C := c_tvY g w T T1 n o v h hT hv
    have HR : Hid ((n = 40 ∧ r = .err 6) ∨ (n < 40 ∧ r = .ok (.con v.k v.n v.t) T1 (n + 1))) := hr
    obtain ⟨vk, vn, vt⟩ := v
    clear hp h hT hs hc hv hr
    go_enter Tryz.func248, Tryz.ntmps248
    go_wp2_with fail
    refine C.mono ?_
    rintro e w1 ⟨rfl, hs1, hb1⟩
    have HB1 : Hid (Below g w w1) := hb1
    clear C hb1
    obtain ⟨V2, hV2⟩ : ∃ Q, w1.alloc (.cells #[.int .i64 vk, .int .i64 vn, .string vt] 31) = Q := ⟨_, rfl⟩
    have b2 : Below w1.heap.size w1 V2 := by rw [← hV2]; exact (Below.refl _ _).alloc (Nat.le_refl _) _
    have Y2 : Hid (Box V2 w1.heap.size 31 #[.int .i64 vk, .int .i64 vn, .string vt]) := by unfold Hid; rw [← hV2]; exact Box.new _ _ _
    have hs2 : StI g V2 T1 n o := hs1.below b2
    have HB2 : Hid (Below g w V2) := HB1.out.trans (b2.mono (by have := hs1.lt; omega))
    obtain ⟨y0, y1, y2⟩ := box3 Y2.out
    have l2 := Y2.out.lt
    clear b2
    rcases HR.out with ⟨h4, rfl⟩ | ⟨h4, rfl⟩
    · have C2 := c_madeM g V2 T1 n o (.iface 125 (.agg #[.int .i64 vk, .int .i64 vn, .string vt])) hs2 h4
      have HS2 : Hid (StI g V2 T1 n o) := hs2
      clear h4 hn HR hs1 hs2
      go_wp2_with fail
      refine C2.mono ?_
      rintro e w3 ⟨rfl, rfl⟩
      go_wp2
      go_ret2
      exact ⟨⟨rfl, by decide, _, _, HS2.out⟩, HB2.out⟩
    · have C2 := c_made g V2 T1 n o (.iface 125 (.agg #[.int .i64 vk, .int .i64 vn, .string vt])) hs2 h4
      have HY : Hid ((PT.con vk vn vt).enc = .iface 125 (.agg #[.int .i64 vk, .int .i64 vn, .string vt])) := rfl
      clear h4 hn HR hs1 hs2
      go_wp2_with fail
      refine C2.mono ?_
      rintro e w3 ⟨rfl, hs3, hb3⟩
      have HS3 : Hid (StI g w3 T1 (n + 1) o) := hs3
      have HB3 : Hid (Below g w w3) := HB2.out.trans hb3
      clear C2 hs3 hb3
      go_wp2
      go_ret2
      exact ⟨⟨by rw [HY.out]; rfl, HS3.out⟩, HB3.out⟩
  · have C := c_tvN g w T n o h hT hv
    have HT : Hid (TbG g w) := hT
    have HC : Hid (IC 250 .pri T) := hc
    have HS : Hid (∀ T', T'.length < T.length → IC 248 .neg T') := hs
    have HR : Hid ((nxt T = wMin ∧ o = 48 ∧ r = .err 16) ∨ (nxt T = wMin ∧ o < 48 ∧ ∃ r1, Parses .neg (o + 1) (T.drop 1) n r1 ∧ r1.fits ∧ r = unR 5 r1) ∨ (nxt T ≠ wMin ∧ Parses .pri o T n r)) := hr
    clear hp h hT hs hc hv hr
    go_enter Tryz.func248, Tryz.ntmps248
    go_wp2_with fail
    refine C.mono ?_
    rintro e w1 ⟨rfl, hs1, hb1⟩
    have HB1 : Hid (Below g w w1) := hb1
    clear C hb1
    obtain ⟨V2, hV2⟩ : ∃ Q, w1.alloc (.cells #[.int .i64 0, .int .i64 0, .string ⟨#[]⟩] 31) = Q := ⟨_, rfl⟩
    have b2 : Below w1.heap.size w1 V2 := by rw [← hV2]; exact (Below.refl _ _).alloc (Nat.le_refl _) _
    have Y2 : Hid (Box V2 w1.heap.size 31 #[.int .i64 0, .int .i64 0, .string ⟨#[]⟩]) := by unfold Hid; rw [← hV2]; exact Box.new _ _ _
    have hs2 : StI g V2 T n o := hs1.below b2
    have HB2 : Hid (Below g w V2) := HB1.out.trans (b2.mono (by have := hs1.lt; omega))
    obtain ⟨y0, y1, y2⟩ := box3 Y2.out
    have l2 := Y2.out.lt
    clear b2
    have HV2 : Hid (w1.alloc (.cells #[.int .i64 0, .int .i64 0, .string ⟨#[]⟩] 31) = V2) := hV2
    clear hV2
    rcases HR.out with ⟨h1, h2, rfl⟩ | ⟨h1, h2, r1, h3, h4, rfl⟩ | ⟨h1, h2⟩
    · have C2 : Calls Tryz.prog 92 #[.pointer (some ⟨g, 0, none⟩), .string ⟨#[45]⟩] V2 fun e w' => e = .returned (.bool true) ∧ StI g w' (T.drop 1) n o ∧ Below g V2 w' := c_takesY g V2 T n o wMin hs2 h1 (nxt_pos h1 (by decide))
      clear HR hs1 hs2 h1
      go_wp2_with fail
      rw [HV2.out]
      refine C2.mono ?_
      rintro e w3 ⟨rfl, hs3, hb3⟩
      have C3 := c_unaryD g w3 (T.drop 1) n o 5 (.func (Fn.func 248) #[.pointer (some ⟨g, 0, none⟩)] #[]) hs3 h2
      have HB3 : Hid (Below g w w3) := HB2.out.trans hb3
      clear C2 hs3 hb3
      go_wp2_with fail
      refine C3.mono ?_
      rintro e w4 ⟨hr, hb4⟩
      obtain ⟨p9, x9, rfl, _, ⟨z9, rfl⟩, hr⟩ := hr.tup
      have HR9 : Hid (AnsR g o (.err 16) (.returned (.tuple #[p9, .int .i64 z9])) w4) := hr
      have HB9 : Hid (Below g w w4) := HB3.out.trans hb4
      clear hr
      go_wp2
      go_ret2
      exact ⟨HR9.out, HB9.out⟩
    · have C2 : Calls Tryz.prog 92 #[.pointer (some ⟨g, 0, none⟩), .string ⟨#[45]⟩] V2 fun e w' => e = .returned (.bool true) ∧ StI g w' (T.drop 1) n o ∧ Below g V2 w' := c_takesY g V2 T n o wMin hs2 h1 (nxt_pos h1 (by decide))
      have HD : Hid (IC 248 .neg (T.drop 1)) := HS.out (T.drop 1) (by rw [List.length_drop]; have := nxt_pos h1 (by decide); omega)
      have HP : Hid (Parses .neg (o + 1) (T.drop 1) n r1 ∧ r1.fits) := ⟨h3, h4⟩
      clear HR hs1 hs2 h1 h3 h4
      go_wp2_with fail
      rw [HV2.out]
      refine C2.mono ?_
      rintro e w3 ⟨rfl, hs3, hb3⟩
      have HB3 : Hid (Below g w w3) := HB2.out.trans hb3
      have C3 := c_unary g w3 (T.drop 1) n o 248 5 r1 hs3 h2 ent248 HP.out.2 (fun w5 a b => HD.out g w5 n (o + 1) r1 a ((HT.out.below HB3.out).below b) hn (by omega) HP.out.1)
      clear C2 hs3 hb3
      go_wp2_with fail
      refine C3.mono ?_
      rintro e w4 ⟨hr, hb4⟩
      obtain ⟨p9, x9, rfl, _, ⟨z9, rfl⟩, hr⟩ := hr.tup
      have HR9 : Hid (AnsR g o (unR 5 r1) (.returned (.tuple #[p9, .int .i64 z9])) w4) := hr
      have HB9 : Hid (Below g w w4) := HB3.out.trans hb4
      clear hr
      go_wp2
      go_ret2
      exact ⟨HR9.out, HB9.out⟩
    · have C2 : Calls Tryz.prog 92 #[.pointer (some ⟨g, 0, none⟩), .string ⟨#[45]⟩] V2 fun e w' => e = .returned (.bool false) ∧ w' = V2 := c_takesN wMin g V2 T n o hs2 h1
      have C3 := HC.out g V2 n o r hs2 (HT.out.below HB2.out) hn ho h2
      clear HR hs1 hs2 h1 h2
      go_wp2_with fail
      rw [HV2.out]
      refine C2.mono ?_
      rintro e w3 ⟨rfl, hw3⟩
      rw [hw3]
      clear C2 hw3 HV2
      go_wp2_with fail
      refine C3.mono ?_
      rintro e w4 ⟨hr, hb4⟩
      obtain ⟨p9, x9, rfl, _, ⟨z9, rfl⟩, hr⟩ := hr.tup
      have HR9 : Hid (AnsR g o (r) (.returned (.tuple #[p9, .int .i64 z9])) w4) := hr
      have HB9 : Hid (Below g w w4) := HB2.out.trans hb4
      clear hr
      go_wp2
      go_ret2
      exact ⟨HR9.out, HB9.out⟩
/-- What a bracket is, of what stands within. -/
def brR (r : Res) : Res := match r with
  | .err e => .err e
  | .ok p T n => if nxt T = wCl then .ok p (T.drop 1) n else .err 3
set_option maxRecDepth 100000 in
set_option maxHeartbeats 8000000 in
theorem c_brD (g : Nat) (w : World) (T : List ByteArray) (n o : Nat) (h : StI g w T n o) (ho : o = 48) :
    Calls Tryz.prog 251 #[.pointer (some ⟨g, 0, none⟩)] w fun e w' => AnsR g o (.err 16) e w' ∧ Below g w w' := by
  have hmf : ∀ (fn : Fn) (first cap : Array Value) (w : World), (Instr.makeFunc fn first cap).run Tryz.prog w = .ok (.func fn first cap) w := fun _ _ _ _ => rfl
  have C := c_openedD g w T n o (.func (Fn.func 80) #[.pointer (some ⟨g, 0, none⟩)] #[]) h ho
  clear h ho
  go_enter Tryz.func251, Tryz.ntmps251
  go_wp2_with fail
  refine C.mono ?_
  rintro e w1 ⟨⟨rfl, _, hs1⟩, hb1⟩
  have HS1 : Hid (∃ T n, StI g w1 T n o) := hs1
  have HB1 : Hid (Below g w w1) := hb1
  clear C hs1 hb1
  go_wp2
  go_ret2
  exact ⟨⟨rfl, by decide, HS1.out⟩, HB1.out⟩
set_option maxRecDepth 100000 in
set_option maxHeartbeats 8000000 in
theorem c_br (g : Nat) (w : World) (T : List ByteArray) (n o : Nat) (r : Res) (h : StI g w T n o) (ho : o < 48)
    (hf : ∀ w1, StI g w1 T n (o + 1) → Below g w w1 → Calls Tryz.prog 80 #[.pointer (some ⟨g, 0, none⟩)] w1 fun e w' => AnsR g (o + 1) r e w' ∧ Below g w1 w') :
    Calls Tryz.prog 251 #[.pointer (some ⟨g, 0, none⟩)] w fun e w' => AnsR g o (brR r) e w' ∧ Below g w w' := by
  have hmf : ∀ (fn : Fn) (first cap : Array Value) (w : World), (Instr.makeFunc fn first cap).run Tryz.prog w = .ok (.func fn first cap) w := fun _ _ _ _ => rfl
  have C := c_opened g w T n o 80 r h ho ent80 hf
  clear h ho hf
  cases r with
  | err c =>
    go_enter Tryz.func251, Tryz.ntmps251
    go_wp2_with fail
    refine C.mono ?_
    rintro e w1 ⟨⟨rfl, hc, hs1⟩, hb1⟩
    have HS1 : Hid (∃ T n, StI g w1 T n o) := hs1
    have HB1 : Hid (Below g w w1) := hb1
    have HC : Hid ((c == 0) = false) := hc
    clear C hs1 hb1
    go_wp2
    go_ret2
    exact ⟨⟨rfl, HC.out, HS1.out⟩, HB1.out⟩
  | ok p T1 n1 =>
    obtain ⟨T9, y9, hy⟩ := enc_if2 p
    have HY : Hid (p.enc = .iface T9 y9) := hy
    clear hy
    go_enter Tryz.func251, Tryz.ntmps251
    go_wp2_with fail
    refine C.mono ?_
    rintro e w1 ⟨⟨rfl, hs1⟩, hb1⟩
    rw [HY.out]
    have HS1 : Hid (StI g w1 T1 n1 o) := hs1
    have HB1 : Hid (Below g w w1) := hb1
    clear C hs1 hb1
    by_cases hcl : nxt T1 = wCl
    · have C2 : Calls Tryz.prog 92 #[.pointer (some ⟨g, 0, none⟩), .string ⟨#[41]⟩] w1 fun e w' => e = .returned (.bool true) ∧ StI g w' (T1.drop 1) n1 o ∧ Below g w1 w' := c_takesY g w1 T1 n1 o wCl HS1.out hcl (nxt_pos hcl (by decide))
      have E : Hid (brR (.ok p T1 n1) = .ok p (T1.drop 1) n1) := by unfold Hid brR; simp only [hcl, if_true]
      clear hcl
      go_wp2_with fail
      refine C2.mono ?_
      rintro e w2 ⟨rfl, hs2, hb2⟩
      have HS2 : Hid (StI g w2 (T1.drop 1) n1 o) := hs2
      have HB2 : Hid (Below g w w2) := HB1.out.trans hb2
      clear C2 hs2 hb2
      go_wp2
      go_ret2
      rw [E.out]
      exact ⟨⟨by rw [HY.out]; rfl, HS2.out⟩, HB2.out⟩
    · have C2 : Calls Tryz.prog 92 #[.pointer (some ⟨g, 0, none⟩), .string ⟨#[41]⟩] w1 fun e w' => e = .returned (.bool false) ∧ w' = w1 := c_takesN wCl g w1 T1 n1 o HS1.out hcl
      have E : Hid (brR (.ok p T1 n1) = .err 3) := by unfold Hid brR; simp only [if_neg hcl]
      clear hcl
      go_wp2_with fail
      refine C2.mono ?_
      rintro e w2 ⟨rfl, rfl⟩
      go_wp2
      go_ret2
      rw [E.out]
      exact ⟨⟨rfl, by decide, _, _, HS1.out⟩, HB1.out⟩
set_option maxRecDepth 100000 in
set_option maxHeartbeats 8000000 in
theorem ic_pri (T : List ByteArray) (hs : ∀ T', T'.length < T.length → IC 80 (.ch .or) T') : IC 250 .pri T := by
  intro g w n o r h hT hn ho hp
  have hmf : ∀ (fn : Fn) (first cap : Array Value) (w : World), (Instr.makeFunc fn first cap).run Tryz.prog w = .ok (.func fn first cap) w := fun _ _ _ _ => rfl
  have HT : Hid (TbG g w) := hT
  rcases pri_inv hp hn with ⟨h1, h2, rfl⟩ | ⟨h1, h2, r1, h3, hr⟩ | ⟨h1, hr⟩
  · have hl := nxt_pos h1 (by decide)
    have C : Calls Tryz.prog 92 #[.pointer (some ⟨g, 0, none⟩), .string ⟨#[40]⟩] w fun e w' => e = .returned (.bool true) ∧ StI g w' (T.drop 1) n o ∧ Below g w w' := c_takesY g w T n o wOp h h1 hl
    clear hp h hT hs h1
    go_enter Tryz.func250, Tryz.ntmps250
    go_wp2_with fail
    refine C.mono ?_
    rintro e w1 ⟨rfl, hs1, hb1⟩
    have C2 := c_brD g w1 (T.drop 1) n o hs1 h2
    have HB1 : Hid (Below g w w1) := hb1
    clear C hs1 hb1
    go_wp2_with fail
    refine C2.mono ?_
    rintro e w2 ⟨hr, hb2⟩
    obtain ⟨p9, x9, rfl, _, ⟨z9, rfl⟩, hr⟩ := hr.tup
    have HR9 : Hid (AnsR g o (.err 16) (.returned (.tuple #[p9, .int .i64 z9])) w2) := hr
    have HB9 : Hid (Below g w w2) := HB1.out.trans hb2
    clear hr
    go_wp2
    go_ret2
    exact ⟨HR9.out, HB9.out⟩
  · have hl := nxt_pos h1 (by decide)
    have E : r = brR r1 := by
      rcases hr with ⟨e, rfl, rfl⟩ | ⟨p, T1, n1, rfl, _, ⟨h5, rfl⟩ | ⟨h5, rfl⟩⟩
      · rfl
      · unfold brR; simp only [if_neg h5]
      · unfold brR; simp only [h5, if_true]
    subst E
    have C : Calls Tryz.prog 92 #[.pointer (some ⟨g, 0, none⟩), .string ⟨#[40]⟩] w fun e w' => e = .returned (.bool true) ∧ StI g w' (T.drop 1) n o ∧ Below g w w' := c_takesY g w T n o wOp h h1 hl
    have HD : Hid (IC 80 (.ch .or) (T.drop 1)) := hs (T.drop 1) (by rw [List.length_drop]; omega)
    have HP : Hid (Parses (.ch .or) (o + 1) (T.drop 1) n r1) := h3
    clear hp h hT hs h1 h3 hr
    go_enter Tryz.func250, Tryz.ntmps250
    go_wp2_with fail
    refine C.mono ?_
    rintro e w1 ⟨rfl, hs1, hb1⟩
    have HB1 : Hid (Below g w w1) := hb1
    have C2 := c_br g w1 (T.drop 1) n o r1 hs1 h2 (fun w5 a b => HD.out g w5 n (o + 1) r1 a ((HT.out.below HB1.out).below b) hn (by omega) HP.out)
    clear C hs1 hb1
    go_wp2_with fail
    refine C2.mono ?_
    rintro e w2 ⟨hr, hb2⟩
    obtain ⟨p9, x9, rfl, _, ⟨z9, rfl⟩, hr⟩ := hr.tup
    have HR9 : Hid (AnsR g o (brR r1) (.returned (.tuple #[p9, .int .i64 z9])) w2) := hr
    have HB9 : Hid (Below g w w2) := HB1.out.trans hb2
    clear hr
    go_wp2
    go_ret2
    exact ⟨HR9.out, HB9.out⟩
  · have C : Calls Tryz.prog 92 #[.pointer (some ⟨g, 0, none⟩), .string ⟨#[40]⟩] w fun e w' => e = .returned (.bool false) ∧ w' = w := c_takesN wOp g w T n o h h1
    have HS : Hid (StI g w T n o) := h
    have HR : Hid ((∃ k, colOf (nxt T) = some k ∧ ((n = 40 ∧ r = .err 6) ∨ (n < 40 ∧ r = .ok (.col (k : Int)) (T.drop 1) (n + 1)))) ∨ (colOf (nxt T) = none ∧ r = .err 3)) := hr
    clear hp h hT hs h1 hr
    go_enter Tryz.func250, Tryz.ntmps250
    go_wp2_with fail
    refine C.mono ?_
    rintro e w1 ⟨rfl, rfl⟩
    clear C
    rcases HR.out with ⟨k, hk, hr⟩ | ⟨hk, rfl⟩
    · have C2 := c_tcolY g w1 T n o k HS.out HT.out hk
      have k0 : (0 : Int) ≤ (k : Int) := by omega
      have HR2 : Hid ((n = 40 ∧ r = .err 6) ∨ (n < 40 ∧ r = .ok (.col (k : Int)) (T.drop 1) (n + 1))) := hr
      clear hk hr HR
      go_wp2_with fail
      refine C2.mono ?_
      rintro e w2 ⟨rfl, hs2, hb2⟩
      have HB2 : Hid (Below g w1 w2) := hb2
      clear C2 hb2
      rcases HR2.out with ⟨h4, rfl⟩ | ⟨h4, rfl⟩
      · have C3 := c_madeM g w2 (T.drop 1) n o (.iface 128 (.agg #[.int .i64 (k : Int)])) hs2 h4
        have HS2 : Hid (StI g w2 (T.drop 1) n o) := hs2
        clear h4 hn HR2 hs2
        go_wp2_with fail
        refine C3.mono ?_
        rintro e w3 ⟨rfl, rfl⟩
        go_wp2
        go_ret2
        exact ⟨⟨rfl, by decide, _, _, HS2.out⟩, HB2.out⟩
      · have C3 := c_made g w2 (T.drop 1) n o (.iface 128 (.agg #[.int .i64 (k : Int)])) hs2 h4
        have HY : Hid ((PT.col (k : Int)).enc = .iface 128 (.agg #[.int .i64 (k : Int)])) := rfl
        clear h4 hn HR2 hs2
        go_wp2_with fail
        refine C3.mono ?_
        rintro e w3 ⟨rfl, hs3, hb3⟩
        have HS3 : Hid (StI g w3 (T.drop 1) (n + 1) o) := hs3
        have HB3 : Hid (Below g w1 w3) := HB2.out.trans hb3
        clear C3 hs3 hb3
        go_wp2
        go_ret2
        exact ⟨⟨by rw [HY.out]; rfl, HS3.out⟩, HB3.out⟩
    · have C2 := c_tcolN g w1 T n o HS.out HT.out hk
      clear hk HR
      go_wp2_with fail
      refine C2.mono ?_
      rintro e w2 ⟨rfl, rfl⟩
      go_wp2
      go_ret2
      exact ⟨⟨rfl, by decide, _, _, HS.out⟩, Below.refl _ _⟩
theorem ic_all : ∀ (m : Nat) (T : List ByteArray), T.length ≤ m → IC 250 .pri T ∧ IC 248 .neg T ∧ IC 242 (.ch .mul) T ∧ IC 226 (.ch .sum) T ∧ IC 204 .cmp T ∧ IC 175 .den T ∧ IC 142 (.ch .and) T ∧ IC 80 (.ch .or) T := by
  intro m
  induction m with
  | zero =>
    have lt : ∀ {T T' : List ByteArray}, T.length ≤ 0 → ¬ T'.length < T.length := fun h h2 => by omega
    have s1 : ∀ T : List ByteArray, T.length ≤ 0 → IC 250 .pri T := fun T h => ic_pri T fun T' h' => absurd h' (lt h)
    have s2 : ∀ T : List ByteArray, T.length ≤ 0 → IC 248 .neg T := fun T h => ic_neg T (s1 T h) fun T' h' => absurd h' (lt h)
    have s3 : ∀ T : List ByteArray, T.length ≤ 0 → IC 242 (.ch .mul) T := fun T h => ic_mul T fun T' h' => s2 T' (by omega)
    have s4 : ∀ T : List ByteArray, T.length ≤ 0 → IC 226 (.ch .sum) T := fun T h => ic_sum T fun T' h' => s3 T' (by omega)
    have s5 : ∀ T : List ByteArray, T.length ≤ 0 → IC 204 .cmp T := fun T h => ic_cmp T fun T' h' => s4 T' (by omega)
    have s6 : ∀ T : List ByteArray, T.length ≤ 0 → IC 175 .den T := fun T h => ic_den T (s5 T h) fun T' h' => absurd h' (lt h)
    have s7 : ∀ T : List ByteArray, T.length ≤ 0 → IC 142 (.ch .and) T := fun T h => ic_and T fun T' h' => s6 T' (by omega)
    intro T h
    exact ⟨s1 T h, s2 T h, s3 T h, s4 T h, s5 T h, s6 T h, s7 T h, ic_or T fun T' h' => s7 T' (by omega)⟩
  | succ m ih =>
    have s1 : ∀ T : List ByteArray, T.length ≤ m + 1 → IC 250 .pri T := fun T h => ic_pri T fun T' h' => (ih T' (by omega)).2.2.2.2.2.2.2
    have s2 : ∀ T : List ByteArray, T.length ≤ m + 1 → IC 248 .neg T := fun T h => ic_neg T (s1 T h) fun T' h' => (ih T' (by omega)).2.1
    have s3 : ∀ T : List ByteArray, T.length ≤ m + 1 → IC 242 (.ch .mul) T := fun T h => ic_mul T fun T' h' => s2 T' (by omega)
    have s4 : ∀ T : List ByteArray, T.length ≤ m + 1 → IC 226 (.ch .sum) T := fun T h => ic_sum T fun T' h' => s3 T' (by omega)
    have s5 : ∀ T : List ByteArray, T.length ≤ m + 1 → IC 204 .cmp T := fun T h => ic_cmp T fun T' h' => s4 T' (by omega)
    have s6 : ∀ T : List ByteArray, T.length ≤ m + 1 → IC 175 .den T := fun T h => ic_den T (s5 T h) fun T' h' => (ih T' (by omega)).2.2.2.2.2.1
    have s7 : ∀ T : List ByteArray, T.length ≤ m + 1 → IC 142 (.ch .and) T := fun T h => ic_and T fun T' h' => s6 T' (by omega)
    intro T h
    exact ⟨s1 T h, s2 T h, s3 T h, s4 T h, s5 T h, s6 T h, s7 T h, ic_or T fun T' h' => s7 T' (by omega)⟩
/-- The program's parser of expressions, whole. -/
theorem ic_expr (T : List ByteArray) : IC 80 (.ch .or) T := (ic_all T.length T (Nat.le_refl _)).2.2.2.2.2.2.2

end Go.Proofs.YtbpfpjmjmkpjoaaGreatDoor
