/-
  Jumps of a run.
-/
import Derived.Test.YtcgcaomaofppiaaDoorDc
import Derived.Deep.RegionHeld3
namespace Go.Proofs.YtcgcaomaofppiaaDoor
open Go Go.RowKit
attribute [local go_sem ↓] Go.wp_at_zero Go.wp_at_succ

set_option linter.unusedVariables false
set_option linter.unusedSimpArgs false
def jS (op : Int) (S : List SV) : List SV := if decB op (lastS S).k (lastS S).n then S.dropLast ++ [⟨1, trI (op == 13), ⟨#[]⟩⟩] else S.dropLast ++ [lastS S]
def jN (op : Int) (S : List SV) (nx to : Int) : Int := if decB op (lastS S).k (lastS S).n then to else nx
set_option maxRecDepth 100000 in
set_option maxHeartbeats 4000000 in
theorem c_mjump (c B : Nat) (i : Int) (u v : VV) (S : List SV) (nx : Int) (a : Option Addr) (cap : Nat) (w : World) (h : CRun w c B i u v S nx a cap) (hcB : c < B) (hB : B ≤ w.heap.size) (op to : Int) (hs : S.length ≤ 1000) (h0 : 0 < S.length) :
    Calls Tryd.prog 76 #[.pointer (some ⟨c, 0, none⟩), .int .i64 op, .int .i64 to] w fun e w' => e = .returned (.int .i64 (0)) ∧ (∃ a' cap', CRun w' c B i u v (jS op S) (jN op S nx to) a' cap') ∧ LowB c B w w' := by
  have CP : Hid (∀ W S nx a cap (y : SV), CRun W c B i u v S nx a cap → S.length ≤ 1000 → B ≤ W.heap.size → Calls Tryd.prog 74 #[.pointer (some ⟨c, 0, none⟩), .agg #[.int .i64 y.k, .int .i64 y.n, .string y.t]] W fun e w' => (∃ r, e = .returned r) ∧ (∃ a' cap', CRun w' c B i u v (S ++ [y]) nx a' cap') ∧ LowB c B W w') := fun W S nx a cap y h hs hW => c_put c B i u v S nx a cap W h hcB hW y hs
  have hd : S.dropLast.length ≤ 1000 := by simp; omega
  have lc : c < w.heap.size := h.x.lt
  have C1 := c_pop c B i u v S nx a cap w h hcB hB h0 hs
  unfold jS jN
  obtain ⟨T, hT⟩ : ∃ T, lastS S = T := ⟨_, rfl⟩
  rw [hT] at C1 ⊢
  obtain ⟨D, hD⟩ : ∃ D, decB op T.k T.n = D := ⟨_, rfl⟩
  have CD : Hid (∀ W, Calls Tryd.prog 85 #[.int .i64 op, .agg #[.int .i64 T.k, .int .i64 T.n, .string T.t]] W fun e w' => e = .returned (.bool D) ∧ Below W.heap.size W w') := fun W => by rw [← hD]; exact c_dec op T.k T.n T.t W
  rw [hD]
  clear hD hT h h0
  go_enter Tryd.func76, Tryd.ntmps76
  go_wp2_with fail
  refine C1.mono ?_
  rintro e w1 ⟨rfl, hc1, hl1⟩
  have s1 : w.heap.size ≤ w1.heap.size := hl1.size
  obtain ⟨W1, hW1⟩ : ∃ W, w1.alloc (.cells #[.int .i64 T.k, .int .i64 T.n, .string T.t] 29) = W := ⟨_, rfl⟩
  have b1 : Below w1.heap.size w1 W1 := by rw [← hW1]; exact (Below.refl _ _).alloc (Nat.le_refl _) _
  have HO : Hid (∀ g, ob a = some g → B ≤ g ∧ g < w1.heap.size) := hc1.blk
  have R1 : Hid (CRun W1 c B i u v S.dropLast nx a cap) := hc1.below b1
  have L1 : Hid (LowB c B w W1) := (hl1.mono hB).trans (LowB.of b1 (by omega))
  have X1 : Hid (Box W1 w1.heap.size 29 #[.int .i64 T.k, .int .i64 T.n, .string T.t]) := by unfold Hid; rw [← hW1]; exact Box.new _ _ _
  have sW1 : w1.heap.size < W1.heap.size := X1.out.lt
  obtain ⟨p0, p1, p2⟩ := box3 X1.out
  clear b1 hc1 hl1 C1
  go_wp2_with fail
  refine (CD.out W1).mono ?_
  rintro e w2 ⟨rfl, hb2⟩
  have R2 : Hid (CRun w2 c B i u v S.dropLast nx a cap) := R1.out.below hb2
  have L2 : Hid (LowB c B w w2) := L1.out.trans (LowB.of hb2 (by omega))
  have X2 : Hid (Box w2 w1.heap.size 29 #[.int .i64 T.k, .int .i64 T.n, .string T.t]) := X1.out.belowS hb2
  have s2 : W1.heap.size ≤ w2.heap.size := hb2.size
  clear hb2 p0 p1 p2 R1 L1 X1 CD hW1
  cases D
  · obtain ⟨p0, p1, p2⟩ := box3 X2.out
    have C3 := CP.out w2 S.dropLast nx a cap T R2.out hd (by omega)
    clear CP
    go_wp2_with fail
    refine C3.mono ?_
    rintro e w4 ⟨⟨r, rfl⟩, hc4, hl4⟩
    have H4 : Hid (∃ a' cap', CRun w4 c B i u v (S.dropLast ++ [T]) nx a' cap') := hc4
    have L4 : Hid (LowB c B w w4) := L2.out.trans hl4
    clear hc4 hl4 C3
    go_wp2
    go_ret
    exact ⟨rfl, H4.out, L4.out⟩
  · have CT : Hid (∀ W b, Calls Tryd.prog 84 #[.bool b] W fun e w' => e = .returned (.agg #[.int .i64 1, .int .i64 (trI b), .string ⟨#[]⟩]) ∧ Below W.heap.size W w') := fun W b => c_truth b W
    go_wp2_with fail
    refine (CT.out _ _).mono ?_
    rintro e w3 ⟨rfl, hb3⟩
    have s3 : w2.heap.size ≤ w3.heap.size := hb3.size
    have R3 := R2.out.below hb3
    have L3 : LowB c B w w3 := L2.out.trans (LowB.of hb3 (by omega))
    have X3 := X2.out.belowS hb3
    obtain ⟨p0, p1, p2⟩ := box3 X3
    have t0 := X3.thaw 0
    have t1 := X3.thaw 1
    have t2 := X3.thaw 2
    obtain ⟨W3, hW3⟩ : ∃ W, ((w3.setCell ⟨w1.heap.size, 0, none⟩ (.int .i64 1)).setCell ⟨w1.heap.size, 1, none⟩ (.int .i64 (trI (op == 13)))).setCell ⟨w1.heap.size, 2, none⟩ (.string ⟨#[]⟩) = W := ⟨_, rfl⟩
    have hgn : ∀ j, ob a = some j → j ≠ w1.heap.size := fun j hj => by have := HO.out j hj; omega
    have R4 : CRun W3 c B i u v S.dropLast nx a cap := by rw [← hW3]; exact ((R3.set _ _ (by show w1.heap.size ≠ c; omega) hgn).set _ _ (by show w1.heap.size ≠ c; omega) hgn).set _ _ (by show w1.heap.size ≠ c; omega) hgn
    have L4 : LowB c B w W3 := by rw [← hW3]; exact ((L3.set _ _ (.inr (by show B ≤ w1.heap.size; omega))).set _ _ (.inr (by show B ≤ w1.heap.size; omega))).set _ _ (.inr (by show B ≤ w1.heap.size; omega))
    have X4 : Box W3 w1.heap.size 29 #[.int .i64 1, .int .i64 (trI (op == 13)), .string ⟨#[]⟩] := by rw [← hW3]; exact put3_box X3 _ _ _
    have x8 : W3.cell? ⟨c, 8, none⟩ = some (.int .i64 nx) := R4.x.cell 8
    have f8 := R4.x.thaw 8
    obtain ⟨W4, hW4⟩ : ∃ W, W3.setCell ⟨c, 8, none⟩ (.int .i64 to) = W := ⟨_, rfl⟩
    have R5 : Hid (CRun W4 c B i u v S.dropLast to a cap) := by
      unfold Hid
      rw [← hW4]
      refine ⟨box9_set8 R4.x _, own_same R4.r fun j e => Below.heap_setCell _ _ _ _ ?_⟩
      have := R4.blk j (by rwa [ob_slice] at e)
      show j ≠ c
      omega
    have L5 : Hid (LowB c B w W4) := by unfold Hid; rw [← hW4]; exact L4.set _ _ (.inl rfl)
    have X5 : Box W4 w1.heap.size 29 #[.int .i64 1, .int .i64 (trI (op == 13)), .string ⟨#[]⟩] := by rw [← hW4]; exact X4.setOther _ _ (by show w1.heap.size ≠ c; omega)
    obtain ⟨z0, z1, z2⟩ := box3 X5
    have C5 := CP.out W4 S.dropLast to a cap ⟨1, trI (op == 13), ⟨#[]⟩⟩ R5.out hd (by have := L5.out.size; omega)
    dsimp only at C5
    clear hb3 R3 L3 X3 R4 L4 X4 X5 CP CT
    go_wp2_with fail
    refine C5.mono ?_
    rintro e w6 ⟨⟨r, rfl⟩, hc6, hl6⟩
    have H6 : Hid (∃ a' cap', CRun w6 c B i u v (S.dropLast ++ [⟨1, trI (op == 13), ⟨#[]⟩⟩]) to a' cap') := hc6
    have L6 : Hid (LowB c B w w6) := L5.out.trans hl6
    clear hc6 hl6 C5
    go_wp2
    go_ret
    exact ⟨rfl, H6.out, L6.out⟩
set_option maxRecDepth 100000 in
set_option maxHeartbeats 4000000 in
theorem c_mno (c B : Nat) (i : Int) (u v : VV) (S : List SV) (nx : Int) (a : Option Addr) (cap : Nat) (w : World) (h : CRun w c B i u v S nx a cap) (hcB : c < B) (hB : B ≤ w.heap.size) (x : IN) (hs : S.length ≤ 1000) (h0 : 0 < S.length) :
    Calls Tryd.prog 53 #[.pointer (some ⟨c, 0, none⟩), .agg #[.int .i64 x.o, .int .i64 x.p, .int .i64 x.k, .int .i64 x.n, .string x.t]] w fun e w' => e = .returned (.int .i64 (0)) ∧ (∃ a' cap', CRun w' c B i u v (jS 12 S) (jN 12 S nx x.p) a' cap') ∧ LowB c B w w' := by
  obtain ⟨V, hV⟩ : ∃ V, w.alloc (.cells #[.int .i64 x.o, .int .i64 x.p, .int .i64 x.k, .int .i64 x.n, .string x.t] 59) = V := ⟨_, rfl⟩
  have bV : Below w.heap.size w V := by rw [← hV]; exact (Below.refl _ _).alloc (Nat.le_refl _) _
  have AV : Hid (Box V w.heap.size 59 #[.int .i64 x.o, .int .i64 x.p, .int .i64 x.k, .int .i64 x.n, .string x.t]) := by unfold Hid; rw [← hV]; exact Box.new _ _ _
  have HV : Hid (CRun V c B i u v S nx a cap) := h.below bV
  have LV : Hid (LowB c B w V) := LowB.of bV hB
  have sV : w.heap.size < V.heap.size := AV.out.lt
  obtain ⟨p0, p1, p2, p3, p4⟩ := box5 AV.out
  clear h bV
  have C1 := c_mjump c B i u v S nx a cap V HV.out hcB (by omega) 12 x.p hs h0
  go_enter Tryd.func53, Tryd.ntmps53
  go_wp2_with fail
  refine C1.mono ?_
  rintro e w1 ⟨rfl, hc1, hl1⟩
  have H1 : Hid (∃ a' cap', CRun w1 c B i u v (jS 12 S) (jN 12 S nx x.p) a' cap') := hc1
  have L1 : Hid (LowB c B w w1) := LV.out.trans hl1
  clear hc1 hl1 C1
  go_wp2
  go_ret
  exact ⟨rfl, H1.out, L1.out⟩
set_option maxRecDepth 100000 in
set_option maxHeartbeats 4000000 in
theorem c_myes (c B : Nat) (i : Int) (u v : VV) (S : List SV) (nx : Int) (a : Option Addr) (cap : Nat) (w : World) (h : CRun w c B i u v S nx a cap) (hcB : c < B) (hB : B ≤ w.heap.size) (x : IN) (hs : S.length ≤ 1000) (h0 : 0 < S.length) :
    Calls Tryd.prog 54 #[.pointer (some ⟨c, 0, none⟩), .agg #[.int .i64 x.o, .int .i64 x.p, .int .i64 x.k, .int .i64 x.n, .string x.t]] w fun e w' => e = .returned (.int .i64 (0)) ∧ (∃ a' cap', CRun w' c B i u v (jS 13 S) (jN 13 S nx x.p) a' cap') ∧ LowB c B w w' := by
  obtain ⟨V, hV⟩ : ∃ V, w.alloc (.cells #[.int .i64 x.o, .int .i64 x.p, .int .i64 x.k, .int .i64 x.n, .string x.t] 59) = V := ⟨_, rfl⟩
  have bV : Below w.heap.size w V := by rw [← hV]; exact (Below.refl _ _).alloc (Nat.le_refl _) _
  have AV : Hid (Box V w.heap.size 59 #[.int .i64 x.o, .int .i64 x.p, .int .i64 x.k, .int .i64 x.n, .string x.t]) := by unfold Hid; rw [← hV]; exact Box.new _ _ _
  have HV : Hid (CRun V c B i u v S nx a cap) := h.below bV
  have LV : Hid (LowB c B w V) := LowB.of bV hB
  have sV : w.heap.size < V.heap.size := AV.out.lt
  obtain ⟨p0, p1, p2, p3, p4⟩ := box5 AV.out
  clear h bV
  have C1 := c_mjump c B i u v S nx a cap V HV.out hcB (by omega) 13 x.p hs h0
  go_enter Tryd.func54, Tryd.ntmps54
  go_wp2_with fail
  refine C1.mono ?_
  rintro e w1 ⟨rfl, hc1, hl1⟩
  have H1 : Hid (∃ a' cap', CRun w1 c B i u v (jS 13 S) (jN 13 S nx x.p) a' cap') := hc1
  have L1 : Hid (LowB c B w w1) := LV.out.trans hl1
  clear hc1 hl1 C1
  go_wp2
  go_ret
  exact ⟨rfl, H1.out, L1.out⟩

end Go.Proofs.YtcgcaomaofppiaaDoor
