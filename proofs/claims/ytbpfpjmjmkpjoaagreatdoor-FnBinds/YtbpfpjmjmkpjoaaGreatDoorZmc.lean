/-
  The specification's parser: parts with signs of one level between them.
-/
import Derived.Test.YtbpfpjmjmkpjoaaGreatDoorZma
import Derived.Test.YtbpfpjmjmkpjoaaGreatDoorZmb
import Derived.Test.YtbpfpjmjmkpjoaaGreatDoorTc
namespace Go.Proofs.YtbpfpjmjmkpjoaaGreatDoor
open Go Go.RowKit
attribute [local go_sem ↓] Go.wp_at_zero Go.wp_at_succ

set_option linter.unusedVariables false
set_option linter.unusedSimpArgs false
/-- A level that is called behind a fault. -/
def DeadA (B g : Nat) (T : List ByteArray) (c o : Int) (w : World) (e : Ending) (w' : World) : Prop := ∃ (z : Int) (i' : Nat) (L' : List EN), e = .returned (.int .i64 z) ∧ StS B g w' T i' L' c o ∧ Below B w w'
def DC (f : Nat) : Prop := ∀ (B g : Nat) (w : World) (T : List ByteArray) (i : Nat) (L : List EN) (c o : Int), StS B g w T i L c o → (c == 0) = false → Calls Tryz.prog f #[.pointer (some ⟨g, 0, none⟩)] w (DeadA B g T c o w)
/-- A level that reads. -/
def LiveA (B g : Nat) (T : List ByteArray) (L : List EN) (o : Nat) (r : Res) (w : World) (e : Ending) (w' : World) : Prop :=
  match r with
  | .err c => ((c == 0) = false) ∧ DeadA B g T c (o : Int) w e w'
  | .ok p T1 n1 => ∃ i', e = .returned (.int .i64 ((n1 : Int) - 1)) ∧ T.drop i' = T1 ∧ n1 = L.length + p.cnt ∧ StS B g w' T i' (L ++ nodesP p L.length) 0 (o : Int) ∧ Below B w w'
def SC (f : Nat) (l : Lv) (T' : List ByteArray) : Prop := ∀ (B g : Nat) (w : World) (T : List ByteArray) (i : Nat) (L : List EN) (o : Nat) (r : Res), StS B g w T i L 0 (o : Int) → T.drop i = T' → o ≤ 48 → Parses l o T' L.length r →
  Calls Tryz.prog f #[.pointer (some ⟨g, 0, none⟩)] w (LiveA B g T L o r w)
def ColC (gc : Nat) (w : World) : Prop := w.cell? ⟨gc, 0, none⟩ = some (.string (clT 0)) ∧ w.cell? ⟨gc, 1, none⟩ = some (.string (clT 1)) ∧ w.cell? ⟨gc, 2, none⟩ = some (.string (clT 2))
theorem ColC.below {gc : Nat} {w w' : World} (h : ColC gc w) (hb : Below w.heap.size w w') : ColC gc w' := ⟨far6 hb h.1, far6 hb h.2.1, far6 hb h.2.2⟩
theorem ColC.get {gc : Nat} {w : World} (h : ColC gc w) (j : Nat) (hj : j < 3) : w.cell? ⟨gc, j, none⟩ = some (.string (clT (j : Int))) := by
  rcases (by omega : j = 0 ∨ j = 1 ∨ j = 2) with rfl | rfl | rfl
  · exact h.1
  · exact h.2.1
  · exact h.2.2
theorem col_none {t : ByteArray} (h : colOf t = none) (m : Nat) (hm : m < 3) : t ≠ clT (m : Int) := by
  intro e
  unfold colOf at h
  rcases (by omega : m = 0 ∨ m = 1 ∨ m = 2) with rfl | rfl | rfl
  · rw [if_pos (show t = clT 0 from e)] at h; cases h
  · split at h
    · cases h
    · rw [if_pos (show t = clT 1 from e)] at h; cases h
  · split at h
    · cases h
    · split at h
      · cases h
      · rw [if_pos (show t = clT 2 from e)] at h; cases h
theorem clT_ne : ∀ a b : Nat, a < 3 → b < 3 → a ≠ b → clT (a : Int) ≠ clT (b : Int) := by
  intro a b ha hb hab
  rcases (by omega : a = 0 ∨ a = 1 ∨ a = 2) with rfl | rfl | rfl <;> rcases (by omega : b = 0 ∨ b = 1 ∨ b = 2) with rfl | rfl | rfl <;> first | exact absurd rfl hab | decide
theorem val_nocol {t : ByteArray} {v : VT} (h : valT t = some v) : t ≠ wOp ∧ t ≠ wMin ∧ colOf t = none := by
  refine ⟨fun e => ?_, fun e => ?_, ?_⟩
  · rw [e] at h; have e2 : (valT wOp).isSome = false := by decide
    rw [h] at e2; cases e2
  · rw [e] at h; have e2 : (valT wMin).isSome = false := by decide
    rw [h] at e2; cases e2
  · cases hc : colOf t with
    | none => rfl
    | some k =>
      obtain ⟨hk, e⟩ := col_in hc
      rw [e] at h
      have e2 : (valT (clT (k : Int))).isSome = false := by
        rcases (by omega : k = 0 ∨ k = 1 ∨ k = 2) with rfl | rfl | rfl <;> decide
      rw [h] at e2; cases e2
theorem nxt_pos2 {T : List ByteArray} {i : Nat} {x : ByteArray} (h : nxt (T.drop i) = x) (hx : x.size ≠ 0) : i < T.length := by
  have := nxt_pos h hx
  rw [List.length_drop] at this
  omega
theorem tok_at {T : List ByteArray} (h : ∀ t ∈ T, Tok t) (i : Nat) : Tok (nxt (T.drop i)) := nxt_tok fun t ht => h t (List.mem_of_mem_drop ht)
theorem s_failX (z : Int) (B g : Nat) (w : World) (T : List ByteArray) (i : Nat) (L : List EN) (c o : Int) (h : StS B g w T i L c o) (hc : (c == 0) = false) :
    Calls Tryz.prog 87 #[.pointer (some ⟨g, 0, none⟩), .int .i64 z] w fun e w' => e = .returned (.tuple #[]) ∧ StS B g w' T i L c o ∧ Below B w w' := s_failD z B g w T i L c o h hc
set_option maxRecDepth 100000 in
set_option maxHeartbeats 8000000 in
theorem d_pri (B g : Nat) (w : World) (T : List ByteArray) (i : Nat) (L : List EN) (c o : Int) (h : StS B g w T i L c o) (hc : (c == 0) = false) :
    Calls Tryz.prog 249 #[.pointer (some ⟨g, 0, none⟩)] w (DeadA B g T c o w) := by
  have HTK : Hid ((∀ t ∈ T, Tok t) ∧ i ≤ T.length ∧ T.length ≤ 1000 ∧ L.length ≤ 40) := h.tok
  have HLB : Hid (B ≤ g) := h.base
  have HLG : Hid (g < w.heap.size) := h.lt
  have HC : (c == 0) = false := hc
  have C := s_takeD ⟨#[40]⟩ B g w T i L c o h hc
  obtain ⟨t, ht⟩ : ∃ t, nxt (T.drop i) = t := ⟨_, rfl⟩
  have HNX : Hid (nxt (T.drop i) = t) := ht
  have HTT : Hid (Tok t) := by unfold Hid; rw [← ht]; exact tok_at HTK.out.1 i
  go_enter Tryz.func249, Tryz.ntmps249
  go_wp2_with fail
  refine C.mono ?_
  rintro e w1 ⟨rfl, hs1, hb1⟩
  have C2 := s_next B g w1 T i L (c) (o) hs1
  rw [ht] at C2
  have HB1 : Hid (Below w.heap.size w w1) := hb1
  clear C hb1 ht hs1
  go_wp2_with fail
  refine C2.mono ?_
  rintro e w2 ⟨rfl, hs2, hb2⟩
  have HB2 : Hid (Below w.heap.size w w2) := HB1.out.trans (hb2.mono HB1.out.size)
  clear C2 hb2 HB1
  go_wp2_with fail
  refine (c_cols w2).mono ?_
  rintro e w3 ⟨rfl, hw3⟩
  have HS3 : Hid (StS B g w3 T i L (c) (o)) := by unfold Hid; rw [hw3]; exact hs2.below ((Below.refl _ _).alloc (Nat.le_refl _) _)
  have KC : Hid (ColC w2.heap.size w3) := by unfold Hid; rw [hw3]; exact ⟨(Box.new _ _ _).cell 0, (Box.new _ _ _).cell 1, (Box.new _ _ _).cell 2⟩
  have HB3 : Hid (Below w.heap.size w w3) := by unfold Hid; rw [hw3]; exact HB2.out.alloc HB2.out.size _
  obtain ⟨gc, hgc⟩ : ∃ gc, w2.heap.size = gc := ⟨_, rfl⟩
  rw [hgc] at KC ⊢
  clear hs2 hw3 HB2 hgc h
  go_wp2_with fail
  go_loopw [6] (fun x wr => ∃ j : Nat, j ≤ 3 ∧ x = .int .i64 (j : Int) ∧ StS B g wr T i L (c) (o) ∧ Below w3.heap.size w3 wr) (fun x _ => 3 - (intOf x).toNat)
  case atStart => exact ⟨0, by omega, rfl, HS3.out, Below.refl _ _⟩
  case round =>
    obtain ⟨j, hj, rfl, hsr, hbr⟩ := hrel
    have HSR : Hid (StS B g wr T i L (c) (o)) := hsr
    have HBR : Hid (Below w3.heap.size w3 wr) := hbr
    clear hsr hbr
    by_cases hlt : j < 3
    · skip
      have kc := (KC.out.below HBR.out).get j (by omega)
      obtain ⟨y, hy⟩ : ∃ y, clT (j : Int) = y := ⟨_, rfl⟩
      rw [hy] at kc
      have C := s_takeD y B g wr T i L c o HSR.out HC
      have g1 : (0 : Int) ≤ (j : Int) := by omega
      have g2 : (j : Int) < 3 := by omega
      have g3 : IntKind.i64.wrap ((j : Int) + 1) = (j : Int) + 1 := by simp [IntKind.wrap_i64]; omega
      clear hy
      go_wp2_with fail
      refine C.mono ?_
      rintro e w4 ⟨rfl, hs4, hb4⟩
      have HS4 : Hid (StS B g w4 T i L (c) (o)) := hs4
      have HB4 : Hid (Below w3.heap.size w3 w4) := HBR.out.trans (hb4.mono HBR.out.size)
      clear C hs4 hb4 kc
      go_wp2
      go_roundw
      case rel => exact ⟨j + 1, by omega, by go_num, HS4.out, HB4.out⟩
      case measure => simp [intOf]; omega
    · skip
      have g2 : ¬ (j : Int) < 3 := by omega
      have C := s_lv t wr HTT.out
      go_wp2_with fail
      refine C.mono ?_
      rintro e w4 ⟨⟨k, m, u, rfl, hv⟩, hb4⟩
      have hs4 : StS B g w4 T i L (c) (o) := HSR.out.below hb4
      have HB4 : Hid (Below w.heap.size w w4) := HB3.out.trans ((HBR.out.trans (hb4.mono HBR.out.size)).mono HB3.out.size)
      have lB := hs4.base
      have lg := hs4.lt
      clear C hb4 HBR HSR KC HS3
      obtain ⟨V, hV⟩ : ∃ Q, w4.alloc (.cells #[.int .i64 k, .int .i64 m, .string u] 31) = Q := ⟨_, rfl⟩
      have bV : Below w4.heap.size w4 V := by rw [← hV]; exact (Below.refl _ _).alloc (Nat.le_refl _) _
      have sV : StS B g V T i L (c) (o) := hs4.below bV
      have XV : Hid (Box V w4.heap.size 31 #[.int .i64 k, .int .i64 m, .string u]) := by unfold Hid; rw [← hV]; exact Box.new _ _ _
      have lw : B ≤ w.heap.size := Nat.le_trans HLB.out (Nat.le_of_lt HLG.out)
      have BV : Hid (Below B w V) := (HB4.out.trans (bV.mono HB4.out.size)).mono lw
      cases hval : valT t with
      | none =>
        rw [show (none : Option VT).isSome = false from rfl]
        have C := s_failX 3 B g V T i L (c) (o) sV HC
        clear hval bV hs4 sV
        go_wp2_with fail
        refine C.mono ?_
        rintro e w5 ⟨rfl, hs5, hb5⟩
        have HS5 : Hid (StS B g w5 T i L (c) (o)) := hs5
        have HB5 : Hid (Below B w w5) := BV.out.trans hb5
        clear C hs5 hb5 hV
        go_wp2
        go_ret
        exact ⟨0, i, L, rfl, HS5.out, HB5.out⟩
      | some v =>
        obtain rfl : v = ⟨k, m, u⟩ := hv v hval
        rw [show (some (⟨k, m, u⟩ : VT)).isSome = true from rfl]
        have hil : i < T.length := by
          have := valT_pos (T := T.drop i) (by rw [HNX.out]; exact hval)
          rw [List.length_drop] at this; omega
        obtain ⟨b0, d0, b, cap', hxV, _, _, _, _, hT9, _⟩ := sV
        obtain ⟨y0, y1, y2, y3, y4⟩ := box5 hxV
        have t1 := hxV.thaw 1
        have g4 : IntKind.i64.wrap ((i : Int) + 1) = (i : Int) + 1 := by simp [IntKind.wrap_i64]; omega
        have sV2 : StS B g V T i L (c) (o) := hs4.below bV
        obtain ⟨V2, hV2⟩ : ∃ Q, V.setCell ⟨g, 1, none⟩ (.int .i64 ((i : Int) + 1)) = Q := ⟨_, rfl⟩
        have s2 : StS B g V2 T (i + 1) L (c) (o) := by
          have := sV2.put1 (k := i + 1) (by omega)
          rw [Int.natCast_add] at this
          rw [← hV2]; exact this
        have B2 : Hid (Below B w V2) := by unfold Hid; rw [← hV2]; exact BV.out.setCell (p := ⟨g, 1, none⟩) lB _
        have X2 : Hid (Box V2 w4.heap.size 31 #[.int .i64 k, .int .i64 m, .string u]) := by unfold Hid; rw [← hV2]; exact Box.setOther XV.out ⟨g, 1, none⟩ _ (show w4.heap.size ≠ g by omega)
        obtain ⟨v0, v1, v2⟩ := box3 X2.out
        have l2 := X2.out.lt
        clear hval hxV sV2 bV hs4
        have C := s_putD ⟨1, 0, 0, 0, k, m, u⟩ B g V2 T (i + 1) L c o s2 HC
        clear s2
        go_wp2_with fail
        refine C.mono ?_
        rintro e w5 ⟨z, L', rfl, hs5, hb5⟩
        have HS5 : Hid (StS B g w5 T (i + 1) L' c o) := hs5
        have HB5 : Hid (Below B w w5) := B2.out.trans hb5
        clear C hs5 hb5 hV hV2
        go_wp2
        go_ret
        exact ⟨z, i + 1, L', rfl, HS5.out, HB5.out⟩
set_option maxRecDepth 100000 in
set_option maxHeartbeats 8000000 in
theorem s_priC (B g : Nat) (w : World) (T : List ByteArray) (i : Nat) (L : List EN) (o : Nat) (h : StS B g w T i L 0 (o : Int)) (hop : nxt (T.drop i) ≠ wOp) (kc9 : Nat) (hk9 : kc9 < 3) (he : nxt (T.drop i) = clT (kc9 : Int)) (r : Res) (hr : (L.length = 40 ∧ r = .err 6) ∨ (L.length < 40 ∧ r = .ok (.col (kc9 : Int)) ((T.drop i).drop 1) (L.length + 1))) :
    Calls Tryz.prog 249 #[.pointer (some ⟨g, 0, none⟩)] w (LiveA B g T L o (r) w) := by
  have HTK : Hid ((∀ t ∈ T, Tok t) ∧ i ≤ T.length ∧ T.length ≤ 1000 ∧ L.length ≤ 40) := h.tok
  have HLB : Hid (B ≤ g) := h.base
  have HLG : Hid (g < w.heap.size) := h.lt
  have C := s_takeN ⟨#[40]⟩ B g w T i L 0 (o : Int) h rfl hop
  obtain ⟨t, ht⟩ : ∃ t, nxt (T.drop i) = t := ⟨_, rfl⟩
  have HNX : Hid (nxt (T.drop i) = t) := ht
  have HTT : Hid (Tok t) := by unfold Hid; rw [← ht]; exact tok_at HTK.out.1 i
  go_enter Tryz.func249, Tryz.ntmps249
  go_wp2_with fail
  refine C.mono ?_
  rintro e w1 ⟨rfl, hs1, hb1⟩
  have C2 := s_next B g w1 T i L (0) ((o : Int)) hs1
  rw [ht] at C2
  have HB1 : Hid (Below w.heap.size w w1) := hb1
  clear C hb1 ht hs1
  go_wp2_with fail
  refine C2.mono ?_
  rintro e w2 ⟨rfl, hs2, hb2⟩
  have HB2 : Hid (Below w.heap.size w w2) := HB1.out.trans (hb2.mono HB1.out.size)
  clear C2 hb2 HB1
  go_wp2_with fail
  refine (c_cols w2).mono ?_
  rintro e w3 ⟨rfl, hw3⟩
  have HS3 : Hid (StS B g w3 T i L (0) ((o : Int))) := by unfold Hid; rw [hw3]; exact hs2.below ((Below.refl _ _).alloc (Nat.le_refl _) _)
  have KC : Hid (ColC w2.heap.size w3) := by unfold Hid; rw [hw3]; exact ⟨(Box.new _ _ _).cell 0, (Box.new _ _ _).cell 1, (Box.new _ _ _).cell 2⟩
  have HB3 : Hid (Below w.heap.size w w3) := by unfold Hid; rw [hw3]; exact HB2.out.alloc HB2.out.size _
  obtain ⟨gc, hgc⟩ : ∃ gc, w2.heap.size = gc := ⟨_, rfl⟩
  rw [hgc] at KC ⊢
  have HEQ : Hid (t = clT (kc9 : Int)) := HNX.out.symm.trans he
  have HR : Hid ((L.length = 40 ∧ r = .err 6) ∨ (L.length < 40 ∧ r = .ok (.col (kc9 : Int)) ((T.drop i).drop 1) (L.length + 1))) := hr
  clear hs2 hw3 HB2 hgc h hr he hop
  go_wp2_with fail
  go_loopw [6] (fun x wr => ∃ j : Nat, j ≤ kc9 ∧ x = .int .i64 (j : Int) ∧ StS B g wr T i L (0) ((o : Int)) ∧ Below w3.heap.size w3 wr) (fun x _ => 3 - (intOf x).toNat)
  case atStart => exact ⟨0, by omega, rfl, HS3.out, Below.refl _ _⟩
  case round =>
    obtain ⟨j, hj, rfl, hsr, hbr⟩ := hrel
    have HSR : Hid (StS B g wr T i L (0) ((o : Int))) := hsr
    have HBR : Hid (Below w3.heap.size w3 wr) := hbr
    clear hsr hbr
    by_cases hjk : j = kc9
    · subst hjk
      have kc := (KC.out.below HBR.out).get j (by omega)
      obtain ⟨y, hy⟩ : ∃ y, clT (j : Int) = y := ⟨_, rfl⟩
      rw [hy] at kc
      have hil : i < T.length := nxt_pos2 (HNX.out.trans (HEQ.out.trans hy)) (by rw [← hy]; rcases (by omega : j = 0 ∨ j = 1 ∨ j = 2) with rfl | rfl | rfl <;> decide)
      have C := s_takeY y B g wr T i L 0 (o : Int) HSR.out rfl (HNX.out.trans (HEQ.out.trans hy)) hil
      have g1 : (0 : Int) ≤ (j : Int) := by omega
      have g2 : (j : Int) < 3 := by omega
      have lw : B ≤ w.heap.size := Nat.le_trans HLB.out (Nat.le_of_lt HLG.out)
      clear hy hil
      go_wp2_with fail
      refine C.mono ?_
      rintro e w4 ⟨rfl, hs4, hb4⟩
      have HB4 : Hid (Below B w w4) := (HB3.out.mono lw).trans ((HBR.out.mono (by have := HB3.out.size; omega)).trans hb4)
      clear C hb4 kc HBR HSR
      rcases HR.out with ⟨h40, rfl⟩ | ⟨h40, rfl⟩
      · have C := s_putM ⟨2, 0, 0, (j : Int), 0, 0, ⟨#[]⟩⟩ B g w4 T (i + 1) L 0 (o : Int) hs4 rfl h40
        clear hs4 HR h40
        go_wp2_with fail
        refine C.mono ?_
        rintro e w5 ⟨rfl, hs5, hb5⟩
        have HS5 : Hid (StS B g w5 T (i + 1) L 6 (o : Int)) := hs5
        have HB5 : Hid (Below B w w5) := HB4.out.trans hb5
        clear C hs5 hb5
        go_wp2
        go_ret
        exact ⟨by decide, 0, i + 1, L, rfl, HS5.out, HB5.out⟩
      · have C := s_put ⟨2, 0, 0, (j : Int), 0, 0, ⟨#[]⟩⟩ B g w4 T (i + 1) L 0 (o : Int) hs4 h40
        clear hs4 HR h40
        go_wp2_with fail
        refine C.mono ?_
        rintro e w5 ⟨rfl, hs5, hb5⟩
        have HS5 : Hid (StS B g w5 T (i + 1) (L ++ [⟨2, 0, 0, (j : Int), 0, 0, ⟨#[]⟩⟩]) 0 (o : Int)) := hs5
        have HB5 : Hid (Below B w w5) := HB4.out.trans hb5
        clear C hs5 hb5
        go_wp2
        go_ret
        exact ⟨i + 1, by rw [show (((L.length + 1 : Nat) : Int) - 1) = (L.length : Int) by omega]; rfl, by rw [List.drop_drop], rfl, HS5.out, HB5.out⟩
    · skip
      have kc := (KC.out.below HBR.out).get j (by omega)
      obtain ⟨y, hy⟩ : ∃ y, clT (j : Int) = y := ⟨_, rfl⟩
      rw [hy] at kc
      have C := s_takeN y B g wr T i L 0 (o : Int) HSR.out rfl (fun e => clT_ne kc9 j (by omega) (by omega) (Ne.symm hjk) ((HEQ.out.symm.trans (HNX.out.symm.trans e)).trans hy.symm))
      have g1 : (0 : Int) ≤ (j : Int) := by omega
      have g2 : (j : Int) < 3 := by omega
      have g3 : IntKind.i64.wrap ((j : Int) + 1) = (j : Int) + 1 := by simp [IntKind.wrap_i64]; omega
      clear hy
      go_wp2_with fail
      refine C.mono ?_
      rintro e w4 ⟨rfl, hs4, hb4⟩
      have HS4 : Hid (StS B g w4 T i L (0) ((o : Int))) := hs4
      have HB4 : Hid (Below w3.heap.size w3 w4) := HBR.out.trans (hb4.mono HBR.out.size)
      clear C hs4 hb4 kc
      go_wp2
      go_roundw
      case rel => exact ⟨j + 1, by omega, by go_num, HS4.out, HB4.out⟩
      case measure => simp [intOf]; omega
set_option maxRecDepth 100000 in
set_option maxHeartbeats 8000000 in
theorem s_priN (B g : Nat) (w : World) (T : List ByteArray) (i : Nat) (L : List EN) (o : Nat) (h : StS B g w T i L 0 (o : Int)) (hop : nxt (T.drop i) ≠ wOp) (hcn : colOf (nxt (T.drop i)) = none) (hvn : valT (nxt (T.drop i)) = none) :
    Calls Tryz.prog 249 #[.pointer (some ⟨g, 0, none⟩)] w (LiveA B g T L o (.err 3) w) := by
  have HTK : Hid ((∀ t ∈ T, Tok t) ∧ i ≤ T.length ∧ T.length ≤ 1000 ∧ L.length ≤ 40) := h.tok
  have HLB : Hid (B ≤ g) := h.base
  have HLG : Hid (g < w.heap.size) := h.lt
  have C := s_takeN ⟨#[40]⟩ B g w T i L 0 (o : Int) h rfl hop
  obtain ⟨t, ht⟩ : ∃ t, nxt (T.drop i) = t := ⟨_, rfl⟩
  have HNX : Hid (nxt (T.drop i) = t) := ht
  have HTT : Hid (Tok t) := by unfold Hid; rw [← ht]; exact tok_at HTK.out.1 i
  go_enter Tryz.func249, Tryz.ntmps249
  go_wp2_with fail
  refine C.mono ?_
  rintro e w1 ⟨rfl, hs1, hb1⟩
  have C2 := s_next B g w1 T i L (0) ((o : Int)) hs1
  rw [ht] at C2
  have HB1 : Hid (Below w.heap.size w w1) := hb1
  clear C hb1 ht hs1
  go_wp2_with fail
  refine C2.mono ?_
  rintro e w2 ⟨rfl, hs2, hb2⟩
  have HB2 : Hid (Below w.heap.size w w2) := HB1.out.trans (hb2.mono HB1.out.size)
  clear C2 hb2 HB1
  go_wp2_with fail
  refine (c_cols w2).mono ?_
  rintro e w3 ⟨rfl, hw3⟩
  have HS3 : Hid (StS B g w3 T i L (0) ((o : Int))) := by unfold Hid; rw [hw3]; exact hs2.below ((Below.refl _ _).alloc (Nat.le_refl _) _)
  have KC : Hid (ColC w2.heap.size w3) := by unfold Hid; rw [hw3]; exact ⟨(Box.new _ _ _).cell 0, (Box.new _ _ _).cell 1, (Box.new _ _ _).cell 2⟩
  have HB3 : Hid (Below w.heap.size w w3) := by unfold Hid; rw [hw3]; exact HB2.out.alloc HB2.out.size _
  obtain ⟨gc, hgc⟩ : ∃ gc, w2.heap.size = gc := ⟨_, rfl⟩
  rw [hgc] at KC ⊢
  have HCN : Hid (∀ m : Nat, m < 3 → t ≠ clT (m : Int)) := fun m hm e => col_none hcn m hm (HNX.out.trans e)
  have HVN : Hid (valT t = none) := by unfold Hid; rw [← HNX.out]; exact hvn
  clear hs2 hw3 HB2 hgc h hcn hvn hop
  go_wp2_with fail
  go_loopw [6] (fun x wr => ∃ j : Nat, j ≤ 3 ∧ x = .int .i64 (j : Int) ∧ StS B g wr T i L (0) ((o : Int)) ∧ Below w3.heap.size w3 wr) (fun x _ => 3 - (intOf x).toNat)
  case atStart => exact ⟨0, by omega, rfl, HS3.out, Below.refl _ _⟩
  case round =>
    obtain ⟨j, hj, rfl, hsr, hbr⟩ := hrel
    have HSR : Hid (StS B g wr T i L (0) ((o : Int))) := hsr
    have HBR : Hid (Below w3.heap.size w3 wr) := hbr
    clear hsr hbr
    by_cases hlt : j < 3
    · skip
      have kc := (KC.out.below HBR.out).get j (by omega)
      obtain ⟨y, hy⟩ : ∃ y, clT (j : Int) = y := ⟨_, rfl⟩
      rw [hy] at kc
      have C := s_takeN y B g wr T i L 0 (o : Int) HSR.out rfl (fun e => HCN.out j (by omega) ((HNX.out.symm.trans e).trans hy.symm))
      have g1 : (0 : Int) ≤ (j : Int) := by omega
      have g2 : (j : Int) < 3 := by omega
      have g3 : IntKind.i64.wrap ((j : Int) + 1) = (j : Int) + 1 := by simp [IntKind.wrap_i64]; omega
      clear hy
      go_wp2_with fail
      refine C.mono ?_
      rintro e w4 ⟨rfl, hs4, hb4⟩
      have HS4 : Hid (StS B g w4 T i L (0) ((o : Int))) := hs4
      have HB4 : Hid (Below w3.heap.size w3 w4) := HBR.out.trans (hb4.mono HBR.out.size)
      clear C hs4 hb4 kc
      go_wp2
      go_roundw
      case rel => exact ⟨j + 1, by omega, by go_num, HS4.out, HB4.out⟩
      case measure => simp [intOf]; omega
    · skip
      have g2 : ¬ (j : Int) < 3 := by omega
      have C := s_lv t wr HTT.out
      go_wp2_with fail
      refine C.mono ?_
      rintro e w4 ⟨⟨k, m, u, rfl, hv⟩, hb4⟩
      have hs4 : StS B g w4 T i L (0) ((o : Int)) := HSR.out.below hb4
      have HB4 : Hid (Below w.heap.size w w4) := HB3.out.trans ((HBR.out.trans (hb4.mono HBR.out.size)).mono HB3.out.size)
      have lB := hs4.base
      have lg := hs4.lt
      clear C hb4 HBR HSR KC HS3
      obtain ⟨V, hV⟩ : ∃ Q, w4.alloc (.cells #[.int .i64 k, .int .i64 m, .string u] 31) = Q := ⟨_, rfl⟩
      have bV : Below w4.heap.size w4 V := by rw [← hV]; exact (Below.refl _ _).alloc (Nat.le_refl _) _
      have sV : StS B g V T i L (0) ((o : Int)) := hs4.below bV
      have XV : Hid (Box V w4.heap.size 31 #[.int .i64 k, .int .i64 m, .string u]) := by unfold Hid; rw [← hV]; exact Box.new _ _ _
      have lw : B ≤ w.heap.size := Nat.le_trans HLB.out (Nat.le_of_lt HLG.out)
      have BV : Hid (Below B w V) := (HB4.out.trans (bV.mono HB4.out.size)).mono lw
      cases hval : valT t with
      | none =>
        rw [show (none : Option VT).isSome = false from rfl]
        have C := s_fail 3 B g V T i L 0 (o : Int) sV rfl
        clear hval bV hs4 sV
        go_wp2_with fail
        refine C.mono ?_
        rintro e w5 ⟨rfl, hs5, hb5⟩
        have HS5 : Hid (StS B g w5 T i L (3) ((o : Int))) := hs5
        have HB5 : Hid (Below B w w5) := BV.out.trans hb5
        clear C hs5 hb5 hV
        go_wp2
        go_ret
        exact ⟨by decide, 0, i, L, rfl, HS5.out, HB5.out⟩
      | some v =>
        obtain rfl : v = ⟨k, m, u⟩ := hv v hval
        rw [show (some (⟨k, m, u⟩ : VT)).isSome = true from rfl]
        rw [HVN.out] at hval
        cases hval
set_option maxRecDepth 100000 in
set_option maxHeartbeats 8000000 in
theorem s_priV (B g : Nat) (w : World) (T : List ByteArray) (i : Nat) (L : List EN) (o : Nat) (h : StS B g w T i L 0 (o : Int)) (v9 : VT) (hval9 : valT (nxt (T.drop i)) = some v9) (r : Res) (hr : (L.length = 40 ∧ r = .err 6) ∨ (L.length < 40 ∧ r = .ok (.con v9.k v9.n v9.t) ((T.drop i).drop 1) (L.length + 1))) :
    Calls Tryz.prog 249 #[.pointer (some ⟨g, 0, none⟩)] w (LiveA B g T L o (r) w) := by
  have hop := (val_nocol hval9).1
  have hcn := (val_nocol hval9).2.2
  have HTK : Hid ((∀ t ∈ T, Tok t) ∧ i ≤ T.length ∧ T.length ≤ 1000 ∧ L.length ≤ 40) := h.tok
  have HLB : Hid (B ≤ g) := h.base
  have HLG : Hid (g < w.heap.size) := h.lt
  have C := s_takeN ⟨#[40]⟩ B g w T i L 0 (o : Int) h rfl hop
  obtain ⟨t, ht⟩ : ∃ t, nxt (T.drop i) = t := ⟨_, rfl⟩
  have HNX : Hid (nxt (T.drop i) = t) := ht
  have HTT : Hid (Tok t) := by unfold Hid; rw [← ht]; exact tok_at HTK.out.1 i
  go_enter Tryz.func249, Tryz.ntmps249
  go_wp2_with fail
  refine C.mono ?_
  rintro e w1 ⟨rfl, hs1, hb1⟩
  have C2 := s_next B g w1 T i L (0) ((o : Int)) hs1
  rw [ht] at C2
  have HB1 : Hid (Below w.heap.size w w1) := hb1
  clear C hb1 ht hs1
  go_wp2_with fail
  refine C2.mono ?_
  rintro e w2 ⟨rfl, hs2, hb2⟩
  have HB2 : Hid (Below w.heap.size w w2) := HB1.out.trans (hb2.mono HB1.out.size)
  clear C2 hb2 HB1
  go_wp2_with fail
  refine (c_cols w2).mono ?_
  rintro e w3 ⟨rfl, hw3⟩
  have HS3 : Hid (StS B g w3 T i L (0) ((o : Int))) := by unfold Hid; rw [hw3]; exact hs2.below ((Below.refl _ _).alloc (Nat.le_refl _) _)
  have KC : Hid (ColC w2.heap.size w3) := by unfold Hid; rw [hw3]; exact ⟨(Box.new _ _ _).cell 0, (Box.new _ _ _).cell 1, (Box.new _ _ _).cell 2⟩
  have HB3 : Hid (Below w.heap.size w w3) := by unfold Hid; rw [hw3]; exact HB2.out.alloc HB2.out.size _
  obtain ⟨gc, hgc⟩ : ∃ gc, w2.heap.size = gc := ⟨_, rfl⟩
  rw [hgc] at KC ⊢
  have HCN : Hid (∀ m : Nat, m < 3 → t ≠ clT (m : Int)) := fun m hm e => col_none hcn m hm (HNX.out.trans e)
  have HVL : Hid (valT t = some v9) := by unfold Hid; rw [← HNX.out]; exact hval9
  have HR : Hid ((L.length = 40 ∧ r = .err 6) ∨ (L.length < 40 ∧ r = .ok (.con v9.k v9.n v9.t) ((T.drop i).drop 1) (L.length + 1))) := hr
  clear hs2 hw3 HB2 hgc h hcn hval9 hop hr
  go_wp2_with fail
  go_loopw [6] (fun x wr => ∃ j : Nat, j ≤ 3 ∧ x = .int .i64 (j : Int) ∧ StS B g wr T i L (0) ((o : Int)) ∧ Below w3.heap.size w3 wr) (fun x _ => 3 - (intOf x).toNat)
  case atStart => exact ⟨0, by omega, rfl, HS3.out, Below.refl _ _⟩
  case round =>
    obtain ⟨j, hj, rfl, hsr, hbr⟩ := hrel
    have HSR : Hid (StS B g wr T i L (0) ((o : Int))) := hsr
    have HBR : Hid (Below w3.heap.size w3 wr) := hbr
    clear hsr hbr
    by_cases hlt : j < 3
    · skip
      have kc := (KC.out.below HBR.out).get j (by omega)
      obtain ⟨y, hy⟩ : ∃ y, clT (j : Int) = y := ⟨_, rfl⟩
      rw [hy] at kc
      have C := s_takeN y B g wr T i L 0 (o : Int) HSR.out rfl (fun e => HCN.out j (by omega) ((HNX.out.symm.trans e).trans hy.symm))
      have g1 : (0 : Int) ≤ (j : Int) := by omega
      have g2 : (j : Int) < 3 := by omega
      have g3 : IntKind.i64.wrap ((j : Int) + 1) = (j : Int) + 1 := by simp [IntKind.wrap_i64]; omega
      clear hy
      go_wp2_with fail
      refine C.mono ?_
      rintro e w4 ⟨rfl, hs4, hb4⟩
      have HS4 : Hid (StS B g w4 T i L (0) ((o : Int))) := hs4
      have HB4 : Hid (Below w3.heap.size w3 w4) := HBR.out.trans (hb4.mono HBR.out.size)
      clear C hs4 hb4 kc
      go_wp2
      go_roundw
      case rel => exact ⟨j + 1, by omega, by go_num, HS4.out, HB4.out⟩
      case measure => simp [intOf]; omega
    · skip
      have g2 : ¬ (j : Int) < 3 := by omega
      have C := s_lv t wr HTT.out
      go_wp2_with fail
      refine C.mono ?_
      rintro e w4 ⟨⟨k, m, u, rfl, hv⟩, hb4⟩
      have hs4 : StS B g w4 T i L (0) ((o : Int)) := HSR.out.below hb4
      have HB4 : Hid (Below w.heap.size w w4) := HB3.out.trans ((HBR.out.trans (hb4.mono HBR.out.size)).mono HB3.out.size)
      have lB := hs4.base
      have lg := hs4.lt
      clear C hb4 HBR HSR KC HS3
      obtain ⟨V, hV⟩ : ∃ Q, w4.alloc (.cells #[.int .i64 k, .int .i64 m, .string u] 31) = Q := ⟨_, rfl⟩
      have bV : Below w4.heap.size w4 V := by rw [← hV]; exact (Below.refl _ _).alloc (Nat.le_refl _) _
      have sV : StS B g V T i L (0) ((o : Int)) := hs4.below bV
      have XV : Hid (Box V w4.heap.size 31 #[.int .i64 k, .int .i64 m, .string u]) := by unfold Hid; rw [← hV]; exact Box.new _ _ _
      have lw : B ≤ w.heap.size := Nat.le_trans HLB.out (Nat.le_of_lt HLG.out)
      have BV : Hid (Below B w V) := (HB4.out.trans (bV.mono HB4.out.size)).mono lw
      cases hval : valT t with
      | none =>
        rw [show (none : Option VT).isSome = false from rfl]
        rw [HVL.out] at hval
        cases hval
      | some v =>
        obtain rfl : v = ⟨k, m, u⟩ := hv v hval
        rw [show (some (⟨k, m, u⟩ : VT)).isSome = true from rfl]
        have hil : i < T.length := by
          have := valT_pos (T := T.drop i) (by rw [HNX.out]; exact hval)
          rw [List.length_drop] at this; omega
        obtain ⟨b0, d0, b, cap', hxV, _, _, _, _, hT9, _⟩ := sV
        obtain ⟨y0, y1, y2, y3, y4⟩ := box5 hxV
        have t1 := hxV.thaw 1
        have g4 : IntKind.i64.wrap ((i : Int) + 1) = (i : Int) + 1 := by simp [IntKind.wrap_i64]; omega
        have sV2 : StS B g V T i L (0) ((o : Int)) := hs4.below bV
        obtain ⟨V2, hV2⟩ : ∃ Q, V.setCell ⟨g, 1, none⟩ (.int .i64 ((i : Int) + 1)) = Q := ⟨_, rfl⟩
        have s2 : StS B g V2 T (i + 1) L (0) ((o : Int)) := by
          have := sV2.put1 (k := i + 1) (by omega)
          rw [Int.natCast_add] at this
          rw [← hV2]; exact this
        have B2 : Hid (Below B w V2) := by unfold Hid; rw [← hV2]; exact BV.out.setCell (p := ⟨g, 1, none⟩) lB _
        have X2 : Hid (Box V2 w4.heap.size 31 #[.int .i64 k, .int .i64 m, .string u]) := by unfold Hid; rw [← hV2]; exact Box.setOther XV.out ⟨g, 1, none⟩ _ (show w4.heap.size ≠ g by omega)
        obtain ⟨v0, v1, v2⟩ := box3 X2.out
        have l2 := X2.out.lt
        have hv9 : v9 = ⟨k, m, u⟩ := Option.some.inj (HVL.out.symm.trans hval)
        clear hval hxV sV2 bV hs4
        rcases HR.out with ⟨h40, rfl⟩ | ⟨h40, rfl⟩
        · have C := s_putM ⟨1, 0, 0, 0, k, m, u⟩ B g V2 T (i + 1) L 0 (o : Int) s2 rfl h40
          clear s2 HR h40 hv9
          go_wp2_with fail
          refine C.mono ?_
          rintro e w5 ⟨rfl, hs5, hb5⟩
          have HS5 : Hid (StS B g w5 T (i + 1) L 6 (o : Int)) := hs5
          have HB5 : Hid (Below B w w5) := B2.out.trans hb5
          clear C hs5 hb5 hV hV2
          go_wp2
          go_ret
          exact ⟨by decide, 0, i + 1, L, rfl, HS5.out, HB5.out⟩
        · have C := s_put ⟨1, 0, 0, 0, k, m, u⟩ B g V2 T (i + 1) L 0 (o : Int) s2 h40
          subst hv9
          clear s2 HR h40
          go_wp2_with fail
          refine C.mono ?_
          rintro e w5 ⟨rfl, hs5, hb5⟩
          have HS5 : Hid (StS B g w5 T (i + 1) (L ++ [⟨1, 0, 0, 0, k, m, u⟩]) 0 (o : Int)) := hs5
          have HB5 : Hid (Below B w w5) := B2.out.trans hb5
          clear C hs5 hb5 hV hV2
          go_wp2
          go_ret
          exact ⟨i + 1, by rw [show (((L.length + 1 : Nat) : Int) - 1) = (L.length : Int) by omega]; rfl, by rw [List.drop_drop], rfl, HS5.out, HB5.out⟩

end Go.Proofs.YtbpfpjmjmkpjoaaGreatDoor
namespace Go.Proofs.YtbpfpjmjmkpjoaaGreatDoor
open Go Go.RowKit
attribute [local go_sem ↓] Go.wp_at_zero Go.wp_at_succ

set_option linter.unusedVariables false
set_option linter.unusedSimpArgs false
set_option maxRecDepth 100000 in
set_option maxHeartbeats 8000000 in
theorem s_priB48 (B g : Nat) (w : World) (T : List ByteArray) (i : Nat) (L : List EN) (o : Nat) (h : StS B g w T i L 0 (o : Int)) (hop : nxt (T.drop i) = wOp) (ho : o = 48) (dor : DC 79) :
    Calls Tryz.prog 249 #[.pointer (some ⟨g, 0, none⟩)] w (LiveA B g T L o (.err 16) w) := by
  subst ho
  have HS0 : Hid (StS B g w T i L 0 48) := h
  have HC : ((16 : Int) == 0) = false := by decide
  have hil : i < T.length := nxt_pos2 hop (by decide)
  have HH : Hid (nxt (T.drop i) = wOp ∧ i < T.length) := ⟨hop, hil⟩
  have HD : Hid (DC 79) := dor
  clear h hop dor hil
  go_enter Tryz.func249, Tryz.ntmps249
  have C := s_takeY ⟨#[40]⟩ B g w T i L 0 48 HS0.out rfl HH.out.1 HH.out.2
  go_wp2_with fail
  refine C.mono ?_
  rintro e w1 ⟨rfl, hs1, hb1⟩
  have HS1 : Hid (StS B g w1 T (i + 1) L (0) (48)) := hs1
  have HB1 : Hid (Below B w w1) := (Below.refl _ _ : Below B w w).trans hb1
  clear C hs1 hb1
  have C := s_deepX B g w1 T (i + 1) L 0 48 HS1.out rfl rfl
  go_wp2_with fail
  refine C.mono ?_
  rintro e w2 ⟨rfl, hs2, hb2⟩
  have HS2 : Hid (StS B g w2 T T.length L (16) (49)) := hs2
  have HB2 : Hid (Below B w w2) := (HB1.out : Below B w w1).trans hb2
  clear C hs2 hb2
  have C := HD.out B g w2 T T.length L 16 49 HS2.out HC
  go_wp2_with fail
  refine C.mono ?_
  rintro e w3 ⟨z3, i3, L3, rfl, hs3, hb3⟩
  have HS3 : Hid (StS B g w3 T i3 L3 (16) (49)) := hs3
  have HB3 : Hid (Below B w w3) := (HB2.out : Below B w w2).trans hb3
  clear C hs3 hb3
  have C := s_deepB 49 B g w3 T i3 L3 16 49 HS3.out rfl (by decide) (by decide)
  go_wp2_with fail
  refine C.mono ?_
  rintro e w4 ⟨rfl, hs4, hb4⟩
  have HS4 : Hid (StS B g w4 T i3 L3 (16) (((49 : Nat) : Int) - 1)) := hs4
  have HB4 : Hid (Below B w w4) := (HB3.out : Below B w w3).trans hb4
  clear C hs4 hb4
  have C := s_takeD ⟨#[41]⟩ B g w4 T i3 L3 16 (((49 : Nat) : Int) - 1) HS4.out HC
  go_wp2_with fail
  refine C.mono ?_
  rintro e w5 ⟨rfl, hs5, hb5⟩
  have HS5 : Hid (StS B g w5 T i3 L3 (16) (((49 : Nat) : Int) - 1)) := hs5
  have HB5 : Hid (Below B w w5) := (HB4.out : Below B w w4).trans (hb5.mono (by have a1 := HS4.out.base; have a2 := HS4.out.lt; omega))
  clear C hs5 hb5
  have C := s_failX 3 B g w5 T i3 L3 16 (((49 : Nat) : Int) - 1) HS5.out HC
  go_wp2_with fail
  refine C.mono ?_
  rintro e w6 ⟨rfl, hs6, hb6⟩
  have HS6 : Hid (StS B g w6 T i3 L3 (16) (((49 : Nat) : Int) - 1)) := hs6
  have HB6 : Hid (Below B w w6) := (HB5.out : Below B w w5).trans hb6
  clear C hs6 hb6
  go_wp2
  go_ret
  exact ⟨by decide, z3, i3, L3, rfl, HS6.out, HB6.out⟩
set_option maxRecDepth 100000 in
set_option maxHeartbeats 8000000 in
theorem s_priB (B g : Nat) (w : World) (T : List ByteArray) (i : Nat) (L : List EN) (o : Nat) (h : StS B g w T i L 0 (o : Int)) (hop : nxt (T.drop i) = wOp) (ho : o < 48) (lor : SC 79 (.ch .or) (T.drop (i + 1))) (r1 : Res) (hp : Parses (.ch .or) (o + 1) (T.drop (i + 1)) L.length r1) :
    Calls Tryz.prog 249 #[.pointer (some ⟨g, 0, none⟩)] w (LiveA B g T L o (brR r1) w) := by
  have HS0 : Hid (StS B g w T i L 0 (o : Int)) := h
  have hil : i < T.length := nxt_pos2 hop (by decide)
  have HH : Hid (nxt (T.drop i) = wOp ∧ i < T.length) := ⟨hop, hil⟩
  have HD : Hid (SC 79 (.ch .or) (T.drop (i + 1))) := lor
  have HP : Hid (Parses (.ch .or) (o + 1) (T.drop (i + 1)) L.length r1) := hp
  have oi : ((o + 1 : Nat) : Int) - 1 = (o : Int) := by omega
  have OI9 : Hid (((o + 1 : Nat) : Int) - 1 = (o : Int)) := oi
  clear h hop lor hil hp oi
  go_enter Tryz.func249, Tryz.ntmps249
  have C := s_takeY ⟨#[40]⟩ B g w T i L 0 (o : Int) HS0.out rfl HH.out.1 HH.out.2
  go_wp2_with fail
  refine C.mono ?_
  rintro e w1 ⟨rfl, hs1, hb1⟩
  have HS1 : Hid (StS B g w1 T (i + 1) L (0) ((o : Int))) := hs1
  have HB1 : Hid (Below B w w1) := (Below.refl _ _ : Below B w w).trans hb1
  clear C hs1 hb1
  have C := s_deep o B g w1 T (i + 1) L 0 (o : Int) HS1.out rfl ho
  go_wp2_with fail
  refine C.mono ?_
  rintro e w2 ⟨rfl, hs2, hb2⟩
  have HS2 : Hid (StS B g w2 T (i + 1) L (0) (((o + 1 : Nat) : Int))) := by unfold Hid; rw [Int.natCast_add]; exact hs2
  have HB2 : Hid (Below B w w2) := (HB1.out : Below B w w1).trans hb2
  clear C hs2 hb2
  have C := HD.out B g w2 T (i + 1) L (o + 1) r1 HS2.out rfl (by omega) HP.out
  cases r1 with
  | err c =>
    go_wp2_with fail
    refine C.mono ?_
    rintro e w3 ⟨hc3, z3, i3, L3, rfl, hs3, hb3⟩
    have HC : (c == 0) = false := hc3
    have HS3 : Hid (StS B g w3 T i3 L3 (c) (((o + 1 : Nat) : Int))) := hs3
    have HB3 : Hid (Below B w w3) := HB2.out.trans hb3
    clear C hs3 hb3 hc3
    have C := s_deepB (o + 1) B g w3 T i3 L3 c ((o + 1 : Nat) : Int) HS3.out rfl (by omega) (by omega)
    go_wp2_with fail
    refine C.mono ?_
    rintro e w4 ⟨rfl, hs4, hb4⟩
    have HS4 : Hid (StS B g w4 T i3 L3 (c) ((o : Int))) := by unfold Hid; rw [← OI9.out]; exact hs4
    have HB4 : Hid (Below B w w4) := (HB3.out : Below B w w3).trans hb4
    clear C hs4 hb4
    have C := s_takeD ⟨#[41]⟩ B g w4 T i3 L3 c (o : Int) HS4.out HC
    go_wp2_with fail
    refine C.mono ?_
    rintro e w5 ⟨rfl, hs5, hb5⟩
    have HS5 : Hid (StS B g w5 T i3 L3 (c) ((o : Int))) := hs5
    have HB5 : Hid (Below B w w5) := (HB4.out : Below B w w4).trans (hb5.mono (by have a1 := HS4.out.base; have a2 := HS4.out.lt; omega))
    clear C hs5 hb5
    have C := s_failX 3 B g w5 T i3 L3 c (o : Int) HS5.out HC
    go_wp2_with fail
    refine C.mono ?_
    rintro e w6 ⟨rfl, hs6, hb6⟩
    have HS6 : Hid (StS B g w6 T i3 L3 (c) ((o : Int))) := hs6
    have HB6 : Hid (Below B w w6) := (HB5.out : Below B w w5).trans hb6
    clear C hs6 hb6
    go_wp2
    go_ret
    exact ⟨HC, z3, i3, L3, rfl, HS6.out, HB6.out⟩
  | ok p T1 n1 =>
    go_wp2_with fail
    refine C.mono ?_
    rintro e w3 ⟨i3, rfl, hd3, hn3, hs3, hb3⟩
    have HS3 : Hid (StS B g w3 T i3 (L ++ nodesP p L.length) (0) (((o + 1 : Nat) : Int))) := hs3
    have HB3 : Hid (Below B w w3) := HB2.out.trans hb3
    have HD3 : Hid (T.drop i3 = T1) := hd3
    have HN3 : Hid (n1 = L.length + p.cnt) := hn3
    obtain ⟨Q, hQ⟩ : ∃ Q, L ++ nodesP p L.length = Q := ⟨_, rfl⟩
    have HQ : Hid (L ++ nodesP p L.length = Q) := hQ
    rw [hQ] at HS3
    clear C hs3 hb3 hd3 hn3 hQ
    have C := s_deepB (o + 1) B g w3 T i3 Q 0 ((o + 1 : Nat) : Int) HS3.out rfl (by omega) (by omega)
    go_wp2_with fail
    refine C.mono ?_
    rintro e w4 ⟨rfl, hs4, hb4⟩
    have HS4 : Hid (StS B g w4 T i3 Q (0) ((o : Int))) := by unfold Hid; rw [← OI9.out]; exact hs4
    have HB4 : Hid (Below B w w4) := (HB3.out : Below B w w3).trans hb4
    clear C hs4 hb4
    by_cases hcl : nxt T1 = wCl
    · have E : Hid (brR (.ok p T1 n1) = .ok p (T1.drop 1) n1) := by unfold Hid brR; simp only [hcl, if_true]
      have hcl2 : nxt (T.drop i3) = wCl := by rw [HD3.out]; exact hcl
      have HCL : Hid (nxt (T.drop i3) = wCl ∧ i3 < T.length) := ⟨hcl2, nxt_pos2 hcl2 (by decide)⟩
      clear hcl hcl2
      have C := s_takeY ⟨#[41]⟩ B g w4 T i3 Q 0 (o : Int) HS4.out rfl HCL.out.1 HCL.out.2
      go_wp2_with fail
      refine C.mono ?_
      rintro e w5 ⟨rfl, hs5, hb5⟩
      have HS5 : Hid (StS B g w5 T (i3 + 1) Q (0) ((o : Int))) := hs5
      have HB5 : Hid (Below B w w5) := (HB4.out : Below B w w4).trans hb5
      clear C hs5 hb5
      go_wp2
      go_ret
      rw [E.out]
      exact ⟨i3 + 1, rfl, by rw [← HD3.out, List.drop_drop], HN3.out, by rw [HQ.out]; exact HS5.out, HB5.out⟩
    · have E : Hid (brR (.ok p T1 n1) = .err 3) := by unfold Hid brR; simp only [if_neg hcl]
      have HCL : Hid (nxt (T.drop i3) ≠ wCl) := by unfold Hid; rw [HD3.out]; exact hcl
      clear hcl
      have C := s_takeN ⟨#[41]⟩ B g w4 T i3 Q 0 (o : Int) HS4.out rfl HCL.out
      go_wp2_with fail
      refine C.mono ?_
      rintro e w5 ⟨rfl, hs5, hb5⟩
      have HS5 : Hid (StS B g w5 T i3 Q (0) ((o : Int))) := hs5
      have HB5 : Hid (Below B w w5) := (HB4.out : Below B w w4).trans (hb5.mono (by have a1 := HS4.out.base; have a2 := HS4.out.lt; omega))
      clear C hs5 hb5
      have C := s_fail 3 B g w5 T i3 Q 0 (o : Int) HS5.out rfl
      go_wp2_with fail
      refine C.mono ?_
      rintro e w6 ⟨rfl, hs6, hb6⟩
      have HS6 : Hid (StS B g w6 T i3 Q (3) ((o : Int))) := hs6
      have HB6 : Hid (Below B w w6) := (HB5.out : Below B w w5).trans hb6
      clear C hs6 hb6
      go_wp2
      go_ret
      rw [E.out]
      exact ⟨by decide, (n1 : Int) - 1, i3, Q, rfl, HS6.out, HB6.out⟩

end Go.Proofs.YtbpfpjmjmkpjoaaGreatDoor
namespace Go.Proofs.YtbpfpjmjmkpjoaaGreatDoor
open Go Go.RowKit
attribute [local go_sem ↓] Go.wp_at_zero Go.wp_at_succ

set_option linter.unusedVariables false
set_option linter.unusedSimpArgs false
theorem num_min {t : ByteArray} (ht : Tok t) : numB (⟨#[45]⟩ ++ t) = match numB t with | some n => if n = 0 then none else some (-n) | none => none := by
  have e : (⟨#[45]⟩ ++ t : ByteArray).data.toList = 45 :: t.data.toList := by rw [ByteArray.data_append]; simp
  by_cases h : t.data.toList.head? = some 45
  · have h8 : by8 t 0 = 45 := by
      unfold by8
      cases hl : t.data.toList with
      | nil => rw [hl] at h; cases h
      | cons b r => rw [hl] at h; have hb : b = 45 := Option.some.inj h; rw [hb]; rfl
    rw [ht.minus h8]
    decide
  · unfold numB
    rw [e, neg_num _ h]
    cases numT t.data.toList <;> rfl
theorem s_priL (B g : Nat) (w : World) (T : List ByteArray) (i : Nat) (L : List EN) (o : Nat) (r : Res) (h : StS B g w T i L 0 (o : Int)) (ho : o ≤ 48) (dor : DC 79) (lor : i < T.length → SC 79 (.ch .or) (T.drop (i + 1))) (hm : nxt (T.drop i) ≠ wMin) (hp : Parses .neg o (T.drop i) L.length r) :
    Calls Tryz.prog 249 #[.pointer (some ⟨g, 0, none⟩)] w (LiveA B g T L o r w) := by
  have hn : L.length ≤ 40 := h.tok.2.2.2
  rcases neg_inv hp hn with ⟨v, T1, hv, hr⟩ | ⟨hv, hr⟩
  · unfold vAt at hv
    split at hv
    · rename_i u hu
      simp only [Option.some.injEq, Prod.mk.injEq] at hv
      obtain ⟨rfl, rfl⟩ := hv
      exact s_priV B g w T i L o h u hu r hr
    · rw [if_neg hm] at hv
      cases hv
  · have hvn : valT (nxt (T.drop i)) = none := by
      unfold vAt at hv
      split at hv
      · cases hv
      · assumption
    rcases hr with ⟨h1, _⟩ | ⟨h1, _⟩ | ⟨_, h2⟩
    · exact absurd h1 hm
    · exact absurd h1 hm
    · rcases pri_inv h2 hn with ⟨h3, h4, rfl⟩ | ⟨h3, h4, r1, h5, hr1⟩ | ⟨h3, hr1⟩
      · exact s_priB48 B g w T i L o h h3 h4 dor
      · have E : r = brR r1 := by
          rcases hr1 with ⟨e, rfl, rfl⟩ | ⟨p, T1, n1, rfl, _, ⟨h5, rfl⟩ | ⟨h5, rfl⟩⟩
          · rfl
          · unfold brR; simp only [if_neg h5]
          · unfold brR; simp only [h5, if_true]
        subst E
        rw [List.drop_drop] at h5
        exact s_priB B g w T i L o h h3 h4 (lor (nxt_pos2 h3 (by decide))) r1 h5
      · rcases hr1 with ⟨k, hk, hr1⟩ | ⟨hk, rfl⟩
        · obtain ⟨hk3, hke⟩ := col_in hk
          exact s_priC B g w T i L o h h3 k hk3 hke r hr1
        · exact s_priN B g w T i L o h h3 hk hvn
set_option maxRecDepth 100000 in
set_option maxHeartbeats 8000000 in
theorem d_un : DC 247 := by
  intro B g w T i L c o h hc
  have HS0 : Hid (StS B g w T i L c o) := h
  have HC : (c == 0) = false := hc
  have HB0 : Hid (Below B w w) := Below.refl _ _
  clear h hc
  go_enter Tryz.func247, Tryz.ntmps247
  have C := s_takeD ⟨#[45]⟩ B g w T i L c o HS0.out HC
  go_wp2_with fail
  refine C.mono ?_
  rintro e w1 ⟨rfl, hs1, hb1⟩
  have HS1 : Hid (StS B g w1 T i L (c) (o)) := hs1
  have HB1 : Hid (Below B w w1) := (Below.refl _ _ : Below B w w).trans (hb1.mono (by have a1 := HS0.out.base; have a2 := HS0.out.lt; omega))
  clear C hs1 hb1
  have C := d_pri B g w1 T i L c o HS1.out HC
  go_wp2_with fail
  refine C.mono ?_
  rintro e w2 ⟨z2, i2, L2, rfl, hs2, hb2⟩
  have HS2 : Hid (StS B g w2 T i2 L2 (c) (o)) := hs2
  have HB2 : Hid (Below B w w2) := (HB1.out : Below B w w1).trans hb2
  clear C hs2 hb2
  go_wp2
  go_ret
  exact ⟨z2, i2, L2, rfl, HS2.out, HB2.out⟩
set_option maxRecDepth 100000 in
set_option maxHeartbeats 8000000 in
theorem s_unV (B g : Nat) (w : World) (T : List ByteArray) (i : Nat) (L : List EN) (o : Nat) (h : StS B g w T i L 0 (o : Int)) (hm : nxt (T.drop i) = wMin) (x : Int) (hx : numB (nxt (T.drop (i + 1))) = some x) (hx0 : x ≠ 0) (r : Res)
    (hr : (L.length = 40 ∧ r = .err 6) ∨ (L.length < 40 ∧ r = .ok (.con 1 (-x) ⟨#[]⟩) (T.drop (i + 2)) (L.length + 1))) :
    Calls Tryz.prog 247 #[.pointer (some ⟨g, 0, none⟩)] w (LiveA B g T L o r w) := by
  have HR : Hid ((L.length = 40 ∧ r = .err 6) ∨ (L.length < 40 ∧ r = .ok (.con 1 (-x) ⟨#[]⟩) (T.drop (i + 2)) (L.length + 1))) := hr
  have HX : Hid (numB (nxt (T.drop (i + 1))) = some x ∧ x ≠ 0) := ⟨hx, hx0⟩
  clear hx hx0 hr
  have HS0 : Hid (StS B g w T i L 0 (o : Int)) := h
  have HTK : Hid ((∀ t ∈ T, Tok t) ∧ i ≤ T.length ∧ T.length ≤ 1000 ∧ L.length ≤ 40) := h.tok
  have hil : i < T.length := nxt_pos2 hm (by decide)
  have HH : Hid (nxt (T.drop i) = wMin ∧ i < T.length) := ⟨hm, hil⟩
  obtain ⟨t, ht⟩ : ∃ t, nxt (T.drop (i + 1)) = t := ⟨_, rfl⟩
  have HT1 : Hid (nxt (T.drop (i + 1)) = t) := ht
  have HTT : Hid (Tok t) := by unfold Hid; rw [← ht]; exact tok_at HTK.out.1 (i + 1)
  clear h hm hil ht
  go_enter Tryz.func247, Tryz.ntmps247
  have C := s_takeY ⟨#[45]⟩ B g w T i L 0 (o : Int) HS0.out rfl HH.out.1 HH.out.2
  go_wp2_with fail
  refine C.mono ?_
  rintro e w1 ⟨rfl, hs1, hb1⟩
  have HS1 : Hid (StS B g w1 T (i + 1) L (0) ((o : Int))) := hs1
  have HB1 : Hid (Below B w w1) := (Below.refl _ _ : Below B w w).trans hb1
  clear C hs1 hb1
  have C := s_next B g w1 T (i + 1) L 0 (o : Int) HS1.out
  rw [HT1.out] at C
  go_wp2_with fail
  refine C.mono ?_
  rintro e w2 ⟨rfl, hs2, hb2⟩
  have HS2 : Hid (StS B g w2 T (i + 1) L (0) ((o : Int))) := hs2
  have HB2 : Hid (Below B w w2) := (HB1.out : Below B w w1).trans (hb2.mono (by have a1 := HS1.out.base; have a2 := HS1.out.lt; omega))
  clear C hs2 hb2
  obtain ⟨u, hu⟩ : ∃ u : ByteArray, ⟨#[45]⟩ ++ t = u := ⟨_, rfl⟩
  have HU : Hid (⟨#[45]⟩ ++ t = u) := hu
  have us : u.size ≤ 70000 := by rw [← hu, ByteArray.size_append]; have := HTT.out.size; have : (⟨#[45]⟩ : ByteArray).size = 1 := rfl; omega
  have tz := HTT.out.size
  have C := s_ln u w2 us
  have NM : Hid (numB u = match numB t with | some n => if n = 0 then none else some (-n) | none => none) := by unfold Hid; rw [← hu]; exact num_min HTT.out
  clear us
  go_wp2_with fail
  refine C.mono ?_
  rintro e w3 ⟨⟨z, rfl, hz⟩, hb3⟩
  have HS3 : Hid (StS B g w3 T (i + 1) L 0 (o : Int)) := HS2.out.below hb3
  have HB3 : Hid (Below B w w3) := HB2.out.trans (hb3.mono (by have a1 := HS2.out.base; have a2 := HS2.out.lt; omega))
  clear C hb3
  have hn : numB u = some (-x) := by rw [NM.out, ← HT1.out, HX.out.1]; exact if_neg HX.out.2
  obtain rfl : z = -x := hz _ hn
  have HIL : Hid (i + 1 < T.length) := by
    have h1 := numB_pos HX.out.1
    rw [List.length_drop] at h1
    show i + 1 < T.length
    omega
  rw [hn, show (some (-x) : Option Int).isSome = true from rfl]
  obtain ⟨z, hzx⟩ : ∃ z, -x = z := ⟨_, rfl⟩
  have HZX : Hid (-x = z) := hzx
  rw [hzx]
  clear hz hn hzx hu
  obtain ⟨U6, hU6⟩ : ∃ Q, w3.alloc (.cells #[.int .i64 1, .int .i64 z, .string ⟨#[]⟩] 31) = Q := ⟨_, rfl⟩
  have b5 : Below w3.heap.size w3 U6 := by rw [← hU6]; exact (Below.refl _ _).alloc (Nat.le_refl _) _
  have Z6 : Box U6 w3.heap.size 31 #[.int .i64 1, .int .i64 z, .string ⟨#[]⟩] := by rw [← hU6]; exact Box.new _ _ _
  obtain ⟨z9, z8, z7⟩ := box3 Z6
  have f2 := Z6.thaw 2
  obtain ⟨V6, hV6⟩ : ∃ Q, U6.setCell ⟨w3.heap.size, 2, none⟩ (.string ⟨#[]⟩) = Q := ⟨_, rfl⟩
  have b6 : Below w3.heap.size w3 V6 := by rw [← hV6]; exact b5.setCell (p := ⟨w3.heap.size, 2, none⟩) (Nat.le_refl _) _
  have Y6 : Hid (Box V6 w3.heap.size 31 #[.int .i64 1, .int .i64 z, .string ⟨#[]⟩]) := by
    unfold Hid; rw [← hV6]
    have := Z6.set 2 (.string ⟨#[]⟩)
    simpa using this
  have lB3 := HS3.out.base
  have lg3 := HS3.out.lt
  have HS6 : Hid (StS B g V6 T (i + 1) L 0 (o : Int)) := HS3.out.below b6
  have HB6 : Hid (Below B w V6) := HB3.out.trans (b6.mono (by omega))
  obtain ⟨b0, d0, b, cap', hxV, _, _, _, _, hT9, _⟩ := HS6.out
  obtain ⟨y0, y1, y2, y3, y4⟩ := box5 hxV
  have t1 := hxV.thaw 1
  have g4 : IntKind.i64.wrap (((i + 1 : Nat) : Int) + 1) = ((i + 1 : Nat) : Int) + 1 := by simp [IntKind.wrap_i64]; have := HIL.out; omega
  obtain ⟨k1, hk1⟩ : ∃ k1 : Nat, i + 1 = k1 := ⟨_, rfl⟩
  have HK1 : Hid (i + 1 = k1) := hk1
  rw [hk1] at y1 g4
  have lg6 := HS6.out.lt
  have l36 : w3.heap.size < V6.heap.size := Y6.out.lt
  obtain ⟨V7, hV7⟩ : ∃ Q, V6.setCell ⟨g, 1, none⟩ (.int .i64 ((k1 : Int) + 1)) = Q := ⟨_, rfl⟩
  have s7 : StS B g V7 T (k1 + 1) L 0 (o : Int) := by
    have := HS6.out.put1 (k := k1 + 1) (by have := HIL.out; omega)
    rw [Int.natCast_add] at this
    rw [← hV7]; exact this
  have HB7 : Hid (Below B w V7) := by unfold Hid; rw [← hV7]; exact HB6.out.setCell (p := ⟨g, 1, none⟩) lB3 _
  have X7 : Hid (Box V7 w3.heap.size 31 #[.int .i64 1, .int .i64 z, .string ⟨#[]⟩]) := by unfold Hid; rw [← hV7]; exact Box.setOther Y6.out ⟨g, 1, none⟩ _ (show w3.heap.size ≠ g by omega)
  obtain ⟨v0, v1, v2⟩ := box3 X7.out
  have l7 := X7.out.lt
  clear hxV b5 b6 Z6 hk1
  rcases HR.out with ⟨h40, rfl⟩ | ⟨h40, rfl⟩
  · have C := s_putM ⟨1, 0, 0, 0, 1, z, ⟨#[]⟩⟩ B g V7 T (k1 + 1) L 0 (o : Int) s7 rfl h40
    clear s7 HR h40
    go_wp2_with fail
    refine C.mono ?_
    rintro e w8 ⟨rfl, hs8, hb8⟩
    have HS8 : Hid (StS B g w8 T (k1 + 1) L 6 (o : Int)) := hs8
    have HB8 : Hid (Below B w w8) := HB7.out.trans hb8
    clear C hs8 hb8 hV6 hV7 hU6
    go_wp2
    go_ret
    exact ⟨by decide, 0, k1 + 1, L, rfl, HS8.out, HB8.out⟩
  · have C := s_put ⟨1, 0, 0, 0, 1, z, ⟨#[]⟩⟩ B g V7 T (k1 + 1) L 0 (o : Int) s7 h40
    clear s7 HR h40
    go_wp2_with fail
    refine C.mono ?_
    rintro e w8 ⟨rfl, hs8, hb8⟩
    have HS8 : Hid (StS B g w8 T (k1 + 1) (L ++ [⟨1, 0, 0, 0, 1, z, ⟨#[]⟩⟩]) 0 (o : Int)) := hs8
    have HB8 : Hid (Below B w w8) := HB7.out.trans hb8
    clear C hs8 hb8 hV6 hV7 hU6
    go_wp2
    go_ret
    exact ⟨k1 + 1, by rw [show (((L.length + 1 : Nat) : Int) - 1) = (L.length : Int) by omega]; rfl, by rw [← HK1.out], rfl, by rw [HZX.out]; exact HS8.out, HB8.out⟩
set_option maxRecDepth 100000 in
set_option maxHeartbeats 8000000 in
theorem s_un48 (B g : Nat) (w : World) (T : List ByteArray) (i : Nat) (L : List EN) (o : Nat) (h : StS B g w T i L 0 (o : Int)) (hm : nxt (T.drop i) = wMin) (ho : o = 48)
    (hxn : (match numB (nxt (T.drop (i + 1))) with | some n => if n = 0 then none else some (-n) | none => none) = (none : Option Int)) :
    Calls Tryz.prog 247 #[.pointer (some ⟨g, 0, none⟩)] w (LiveA B g T L o (.err 16) w) := by
  have HXN : Hid ((match numB (nxt (T.drop (i + 1))) with | some n => if n = 0 then none else some (-n) | none => none) = (none : Option Int)) := hxn
  have HO : Hid ((o : Int) = 48) := by unfold Hid; omega
  have HC : ((16 : Int) == 0) = false := by decide
  clear hxn ho
  have HS0 : Hid (StS B g w T i L 0 (o : Int)) := h
  have HTK : Hid ((∀ t ∈ T, Tok t) ∧ i ≤ T.length ∧ T.length ≤ 1000 ∧ L.length ≤ 40) := h.tok
  have hil : i < T.length := nxt_pos2 hm (by decide)
  have HH : Hid (nxt (T.drop i) = wMin ∧ i < T.length) := ⟨hm, hil⟩
  obtain ⟨t, ht⟩ : ∃ t, nxt (T.drop (i + 1)) = t := ⟨_, rfl⟩
  have HT1 : Hid (nxt (T.drop (i + 1)) = t) := ht
  have HTT : Hid (Tok t) := by unfold Hid; rw [← ht]; exact tok_at HTK.out.1 (i + 1)
  clear h hm hil ht
  go_enter Tryz.func247, Tryz.ntmps247
  have C := s_takeY ⟨#[45]⟩ B g w T i L 0 (o : Int) HS0.out rfl HH.out.1 HH.out.2
  go_wp2_with fail
  refine C.mono ?_
  rintro e w1 ⟨rfl, hs1, hb1⟩
  have HS1 : Hid (StS B g w1 T (i + 1) L (0) ((o : Int))) := hs1
  have HB1 : Hid (Below B w w1) := (Below.refl _ _ : Below B w w).trans hb1
  clear C hs1 hb1
  have C := s_next B g w1 T (i + 1) L 0 (o : Int) HS1.out
  rw [HT1.out] at C
  go_wp2_with fail
  refine C.mono ?_
  rintro e w2 ⟨rfl, hs2, hb2⟩
  have HS2 : Hid (StS B g w2 T (i + 1) L (0) ((o : Int))) := hs2
  have HB2 : Hid (Below B w w2) := (HB1.out : Below B w w1).trans (hb2.mono (by have a1 := HS1.out.base; have a2 := HS1.out.lt; omega))
  clear C hs2 hb2
  obtain ⟨u, hu⟩ : ∃ u : ByteArray, ⟨#[45]⟩ ++ t = u := ⟨_, rfl⟩
  have HU : Hid (⟨#[45]⟩ ++ t = u) := hu
  have us : u.size ≤ 70000 := by rw [← hu, ByteArray.size_append]; have := HTT.out.size; have : (⟨#[45]⟩ : ByteArray).size = 1 := rfl; omega
  have tz := HTT.out.size
  have C := s_ln u w2 us
  have NM : Hid (numB u = match numB t with | some n => if n = 0 then none else some (-n) | none => none) := by unfold Hid; rw [← hu]; exact num_min HTT.out
  clear us
  go_wp2_with fail
  refine C.mono ?_
  rintro e w3 ⟨⟨z, rfl, hz⟩, hb3⟩
  have HS3 : Hid (StS B g w3 T (i + 1) L 0 (o : Int)) := HS2.out.below hb3
  have HB3 : Hid (Below B w w3) := HB2.out.trans (hb3.mono (by have a1 := HS2.out.base; have a2 := HS2.out.lt; omega))
  clear C hb3
  have hn : numB u = none := by rw [NM.out, ← HT1.out]; exact HXN.out
  rw [hn, show (none : Option Int).isSome = false from rfl]
  clear hz hn hu
  obtain ⟨U6, hU6⟩ : ∃ Q, w3.alloc (.cells #[.int .i64 1, .int .i64 z, .string ⟨#[]⟩] 31) = Q := ⟨_, rfl⟩
  have b5 : Below w3.heap.size w3 U6 := by rw [← hU6]; exact (Below.refl _ _).alloc (Nat.le_refl _) _
  have Z6 : Box U6 w3.heap.size 31 #[.int .i64 1, .int .i64 z, .string ⟨#[]⟩] := by rw [← hU6]; exact Box.new _ _ _
  obtain ⟨z9, z8, z7⟩ := box3 Z6
  have f2 := Z6.thaw 2
  obtain ⟨V6, hV6⟩ : ∃ Q, U6.setCell ⟨w3.heap.size, 2, none⟩ (.string ⟨#[]⟩) = Q := ⟨_, rfl⟩
  have b6 : Below w3.heap.size w3 V6 := by rw [← hV6]; exact b5.setCell (p := ⟨w3.heap.size, 2, none⟩) (Nat.le_refl _) _
  have Y6 : Hid (Box V6 w3.heap.size 31 #[.int .i64 1, .int .i64 z, .string ⟨#[]⟩]) := by
    unfold Hid; rw [← hV6]
    have := Z6.set 2 (.string ⟨#[]⟩)
    simpa using this
  have lB3 := HS3.out.base
  have lg3 := HS3.out.lt
  have HS6 : Hid (StS B g V6 T (i + 1) L 0 (o : Int)) := HS3.out.below b6
  have HB6 : Hid (Below B w V6) := HB3.out.trans (b6.mono (by omega))
  clear b5 b6 Z6
  have C := s_deepX B g V6 T (i + 1) L 0 (o : Int) HS6.out HO.out rfl
  go_wp2_with fail
  refine C.mono ?_
  rintro e w7 ⟨rfl, hs7, hb7⟩
  have HS7 : Hid (StS B g w7 T T.length L (16) (49)) := hs7
  have HB7 : Hid (Below B w w7) := (HB6.out : Below B w V6).trans hb7
  clear C hs7 hb7
  clear hV6 hU6
  have C := d_un B g w7 T T.length L 16 49 HS7.out HC
  go_wp2_with fail
  refine C.mono ?_
  rintro e w8 ⟨z8, i8, L8, rfl, hs8, hb8⟩
  have HS8 : Hid (StS B g w8 T i8 L8 (16) (49)) := hs8
  have HB8 : Hid (Below B w w8) := (HB7.out : Below B w w7).trans hb8
  clear C hs8 hb8
  have C := s_deepB 49 B g w8 T i8 L8 16 49 HS8.out rfl (by decide) (by decide)
  go_wp2_with fail
  refine C.mono ?_
  rintro e w9 ⟨rfl, hs9, hb9⟩
  have HS9 : Hid (StS B g w9 T i8 L8 (16) (((49 : Nat) : Int) - 1)) := hs9
  have HB9 : Hid (Below B w w9) := (HB8.out : Below B w w8).trans hb9
  clear C hs9 hb9
  have C := s_putD ⟨5, z8, 0, 0, 0, 0, ⟨#[]⟩⟩ B g w9 T i8 L8 (16) (((49 : Nat) : Int) - 1) HS9.out HC
  go_wp2_with fail
  refine C.mono ?_
  rintro e w10 ⟨z10, L10, rfl, hs10, hb10⟩
  have HS10 : Hid (StS B g w10 T i8 L10 (16) (((49 : Nat) : Int) - 1)) := hs10
  have HB10 : Hid (Below B w w10) := HB9.out.trans hb10
  clear C hs10 hb10
  go_wp2
  go_ret
  exact ⟨HC, z10, i8, L10, rfl, by rw [HO.out]; exact HS10.out, HB10.out⟩
set_option maxRecDepth 100000 in
set_option maxHeartbeats 8000000 in
theorem s_unO (B g : Nat) (w : World) (T : List ByteArray) (i : Nat) (L : List EN) (o : Nat) (h : StS B g w T i L 0 (o : Int)) (hm : nxt (T.drop i) = wMin) (ho : o < 48)
    (hxn : (match numB (nxt (T.drop (i + 1))) with | some n => if n = 0 then none else some (-n) | none => none) = (none : Option Int))
    (lun : SC 247 .neg (T.drop (i + 1))) (r1 : Res) (hp : Parses .neg (o + 1) (T.drop (i + 1)) L.length r1) (hf : r1.fits) :
    Calls Tryz.prog 247 #[.pointer (some ⟨g, 0, none⟩)] w (LiveA B g T L o (unR 5 r1) w) := by
  have HXN : Hid ((match numB (nxt (T.drop (i + 1))) with | some n => if n = 0 then none else some (-n) | none => none) = (none : Option Int)) := hxn
  have HLU : Hid (SC 247 .neg (T.drop (i + 1))) := lun
  have HP : Hid (Parses .neg (o + 1) (T.drop (i + 1)) L.length r1) := hp
  have OI9 : Hid (((o + 1 : Nat) : Int) - 1 = (o : Int)) := by unfold Hid; omega
  clear hxn lun hp
  have HS0 : Hid (StS B g w T i L 0 (o : Int)) := h
  have HTK : Hid ((∀ t ∈ T, Tok t) ∧ i ≤ T.length ∧ T.length ≤ 1000 ∧ L.length ≤ 40) := h.tok
  have hil : i < T.length := nxt_pos2 hm (by decide)
  have HH : Hid (nxt (T.drop i) = wMin ∧ i < T.length) := ⟨hm, hil⟩
  obtain ⟨t, ht⟩ : ∃ t, nxt (T.drop (i + 1)) = t := ⟨_, rfl⟩
  have HT1 : Hid (nxt (T.drop (i + 1)) = t) := ht
  have HTT : Hid (Tok t) := by unfold Hid; rw [← ht]; exact tok_at HTK.out.1 (i + 1)
  clear h hm hil ht
  go_enter Tryz.func247, Tryz.ntmps247
  have C := s_takeY ⟨#[45]⟩ B g w T i L 0 (o : Int) HS0.out rfl HH.out.1 HH.out.2
  go_wp2_with fail
  refine C.mono ?_
  rintro e w1 ⟨rfl, hs1, hb1⟩
  have HS1 : Hid (StS B g w1 T (i + 1) L (0) ((o : Int))) := hs1
  have HB1 : Hid (Below B w w1) := (Below.refl _ _ : Below B w w).trans hb1
  clear C hs1 hb1
  have C := s_next B g w1 T (i + 1) L 0 (o : Int) HS1.out
  rw [HT1.out] at C
  go_wp2_with fail
  refine C.mono ?_
  rintro e w2 ⟨rfl, hs2, hb2⟩
  have HS2 : Hid (StS B g w2 T (i + 1) L (0) ((o : Int))) := hs2
  have HB2 : Hid (Below B w w2) := (HB1.out : Below B w w1).trans (hb2.mono (by have a1 := HS1.out.base; have a2 := HS1.out.lt; omega))
  clear C hs2 hb2
  obtain ⟨u, hu⟩ : ∃ u : ByteArray, ⟨#[45]⟩ ++ t = u := ⟨_, rfl⟩
  have HU : Hid (⟨#[45]⟩ ++ t = u) := hu
  have us : u.size ≤ 70000 := by rw [← hu, ByteArray.size_append]; have := HTT.out.size; have : (⟨#[45]⟩ : ByteArray).size = 1 := rfl; omega
  have tz := HTT.out.size
  have C := s_ln u w2 us
  have NM : Hid (numB u = match numB t with | some n => if n = 0 then none else some (-n) | none => none) := by unfold Hid; rw [← hu]; exact num_min HTT.out
  clear us
  go_wp2_with fail
  refine C.mono ?_
  rintro e w3 ⟨⟨z, rfl, hz⟩, hb3⟩
  have HS3 : Hid (StS B g w3 T (i + 1) L 0 (o : Int)) := HS2.out.below hb3
  have HB3 : Hid (Below B w w3) := HB2.out.trans (hb3.mono (by have a1 := HS2.out.base; have a2 := HS2.out.lt; omega))
  clear C hb3
  have hn : numB u = none := by rw [NM.out, ← HT1.out]; exact HXN.out
  rw [hn, show (none : Option Int).isSome = false from rfl]
  clear hz hn hu
  obtain ⟨U6, hU6⟩ : ∃ Q, w3.alloc (.cells #[.int .i64 1, .int .i64 z, .string ⟨#[]⟩] 31) = Q := ⟨_, rfl⟩
  have b5 : Below w3.heap.size w3 U6 := by rw [← hU6]; exact (Below.refl _ _).alloc (Nat.le_refl _) _
  have Z6 : Box U6 w3.heap.size 31 #[.int .i64 1, .int .i64 z, .string ⟨#[]⟩] := by rw [← hU6]; exact Box.new _ _ _
  obtain ⟨z9, z8, z7⟩ := box3 Z6
  have f2 := Z6.thaw 2
  obtain ⟨V6, hV6⟩ : ∃ Q, U6.setCell ⟨w3.heap.size, 2, none⟩ (.string ⟨#[]⟩) = Q := ⟨_, rfl⟩
  have b6 : Below w3.heap.size w3 V6 := by rw [← hV6]; exact b5.setCell (p := ⟨w3.heap.size, 2, none⟩) (Nat.le_refl _) _
  have Y6 : Hid (Box V6 w3.heap.size 31 #[.int .i64 1, .int .i64 z, .string ⟨#[]⟩]) := by
    unfold Hid; rw [← hV6]
    have := Z6.set 2 (.string ⟨#[]⟩)
    simpa using this
  have lB3 := HS3.out.base
  have lg3 := HS3.out.lt
  have HS6 : Hid (StS B g V6 T (i + 1) L 0 (o : Int)) := HS3.out.below b6
  have HB6 : Hid (Below B w V6) := HB3.out.trans (b6.mono (by omega))
  clear b5 b6 Z6
  have C := s_deep o B g V6 T (i + 1) L 0 (o : Int) HS6.out rfl ho
  go_wp2_with fail
  refine C.mono ?_
  rintro e w7 ⟨rfl, hs7, hb7⟩
  have HS7 : Hid (StS B g w7 T (i + 1) L (0) (((o + 1 : Nat) : Int))) := by unfold Hid; rw [Int.natCast_add]; exact hs7
  have HB7 : Hid (Below B w w7) := (HB6.out : Below B w V6).trans hb7
  clear C hs7 hb7
  clear hV6 hU6
  have C := HLU.out B g w7 T (i + 1) L (o + 1) r1 HS7.out rfl (by omega) HP.out
  cases r1 with
  | err c =>
    go_wp2_with fail
    refine C.mono ?_
    rintro e w8 ⟨hc8, z8, i8, L8, rfl, hs8, hb8⟩
    have HC : (c == 0) = false := hc8
    have HS8 : Hid (StS B g w8 T i8 L8 (c) (((o + 1 : Nat) : Int))) := hs8
    have HB8 : Hid (Below B w w8) := HB7.out.trans hb8
    clear C hs8 hb8 hc8
    have C := s_deepB (o + 1) B g w8 T i8 L8 c ((o + 1 : Nat) : Int) HS8.out rfl (by omega) (by omega)
    go_wp2_with fail
    refine C.mono ?_
    rintro e w9 ⟨rfl, hs9, hb9⟩
    have HS9 : Hid (StS B g w9 T i8 L8 (c) ((o : Int))) := by unfold Hid; rw [← OI9.out]; exact hs9
    have HB9 : Hid (Below B w w9) := (HB8.out : Below B w w8).trans hb9
    clear C hs9 hb9
    have C := s_putD ⟨5, z8, 0, 0, 0, 0, ⟨#[]⟩⟩ B g w9 T i8 L8 (c) ((o : Int)) HS9.out HC
    go_wp2_with fail
    refine C.mono ?_
    rintro e w10 ⟨z10, L10, rfl, hs10, hb10⟩
    have HS10 : Hid (StS B g w10 T i8 L10 (c) ((o : Int))) := hs10
    have HB10 : Hid (Below B w w10) := HB9.out.trans hb10
    clear C hs10 hb10
    go_wp2
    go_ret
    exact ⟨HC, z10, i8, L10, rfl, HS10.out, HB10.out⟩
  | ok p T1 n1 =>
    have hn9 : n1 ≤ 40 := hf
    go_wp2_with fail
    refine C.mono ?_
    rintro e w8 ⟨i8, rfl, hd8, hn8, hs8, hb8⟩
    have HS8 : Hid (StS B g w8 T i8 (L ++ nodesP p L.length) (0) (((o + 1 : Nat) : Int))) := hs8
    have HB8 : Hid (Below B w w8) := HB7.out.trans hb8
    have HD8 : Hid (T.drop i8 = T1) := hd8
    have HN8 : Hid (n1 = L.length + p.cnt) := hn8
    obtain ⟨Q, hQ⟩ : ∃ Q, L ++ nodesP p L.length = Q := ⟨_, rfl⟩
    have HQ : Hid (L ++ nodesP p L.length = Q) := hQ
    have HQL : Hid (Q.length = n1) := by unfold Hid; rw [← hQ, List.length_append, nodes_len, hn8]
    rw [hQ] at HS8
    clear C hs8 hb8 hd8 hn8 hQ
    have C := s_deepB (o + 1) B g w8 T i8 Q 0 ((o + 1 : Nat) : Int) HS8.out rfl (by omega) (by omega)
    go_wp2_with fail
    refine C.mono ?_
    rintro e w9 ⟨rfl, hs9, hb9⟩
    have HS9 : Hid (StS B g w9 T i8 Q (0) ((o : Int))) := by unfold Hid; rw [← OI9.out]; exact hs9
    have HB9 : Hid (Below B w w9) := (HB8.out : Below B w w8).trans hb9
    clear C hs9 hb9
    by_cases h4 : n1 = 40
    · have E : Hid (unR 5 (.ok p T1 n1) = .err 6) := by unfold Hid unR; simp only [h4, if_true]
      have HQ4 : Hid (Q.length = 40) := HQL.out.trans h4
      clear h4
      have C := s_putM ⟨5, (n1 : Int) - 1, 0, 0, 0, 0, ⟨#[]⟩⟩ B g w9 T i8 Q 0 (o : Int) HS9.out rfl HQ4.out
      go_wp2_with fail
      refine C.mono ?_
      rintro e w10 ⟨rfl, hs10, hb10⟩
      have HS10 : Hid (StS B g w10 T i8 Q (6) ((o : Int))) := hs10
      have HB10 : Hid (Below B w w10) := (HB9.out : Below B w w9).trans hb10
      clear C hs10 hb10
      go_wp2
      go_ret
      rw [E.out]
      exact ⟨by decide, 0, i8, Q, rfl, HS10.out, HB10.out⟩
    · have E : Hid (unR 5 (.ok p T1 n1) = .ok (.una 5 p) T1 (n1 + 1)) := by unfold Hid unR; simp only [if_neg h4]
      have HQ4 : Hid (Q.length < 40) := by unfold Hid; rw [HQL.out]; omega
      clear h4
      have C := s_put ⟨5, (n1 : Int) - 1, 0, 0, 0, 0, ⟨#[]⟩⟩ B g w9 T i8 Q 0 (o : Int) HS9.out HQ4.out
      go_wp2_with fail
      refine C.mono ?_
      rintro e w10 ⟨rfl, hs10, hb10⟩
      have HS10 : Hid (StS B g w10 T i8 (Q ++ [⟨5, (n1 : Int) - 1, 0, 0, 0, 0, ⟨#[]⟩⟩]) (0) ((o : Int))) := hs10
      have HB10 : Hid (Below B w w10) := (HB9.out : Below B w w9).trans hb10
      clear C hs10 hb10
      go_wp2
      go_ret
      rw [E.out]
      have EN9 : Q ++ [(⟨5, (n1 : Int) - 1, 0, 0, 0, 0, ⟨#[]⟩⟩ : EN)] = L ++ nodesP (.una 5 p) L.length := by
        have q := HN8.out
        rw [← HQ.out, nodesP, nodes_len, ← List.append_assoc, q]
      exact ⟨i8, by rw [HQL.out, show (((n1 + 1 : Nat) : Int) - 1) = (n1 : Int) by omega]; rfl, HD8.out, by have q := HN8.out; simp only [PT.cnt]; omega, by rw [← EN9]; exact HS10.out, HB10.out⟩
theorem s_un (T' : List ByteArray) (dor : DC 79) (lor : ∀ T2, T2.length < T'.length → SC 79 (.ch .or) T2) (lun : ∀ T2, T2.length < T'.length → SC 247 .neg T2) (pr : ∀ (B g : Nat) (w : World) (T : List ByteArray) (i : Nat) (L : List EN) (o : Nat) (r : Res), StS B g w T i L 0 (o : Int) → T.drop i = T' → o ≤ 48 → nxt T' ≠ wMin → Parses .neg o T' L.length r → Calls Tryz.prog 247 #[.pointer (some ⟨g, 0, none⟩)] w (LiveA B g T L o r w)) : SC 247 .neg T' := by
  intro B g w T i L o r h hd ho hp
  by_cases hm : nxt T' = wMin
  · subst hd
    have hn : L.length ≤ 40 := h.tok.2.2.2
    have hil := nxt_pos2 hm (by decide)
    have hlt : (T.drop (i + 1)).length < (T.drop i).length := by rw [List.length_drop, List.length_drop]; omega
    have e1 : valT (nxt (T.drop i)) = none := by rw [hm]; decide
    have dd : (T.drop i).drop 1 = T.drop (i + 1) := by rw [List.drop_drop]
    rcases neg_inv hp hn with ⟨v, T1, hv, hr⟩ | ⟨hv, hr⟩
    · unfold vAt at hv
      rw [e1] at hv
      dsimp only at hv
      rw [if_pos hm, dd] at hv
      split at hv
      · rename_i x hx
        split at hv
        · cases hv
        · rename_i h0
          simp only [Option.some.injEq, Prod.mk.injEq] at hv
          obtain ⟨rfl, rfl⟩ := hv
          rw [List.drop_drop] at hr
          exact s_unV B g w T i L o h hm x hx h0 r hr
      · cases hv
    · have hxn : (match numB (nxt (T.drop (i + 1))) with | some n => if n = 0 then none else some (-n) | none => none) = (none : Option Int) := by
        unfold vAt at hv
        rw [e1] at hv
        dsimp only at hv
        rw [if_pos hm, dd] at hv
        split at hv
        · rename_i x hx
          split at hv
          · rename_i h0; rw [hx]; exact if_pos h0
          · cases hv
        · rename_i hx; rw [hx]
      rw [dd] at hr
      rcases hr with ⟨h1, h2, rfl⟩ | ⟨h1, h2, r1, h3, h4, rfl⟩ | ⟨h1, h2⟩
      · exact s_un48 B g w T i L o h hm h2 hxn
      · exact s_unO B g w T i L o h hm h2 hxn (lun _ hlt) r1 h3 h4
      · exact absurd hm h1
  · exact pr B g w T i L o r h hd ho hm hp
set_option maxRecDepth 100000 in
set_option maxHeartbeats 8000000 in
theorem s_unP (B g : Nat) (w : World) (T : List ByteArray) (i : Nat) (L : List EN) (o : Nat) (r : Res) (h : StS B g w T i L 0 (o : Int)) (ho : o ≤ 48) (dor : DC 79) (lor : i < T.length → SC 79 (.ch .or) (T.drop (i + 1))) (hm : nxt (T.drop i) ≠ wMin) (hp : Parses .neg o (T.drop i) L.length r) :
    Calls Tryz.prog 247 #[.pointer (some ⟨g, 0, none⟩)] w (LiveA B g T L o r w) := by
  have HS0 : Hid (StS B g w T i L 0 (o : Int)) := h
  have HH : Hid (nxt (T.drop i) ≠ wMin) := hm
  have HD : Hid (DC 79) := dor
  have HL : Hid (i < T.length → SC 79 (.ch .or) (T.drop (i + 1))) := lor
  have HP : Hid (Parses .neg o (T.drop i) L.length r) := hp
  clear h hm dor lor hp
  go_enter Tryz.func247, Tryz.ntmps247
  have C := s_takeN ⟨#[45]⟩ B g w T i L 0 (o : Int) HS0.out rfl HH.out
  go_wp2_with fail
  refine C.mono ?_
  rintro e w1 ⟨rfl, hs1, hb1⟩
  have HS1 : Hid (StS B g w1 T i L (0) ((o : Int))) := hs1
  have HB1 : Hid (Below B w w1) := (Below.refl _ _ : Below B w w).trans (hb1.mono (by have a1 := HS0.out.base; have a2 := HS0.out.lt; omega))
  clear C hs1 hb1
  have C := s_priL B g w1 T i L o r HS1.out ho HD.out HL.out HH.out HP.out
  cases r with
  | err c =>
    go_wp2_with fail
    refine C.mono ?_
    rintro e w2 ⟨hc, z2, i2, L2, rfl, hs2, hb2⟩
    have HC : Hid ((c == 0) = false) := hc
    have HS2 : Hid (StS B g w2 T i2 L2 c (o : Int)) := hs2
    have HB2 : Hid (Below B w w2) := HB1.out.trans hb2
    clear C hs2 hb2 hc
    go_wp2
    go_ret
    exact ⟨HC.out, z2, i2, L2, rfl, HS2.out, HB2.out⟩
  | ok p T1 n1 =>
    go_wp2_with fail
    refine C.mono ?_
    rintro e w2 ⟨i2, rfl, hd2, hn2, hs2, hb2⟩
    have HA : Hid (T.drop i2 = T1 ∧ n1 = L.length + p.cnt ∧ StS B g w2 T i2 (L ++ nodesP p L.length) 0 (o : Int)) := ⟨hd2, hn2, hs2⟩
    have HB2 : Hid (Below B w w2) := HB1.out.trans hb2
    clear C hs2 hb2 hd2 hn2
    go_wp2
    go_ret
    exact ⟨i2, rfl, HA.out.1, HA.out.2.1, HA.out.2.2, HB2.out⟩

end Go.Proofs.YtbpfpjmjmkpjoaaGreatDoor
namespace Go.Proofs.YtbpfpjmjmkpjoaaGreatDoor
open Go Go.RowKit
attribute [local go_sem ↓] Go.wp_at_zero Go.wp_at_succ

set_option linter.unusedVariables false
set_option linter.unusedSimpArgs false
/-- Where the loop of a chain stands. -/
def ScRel (c : Ch) (B g : Nat) (w : World) (T : List ByteArray) (i0 : Nat) (L : List EN) (o : Nat) (r : Res) (z : Int) (wr : World) : Prop :=
  Below B w wr ∧ ((∃ (q : PT) (T1 : List ByteArray) (n1 i1 : Nat), z = (n1 : Int) - 1 ∧ q.ok = true ∧ n1 = L.length + q.cnt ∧ n1 ≤ 40 ∧ T.drop i1 = T1 ∧ T1.length < (T.drop i0).length ∧ StS B g wr T i1 (L ++ nodesP q L.length) 0 (o : Int) ∧ Parses (.more c q) o T1 n1 r) ∨
    (∃ (e : Int) (i1 : Nat) (L1 : List EN), ((e == 0) = false) ∧ r = .err e ∧ StS B g wr T i1 L1 e (o : Int)))
def sPos (w : World) (g : Nat) : Nat := match w.cell? ⟨g, 0, none⟩, w.cell? ⟨g, 1, none⟩, w.cell? ⟨g, 3, none⟩ with
  | some (.slice _ n _), some (.int _ i), some (.int _ c) => if c = 0 then n + 1 - i.toNat else 0
  | _, _, _ => 0
theorem StS.pos {B g : Nat} {w : World} {T : List ByteArray} {i : Nat} {L : List EN} {c o : Int} (h : StS B g w T i L c o) : sPos w g = if c = 0 then T.length + 1 - i else 0 := by
  obtain ⟨a0, c0, a, cap, hx, _⟩ := h
  obtain ⟨x0, x1, _, x3, _⟩ := box5 hx
  unfold sPos
  rw [x0, x1, x3]
  simp
theorem chain_start {c : Ch} {B g : Nat} {w w1 : World} {T : List ByteArray} {i : Nat} {L : List EN} {o : Nat} {r r0 : Res} {e : Ending} (hn : L.length ≤ 40) (hp0 : Parses c.sub o (T.drop i) L.length r0)
    (hc : (∃ e, r0 = .err e ∧ r = .err e) ∨ ∃ q T1 n1, r0 = .ok q T1 n1 ∧ Parses (.more c q) o T1 n1 r) (h : LiveA B g T L o r0 w e w1) : ∃ z, e = .returned (.int .i64 z) ∧ ScRel c B g w T i L o r z w1 := by
  rcases hc with ⟨e0, rfl, rfl⟩ | ⟨q, T1, n1, rfl, hm⟩
  · obtain ⟨h1, z, i', L', rfl, h2, h3⟩ := h
    exact ⟨z, rfl, h3, .inr ⟨e0, i', L', h1, rfl, h2⟩⟩
  · obtain ⟨i', rfl, h1, h2, h3, h4⟩ := h
    obtain ⟨⟨k, hk, hk2, hk3⟩, _, h40, hq⟩ := goes hp0 hn (sub_more c).2.2
    have := hk3 (sub_more c).1
    exact ⟨(n1 : Int) - 1, rfl, h4, .inl ⟨q, T1, n1, i', rfl, hq, h2, h40, h1, by rw [hk, List.length_drop]; omega, h3, hm⟩⟩
theorem bin_nodes {L Q : List EN} {k : Int} {p q : PT} {n1 n2 : Nat} (hQ : L ++ nodesP p L.length = Q) (h1 : n1 = L.length + p.cnt) (h2 : n2 = Q.length + q.cnt) :
    Q ++ nodesP q Q.length ++ [(⟨k, (n1 : Int) - 1, (n2 : Int) - 1, 0, 0, 0, ⟨#[]⟩⟩ : EN)] = L ++ nodesP (.bin k p q) L.length := by
  have hl : Q.length = L.length + p.cnt := by rw [← hQ, List.length_append, nodes_len]
  rw [nodesP, nodes_len, nodes_len, ← h1, ← hQ]
  rw [← hQ, List.length_append, nodes_len, ← h1] at h2
  rw [List.length_append, nodes_len, ← h1, ← h2]
  simp only [List.append_assoc]
/-- Behind a right part: the node is put. -/
theorem bin_next {c : Ch} {B g : Nat} {w w3 : World} {T T1 : List ByteArray} {i0 : Nat} {L Q : List EN} {o n1 k : Nat} {p : PT} {r r1 : Res} {e : Ending} (hQ : L ++ nodesP p L.length = Q) (h1 : n1 = L.length + p.cnt) (hlt : T1.length < (T.drop i0).length)
    (hcase : (∃ e, biR k p r1 = .err e ∧ r = .err e) ∨ ∃ p2 T2 n2, biR k p r1 = .ok p2 T2 n2 ∧ Parses (.more c p2) o T2 n2 r ∧ T2.length < T1.length ∧ n2 ≤ 40 ∧ p2.ok = true) (hf : r1.fits) (h : LiveA B g T Q o r1 w e w3) :
    ∃ z2, e = .returned (.int .i64 z2) ∧ Below B w w3 ∧ ((∃ (e0 : Int) (i3 : Nat) (L3 : List EN), ((e0 == 0) = false) ∧ r = .err e0 ∧ StS B g w3 T i3 L3 e0 (o : Int)) ∨
      (∃ (i3 : Nat) (Q2 : List EN), z2 = (Q2.length : Int) - 1 ∧ Q2.length = 40 ∧ r = .err 6 ∧ StS B g w3 T i3 Q2 0 (o : Int)) ∨
      (∃ (i3 : Nat) (Q2 : List EN) (p2 : PT) (T2 : List ByteArray) (n2 : Nat), z2 = (Q2.length : Int) - 1 ∧ Q2.length < 40 ∧ StS B g w3 T i3 Q2 0 (o : Int) ∧ T.drop i3 = T2 ∧ n2 = Q2.length + 1 ∧ n2 = L.length + p2.cnt ∧ p2.ok = true ∧ T2.length < T1.length ∧ Parses (.more c p2) o T2 n2 r ∧ Q2 ++ [(⟨(k : Int), (n1 : Int) - 1, z2, 0, 0, 0, ⟨#[]⟩⟩ : EN)] = L ++ nodesP p2 L.length)) := by
  cases r1 with
  | err e0 =>
    obtain ⟨h2, z, i', L', rfl, h3, h4⟩ := h
    refine ⟨z, rfl, h4, .inl ⟨e0, i', L', h2, ?_, h3⟩⟩
    rcases hcase with ⟨e9, h5, h6⟩ | ⟨p2, T2, n2, h5, _⟩
    · cases h5; exact h6
    · cases h5
  | ok q T3 n3 =>
    obtain ⟨i', rfl, h2, h3, h4, h5⟩ := h
    have hl : (Q ++ nodesP q Q.length).length = n3 := by rw [List.length_append, nodes_len, h3]
    have hn3 : n3 ≤ 40 := hf
    refine ⟨(n3 : Int) - 1, rfl, h5, .inr ?_⟩
    by_cases h40 : n3 = 40
    · refine .inl ⟨i', _, by rw [hl], by rw [hl]; exact h40, ?_, h4⟩
      rcases hcase with ⟨e9, h6, h7⟩ | ⟨p2, T2, n2, h6, _⟩
      · unfold biR at h6; simp only [h40, if_true] at h6; cases h6; exact h7
      · unfold biR at h6; simp only [h40, if_true] at h6; cases h6
    · rcases hcase with ⟨e9, h6, h7⟩ | ⟨p2, T2, n2, h6, h7, h8, h9, h10⟩
      · unfold biR at h6; simp only [if_neg h40] at h6; cases h6
      · unfold biR at h6
        simp only [if_neg h40, Res.ok.injEq] at h6
        obtain ⟨rfl, rfl, rfl⟩ := h6
        refine .inr ⟨i', _, _, T3, n3 + 1, by rw [hl], by rw [hl]; omega, h4, h2, by rw [hl], ?_, h10, h8, h7, bin_nodes hQ h1 h3⟩
        have : Q.length = L.length + p.cnt := by rw [← hQ, List.length_append, nodes_len]
        simp only [PT.cnt]; omega
set_option maxRecDepth 100000 in
set_option maxHeartbeats 8000000 in
theorem d_and (ds : DC 172) : DC 139 := by
  intro B g w T i L c o h hc
  have HS0 : Hid (StS B g w T i L c o) := h
  have HC : (c == 0) = false := hc
  clear h hc
  go_enter Tryz.func139, Tryz.ntmps139
  have C := ds B g w T i L c o HS0.out HC
  go_wp2_with fail
  refine C.mono ?_
  rintro e w1 ⟨z1, i1, L1, rfl, hs1, hb1⟩
  have HS1 : Hid (StS B g w1 T i1 L1 (c) (o)) := hs1
  have HB1 : Hid (Below B w w1) := (Below.refl _ _ : Below B w w).trans hb1
  clear C hs1 hb1
  go_wp2_with fail
  go_loopw [3] (fun a wr => a = .int .i64 z1 ∧ StS B g wr T i1 L1 c o ∧ Below B w wr) (fun _ _ => 0)
  case atStart => exact ⟨rfl, HS1.out, HB1.out⟩
  case round =>
    obtain ⟨rfl, hs2, hb2⟩ := hrel
    have HS2 : Hid (StS B g wr T i1 L1 c o) := hs2
    have HB2 : Hid (Below B w wr) := hb2
    have C := s_takeD ⟨#[97, 110, 100]⟩ B g wr T i1 L1 c o hs2 HC
    clear hs2 hb2
    go_wp2_with fail
    refine C.mono ?_
    rintro e w3 ⟨rfl, hs3, hb3⟩
    have HS3 : Hid (StS B g w3 T i1 L1 c o) := hs3
    have HB3 : Hid (Below B w w3) := HB2.out.trans (hb3.mono (by have a1 := HS2.out.base; have a2 := HS2.out.lt; omega))
    clear C hs3 hb3
    go_wp2
    go_ret
    exact ⟨z1, i1, L1, rfl, HS3.out, HB3.out⟩
set_option maxRecDepth 100000 in
set_option maxHeartbeats 8000000 in
theorem d_or (ds : DC 139) : DC 79 := by
  intro B g w T i L c o h hc
  have HS0 : Hid (StS B g w T i L c o) := h
  have HC : (c == 0) = false := hc
  clear h hc
  go_enter Tryz.func79, Tryz.ntmps79
  have C := ds B g w T i L c o HS0.out HC
  go_wp2_with fail
  refine C.mono ?_
  rintro e w1 ⟨z1, i1, L1, rfl, hs1, hb1⟩
  have HS1 : Hid (StS B g w1 T i1 L1 (c) (o)) := hs1
  have HB1 : Hid (Below B w w1) := (Below.refl _ _ : Below B w w).trans hb1
  clear C hs1 hb1
  go_wp2_with fail
  go_loopw [3] (fun a wr => a = .int .i64 z1 ∧ StS B g wr T i1 L1 c o ∧ Below B w wr) (fun _ _ => 0)
  case atStart => exact ⟨rfl, HS1.out, HB1.out⟩
  case round =>
    obtain ⟨rfl, hs2, hb2⟩ := hrel
    have HS2 : Hid (StS B g wr T i1 L1 c o) := hs2
    have HB2 : Hid (Below B w wr) := hb2
    have C := s_takeD ⟨#[111, 114]⟩ B g wr T i1 L1 c o hs2 HC
    clear hs2 hb2
    go_wp2_with fail
    refine C.mono ?_
    rintro e w3 ⟨rfl, hs3, hb3⟩
    have HS3 : Hid (StS B g w3 T i1 L1 c o) := hs3
    have HB3 : Hid (Below B w w3) := HB2.out.trans (hb3.mono (by have a1 := HS2.out.base; have a2 := HS2.out.lt; omega))
    clear C hs3 hb3
    go_wp2
    go_ret
    exact ⟨z1, i1, L1, rfl, HS3.out, HB3.out⟩
set_option maxRecDepth 100000 in
set_option maxHeartbeats 8000000 in
theorem s_and (T' : List ByteArray) (ds : DC 172) (hs : ∀ T2, T2.length ≤ T'.length → SC 172 (Ch.and).sub T2) : SC 139 (.ch .and) T' := by
  intro B g w T i L o r h hd ho hp
  subst hd
  have hn : L.length ≤ 40 := h.tok.2.2.2
  obtain ⟨r0, hp0, hp1⟩ : ∃ r0, Parses (Ch.and).sub o (T.drop i) L.length r0 ∧ ((∃ e, r0 = .err e ∧ r = .err e) ∨ ∃ q T1 n1, r0 = .ok q T1 n1 ∧ Parses (.more .and q) o T1 n1 r) := by
    cases hp with
    | chE h => exact ⟨_, h, .inl ⟨_, rfl, rfl⟩⟩
    | chO h h2 => exact ⟨_, h, .inr ⟨_, _, _, rfl, h2⟩⟩
  have C := hs (T.drop i) (Nat.le_refl _) B g w T i L o r0 h rfl ho hp0
  have HS : Hid (∀ T2, T2.length ≤ (T.drop i).length → SC 172 (Ch.and).sub T2) := hs
  have HDD : Hid (DC 172) := ds
  have ST : Hid (∀ (w1 : World) (e : Ending), LiveA B g T L o r0 w e w1 → ∃ z, e = .returned (.int .i64 z) ∧ ScRel .and B g w T i L o r z w1) := fun w1 e ha => chain_start hn hp0 hp1 ha
  clear hs ds h hp hp0 hp1
  go_enter Tryz.func139, Tryz.ntmps139
  go_wp2_with fail
  refine C.mono ?_
  intro e w1 ha
  obtain ⟨z, rfl, hrel0⟩ := ST.out w1 e ha
  have HR0 : Hid (ScRel .and B g w T i L o r z w1) := hrel0
  clear ha hrel0 C ST
  go_wp2_with fail
  go_loopw [3] (fun a wr => ∃ z : Int, a = .int .i64 z ∧ ScRel .and B g w T i L o r z wr) (fun _ wr => sPos wr g)
  case atStart => exact ⟨z, rfl, HR0.out⟩
  case round =>
    clear HR0
    obtain ⟨z, rfl, hb, hrel⟩ := hrel
    have HB : Hid (Below B w wr) := hb
    clear hb
    rcases hrel with ⟨q, T1, n1, i1, rfl, hq, hn1, h40, hd1, hlt, hs1, hm⟩ | ⟨e0, i1, L1, hne, rfl, hs1⟩
    · obtain ⟨Q, hQ⟩ : ∃ Q, L ++ nodesP q L.length = Q := ⟨_, rfl⟩
      have HQ : Hid (L ++ nodesP q L.length = Q) := hQ
      rw [hQ] at hs1
      have HS1 : Hid (StS B g wr T i1 Q 0 (o : Int)) := hs1
      have HM : Hid (Parses (.more .and q) o T1 n1 r) := hm
      have HD1 : Hid (T.drop i1 = T1) := hd1
      have HN1 : Hid (n1 = L.length + q.cnt) := hn1
      have HLT : Hid (T1.length < (T.drop i).length) := hlt
      have HQL : Hid (Q.length = n1) := by unfold Hid; rw [← hQ, List.length_append, nodes_len, hn1]
      have HOK : Hid (q.ok = true) := hq
      clear hs1 hm hd1 hn1 hlt hQ hq
      by_cases hk : nxt T1 = sgT 12
      · have hk2 : nxt (T.drop i1) = ⟨#[97, 110, 100]⟩ := by rw [HD1.out]; exact hk
        have hil : i1 < T.length := nxt_pos2 hk2 (by decide)
        have sg : sgn (Ch.and).lo (Ch.and).hi T1 = 12 := by show sgn 12 12 T1 = 12; unfold sgn; exact if_pos hk
        obtain ⟨r1, hp1, hf1, hcase⟩ := more_inv HM.out sg (by decide) h40 HOK.out
        rw [← HD1.out, List.drop_drop, ← HQL.out] at hp1
        have HIL : Hid (i1 < T.length) := hil
        have HP1 : Hid (Parses (Ch.and).sub o (T.drop (i1 + 1)) Q.length r1) := hp1
        have BN : Hid (∀ (w5 w3 : World) (e : Ending), LiveA B g T Q o r1 w5 e w3 → _) := fun w5 w3 e ha => bin_next (w := w5) HQ.out HN1.out HLT.out hcase hf1 ha
        clear hk hp1 hcase hf1 sg
        have C := s_takeY ⟨#[97, 110, 100]⟩ B g wr T i1 Q 0 (o : Int) HS1.out rfl hk2 hil
        go_wp2_with fail
        refine C.mono ?_
        rintro e w2 ⟨rfl, hs2, hb2⟩
        have HS2 : Hid (StS B g w2 T (i1 + 1) Q (0) ((o : Int))) := hs2
        have HB2 : Hid (Below B w w2) := (HB.out : Below B w wr).trans hb2
        clear C hs2 hb2
        clear hk2 hil
        have C := HS.out (T.drop (i1 + 1)) (by have := HLT.out; rw [← HD1.out, List.length_drop] at this; rw [List.length_drop] at this ⊢; rw [List.length_drop]; have := HIL.out; omega) B g w2 T (i1 + 1) Q o r1 HS2.out rfl ho HP1.out
        go_wp2_with fail
        refine C.mono ?_
        intro e w3 ha
        obtain ⟨z2, rfl, hb3, hcs⟩ := BN.out w2 w3 e ha
        have HB3 : Hid (Below B w w3) := HB2.out.trans hb3
        clear C ha hb3 BN
        rcases hcs with ⟨e0, i3, L3, hne, rfl, hs3⟩ | ⟨i3, Q2, rfl, hq40, rfl, hs3⟩ | ⟨i3, Q2, p2, T2, n2, rfl, hq40, hs3, hd3, hn2, hn3, hok2, hlt2, hm2, hnod⟩
        · have HC : (e0 == 0) = false := hne
          have HS3 : Hid (StS B g w3 T i3 L3 (e0) ((o : Int))) := hs3
          clear hs3 hne
          have C := s_putD ⟨12, (n1 : Int) - 1, z2, 0, 0, 0, ⟨#[]⟩⟩ B g w3 T i3 L3 (e0) ((o : Int)) HS3.out HC
          go_wp2_with fail
          refine C.mono ?_
          rintro e w4 ⟨z4, L4, rfl, hs4, hb4⟩
          have HS4 : Hid (StS B g w4 T i3 L4 (e0) ((o : Int))) := hs4
          have HB4 : Hid (Below B w w4) := HB3.out.trans hb4
          clear C hs4 hb4
          go_wp2
          go_roundw
          case rel => exact ⟨z4, rfl, HB4.out, .inr ⟨e0, i3, L4, HC, rfl, HS4.out⟩⟩
          case measure =>
            rw [HS4.out.pos, HS1.out.pos, if_neg (by simpa using HC), if_pos rfl]
            have := HIL.out
            omega
        · have HS3 : Hid (StS B g w3 T i3 Q2 (0) ((o : Int))) := hs3
          have HQ40 : Hid (Q2.length = 40) := hq40
          clear hs3 hq40
          have C := s_putM ⟨12, (n1 : Int) - 1, (Q2.length : Int) - 1, 0, 0, 0, ⟨#[]⟩⟩ B g w3 T i3 Q2 0 (o : Int) HS3.out rfl HQ40.out
          go_wp2_with fail
          refine C.mono ?_
          rintro e w4 ⟨rfl, hs4, hb4⟩
          have HS4 : Hid (StS B g w4 T i3 Q2 (6) ((o : Int))) := hs4
          have HB4 : Hid (Below B w w4) := (HB3.out : Below B w w3).trans hb4
          clear C hs4 hb4
          go_wp2
          go_roundw
          case rel => exact ⟨0, rfl, HB4.out, .inr ⟨6, i3, Q2, by decide, rfl, HS4.out⟩⟩
          case measure =>
            rw [HS4.out.pos, HS1.out.pos, if_neg (by decide), if_pos rfl]
            have := HIL.out
            omega
        · have HS3 : Hid (StS B g w3 T i3 Q2 (0) ((o : Int))) := hs3
          have HX : Hid (T.drop i3 = T2 ∧ n2 = Q2.length + 1 ∧ n2 = L.length + p2.cnt ∧ p2.ok = true ∧ T2.length < T1.length ∧ Parses (.more .and p2) o T2 n2 r ∧ Q2 ++ [(⟨((12 : Nat) : Int), (n1 : Int) - 1, (Q2.length : Int) - 1, 0, 0, 0, ⟨#[]⟩⟩ : EN)] = L ++ nodesP p2 L.length) := ⟨hd3, hn2, hn3, hok2, hlt2, hm2, hnod⟩
          clear hs3 hd3 hn2 hn3 hok2 hlt2 hm2 hnod
          have C := s_put ⟨12, (n1 : Int) - 1, (Q2.length : Int) - 1, 0, 0, 0, ⟨#[]⟩⟩ B g w3 T i3 Q2 0 (o : Int) HS3.out hq40
          go_wp2_with fail
          refine C.mono ?_
          rintro e w4 ⟨rfl, hs4, hb4⟩
          have HS4 : Hid (StS B g w4 T i3 (Q2 ++ [⟨12, (n1 : Int) - 1, (Q2.length : Int) - 1, 0, 0, 0, ⟨#[]⟩⟩]) (0) ((o : Int))) := hs4
          have HB4 : Hid (Below B w w4) := (HB3.out : Below B w w3).trans hb4
          clear C hs4 hb4
          go_wp2
          go_roundw
          case rel =>
            obtain ⟨x1, x2, x3, x4, x5, x6, x7⟩ := HX.out
            have hs4 := HS4.out
            rw [show ((12 : Int)) = ((12 : Nat) : Int) from rfl, x7] at hs4
            exact ⟨(n2 : Int) - 1, by rw [x2]; congr 1; omega, HB4.out, .inl ⟨p2, T2, n2, i3, rfl, x4, x3, by omega, x1, by have := HLT.out; omega, hs4, x6⟩⟩
          case measure =>
            rw [HS4.out.pos, HS1.out.pos, if_pos rfl, if_pos rfl]
            have x1 := HX.out.1
            have x5 := HX.out.2.2.2.2.1
            rw [← x1, ← HD1.out, List.length_drop, List.length_drop] at x5
            have := HIL.out
            omega
      · have hk2 : nxt (T.drop i1) ≠ ⟨#[97, 110, 100]⟩ := by rw [HD1.out]; exact hk
        have sg : sgn (Ch.and).lo (Ch.and).hi T1 = 0 := by show sgn 12 12 T1 = 0; unfold sgn; rw [if_neg (show ¬ nxt T1 = sgT ((12 : Nat) : Int) from hk), if_neg (show ¬ nxt T1 = sgT ((12 : Nat) : Int) from hk)]
        have E : Hid (r = .ok q T1 n1) := more_none HM.out sg
        clear hk sg
        have C := s_takeN ⟨#[97, 110, 100]⟩ B g wr T i1 Q 0 (o : Int) HS1.out rfl hk2
        go_wp2_with fail
        refine C.mono ?_
        rintro e w2 ⟨rfl, hs2, hb2⟩
        have HS2 : Hid (StS B g w2 T i1 Q (0) ((o : Int))) := hs2
        have HB2 : Hid (Below B w w2) := (HB.out : Below B w wr).trans (hb2.mono (by have a1 := HS1.out.base; have a2 := HS1.out.lt; omega))
        clear C hs2 hb2
        go_wp2
        go_ret
        rw [E.out]
        exact ⟨i1, rfl, HD1.out, HN1.out, by rw [HQ.out]; exact HS2.out, HB2.out⟩
    · have HS1 : Hid (StS B g wr T i1 L1 e0 (o : Int)) := hs1
      have HN : (e0 == 0) = false := hne
      clear hs1
      have C := s_takeD ⟨#[97, 110, 100]⟩ B g wr T i1 L1 e0 (o : Int) HS1.out HN
      go_wp2_with fail
      refine C.mono ?_
      rintro e w2 ⟨rfl, hs2, hb2⟩
      have HS2 : Hid (StS B g w2 T i1 L1 (e0) ((o : Int))) := hs2
      have HB2 : Hid (Below B w w2) := (HB.out : Below B w wr).trans (hb2.mono (by have a1 := HS1.out.base; have a2 := HS1.out.lt; omega))
      clear C hs2 hb2
      go_wp2
      go_ret
      exact ⟨HN, z, i1, L1, rfl, HS2.out, HB2.out⟩
set_option maxRecDepth 100000 in
set_option maxHeartbeats 8000000 in
theorem s_or (T' : List ByteArray) (ds : DC 139) (hs : ∀ T2, T2.length ≤ T'.length → SC 139 (Ch.or).sub T2) : SC 79 (.ch .or) T' := by
  intro B g w T i L o r h hd ho hp
  subst hd
  have hn : L.length ≤ 40 := h.tok.2.2.2
  obtain ⟨r0, hp0, hp1⟩ : ∃ r0, Parses (Ch.or).sub o (T.drop i) L.length r0 ∧ ((∃ e, r0 = .err e ∧ r = .err e) ∨ ∃ q T1 n1, r0 = .ok q T1 n1 ∧ Parses (.more .or q) o T1 n1 r) := by
    cases hp with
    | chE h => exact ⟨_, h, .inl ⟨_, rfl, rfl⟩⟩
    | chO h h2 => exact ⟨_, h, .inr ⟨_, _, _, rfl, h2⟩⟩
  have C := hs (T.drop i) (Nat.le_refl _) B g w T i L o r0 h rfl ho hp0
  have HS : Hid (∀ T2, T2.length ≤ (T.drop i).length → SC 139 (Ch.or).sub T2) := hs
  have HDD : Hid (DC 139) := ds
  have ST : Hid (∀ (w1 : World) (e : Ending), LiveA B g T L o r0 w e w1 → ∃ z, e = .returned (.int .i64 z) ∧ ScRel .or B g w T i L o r z w1) := fun w1 e ha => chain_start hn hp0 hp1 ha
  clear hs ds h hp hp0 hp1
  go_enter Tryz.func79, Tryz.ntmps79
  go_wp2_with fail
  refine C.mono ?_
  intro e w1 ha
  obtain ⟨z, rfl, hrel0⟩ := ST.out w1 e ha
  have HR0 : Hid (ScRel .or B g w T i L o r z w1) := hrel0
  clear ha hrel0 C ST
  go_wp2_with fail
  go_loopw [3] (fun a wr => ∃ z : Int, a = .int .i64 z ∧ ScRel .or B g w T i L o r z wr) (fun _ wr => sPos wr g)
  case atStart => exact ⟨z, rfl, HR0.out⟩
  case round =>
    clear HR0
    obtain ⟨z, rfl, hb, hrel⟩ := hrel
    have HB : Hid (Below B w wr) := hb
    clear hb
    rcases hrel with ⟨q, T1, n1, i1, rfl, hq, hn1, h40, hd1, hlt, hs1, hm⟩ | ⟨e0, i1, L1, hne, rfl, hs1⟩
    · obtain ⟨Q, hQ⟩ : ∃ Q, L ++ nodesP q L.length = Q := ⟨_, rfl⟩
      have HQ : Hid (L ++ nodesP q L.length = Q) := hQ
      rw [hQ] at hs1
      have HS1 : Hid (StS B g wr T i1 Q 0 (o : Int)) := hs1
      have HM : Hid (Parses (.more .or q) o T1 n1 r) := hm
      have HD1 : Hid (T.drop i1 = T1) := hd1
      have HN1 : Hid (n1 = L.length + q.cnt) := hn1
      have HLT : Hid (T1.length < (T.drop i).length) := hlt
      have HQL : Hid (Q.length = n1) := by unfold Hid; rw [← hQ, List.length_append, nodes_len, hn1]
      have HOK : Hid (q.ok = true) := hq
      clear hs1 hm hd1 hn1 hlt hQ hq
      by_cases hk : nxt T1 = sgT 13
      · have hk2 : nxt (T.drop i1) = ⟨#[111, 114]⟩ := by rw [HD1.out]; exact hk
        have hil : i1 < T.length := nxt_pos2 hk2 (by decide)
        have sg : sgn (Ch.or).lo (Ch.or).hi T1 = 13 := by show sgn 13 13 T1 = 13; unfold sgn; exact if_pos hk
        obtain ⟨r1, hp1, hf1, hcase⟩ := more_inv HM.out sg (by decide) h40 HOK.out
        rw [← HD1.out, List.drop_drop, ← HQL.out] at hp1
        have HIL : Hid (i1 < T.length) := hil
        have HP1 : Hid (Parses (Ch.or).sub o (T.drop (i1 + 1)) Q.length r1) := hp1
        have BN : Hid (∀ (w5 w3 : World) (e : Ending), LiveA B g T Q o r1 w5 e w3 → _) := fun w5 w3 e ha => bin_next (w := w5) HQ.out HN1.out HLT.out hcase hf1 ha
        clear hk hp1 hcase hf1 sg
        have C := s_takeY ⟨#[111, 114]⟩ B g wr T i1 Q 0 (o : Int) HS1.out rfl hk2 hil
        go_wp2_with fail
        refine C.mono ?_
        rintro e w2 ⟨rfl, hs2, hb2⟩
        have HS2 : Hid (StS B g w2 T (i1 + 1) Q (0) ((o : Int))) := hs2
        have HB2 : Hid (Below B w w2) := (HB.out : Below B w wr).trans hb2
        clear C hs2 hb2
        clear hk2 hil
        have C := HS.out (T.drop (i1 + 1)) (by have := HLT.out; rw [← HD1.out, List.length_drop] at this; rw [List.length_drop] at this ⊢; rw [List.length_drop]; have := HIL.out; omega) B g w2 T (i1 + 1) Q o r1 HS2.out rfl ho HP1.out
        go_wp2_with fail
        refine C.mono ?_
        intro e w3 ha
        obtain ⟨z2, rfl, hb3, hcs⟩ := BN.out w2 w3 e ha
        have HB3 : Hid (Below B w w3) := HB2.out.trans hb3
        clear C ha hb3 BN
        rcases hcs with ⟨e0, i3, L3, hne, rfl, hs3⟩ | ⟨i3, Q2, rfl, hq40, rfl, hs3⟩ | ⟨i3, Q2, p2, T2, n2, rfl, hq40, hs3, hd3, hn2, hn3, hok2, hlt2, hm2, hnod⟩
        · have HC : (e0 == 0) = false := hne
          have HS3 : Hid (StS B g w3 T i3 L3 (e0) ((o : Int))) := hs3
          clear hs3 hne
          have C := s_putD ⟨13, (n1 : Int) - 1, z2, 0, 0, 0, ⟨#[]⟩⟩ B g w3 T i3 L3 (e0) ((o : Int)) HS3.out HC
          go_wp2_with fail
          refine C.mono ?_
          rintro e w4 ⟨z4, L4, rfl, hs4, hb4⟩
          have HS4 : Hid (StS B g w4 T i3 L4 (e0) ((o : Int))) := hs4
          have HB4 : Hid (Below B w w4) := HB3.out.trans hb4
          clear C hs4 hb4
          go_wp2
          go_roundw
          case rel => exact ⟨z4, rfl, HB4.out, .inr ⟨e0, i3, L4, HC, rfl, HS4.out⟩⟩
          case measure =>
            rw [HS4.out.pos, HS1.out.pos, if_neg (by simpa using HC), if_pos rfl]
            have := HIL.out
            omega
        · have HS3 : Hid (StS B g w3 T i3 Q2 (0) ((o : Int))) := hs3
          have HQ40 : Hid (Q2.length = 40) := hq40
          clear hs3 hq40
          have C := s_putM ⟨13, (n1 : Int) - 1, (Q2.length : Int) - 1, 0, 0, 0, ⟨#[]⟩⟩ B g w3 T i3 Q2 0 (o : Int) HS3.out rfl HQ40.out
          go_wp2_with fail
          refine C.mono ?_
          rintro e w4 ⟨rfl, hs4, hb4⟩
          have HS4 : Hid (StS B g w4 T i3 Q2 (6) ((o : Int))) := hs4
          have HB4 : Hid (Below B w w4) := (HB3.out : Below B w w3).trans hb4
          clear C hs4 hb4
          go_wp2
          go_roundw
          case rel => exact ⟨0, rfl, HB4.out, .inr ⟨6, i3, Q2, by decide, rfl, HS4.out⟩⟩
          case measure =>
            rw [HS4.out.pos, HS1.out.pos, if_neg (by decide), if_pos rfl]
            have := HIL.out
            omega
        · have HS3 : Hid (StS B g w3 T i3 Q2 (0) ((o : Int))) := hs3
          have HX : Hid (T.drop i3 = T2 ∧ n2 = Q2.length + 1 ∧ n2 = L.length + p2.cnt ∧ p2.ok = true ∧ T2.length < T1.length ∧ Parses (.more .or p2) o T2 n2 r ∧ Q2 ++ [(⟨((13 : Nat) : Int), (n1 : Int) - 1, (Q2.length : Int) - 1, 0, 0, 0, ⟨#[]⟩⟩ : EN)] = L ++ nodesP p2 L.length) := ⟨hd3, hn2, hn3, hok2, hlt2, hm2, hnod⟩
          clear hs3 hd3 hn2 hn3 hok2 hlt2 hm2 hnod
          have C := s_put ⟨13, (n1 : Int) - 1, (Q2.length : Int) - 1, 0, 0, 0, ⟨#[]⟩⟩ B g w3 T i3 Q2 0 (o : Int) HS3.out hq40
          go_wp2_with fail
          refine C.mono ?_
          rintro e w4 ⟨rfl, hs4, hb4⟩
          have HS4 : Hid (StS B g w4 T i3 (Q2 ++ [⟨13, (n1 : Int) - 1, (Q2.length : Int) - 1, 0, 0, 0, ⟨#[]⟩⟩]) (0) ((o : Int))) := hs4
          have HB4 : Hid (Below B w w4) := (HB3.out : Below B w w3).trans hb4
          clear C hs4 hb4
          go_wp2
          go_roundw
          case rel =>
            obtain ⟨x1, x2, x3, x4, x5, x6, x7⟩ := HX.out
            have hs4 := HS4.out
            rw [show ((13 : Int)) = ((13 : Nat) : Int) from rfl, x7] at hs4
            exact ⟨(n2 : Int) - 1, by rw [x2]; congr 1; omega, HB4.out, .inl ⟨p2, T2, n2, i3, rfl, x4, x3, by omega, x1, by have := HLT.out; omega, hs4, x6⟩⟩
          case measure =>
            rw [HS4.out.pos, HS1.out.pos, if_pos rfl, if_pos rfl]
            have x1 := HX.out.1
            have x5 := HX.out.2.2.2.2.1
            rw [← x1, ← HD1.out, List.length_drop, List.length_drop] at x5
            have := HIL.out
            omega
      · have hk2 : nxt (T.drop i1) ≠ ⟨#[111, 114]⟩ := by rw [HD1.out]; exact hk
        have sg : sgn (Ch.or).lo (Ch.or).hi T1 = 0 := by show sgn 13 13 T1 = 0; unfold sgn; rw [if_neg (show ¬ nxt T1 = sgT ((13 : Nat) : Int) from hk), if_neg (show ¬ nxt T1 = sgT ((13 : Nat) : Int) from hk)]
        have E : Hid (r = .ok q T1 n1) := more_none HM.out sg
        clear hk sg
        have C := s_takeN ⟨#[111, 114]⟩ B g wr T i1 Q 0 (o : Int) HS1.out rfl hk2
        go_wp2_with fail
        refine C.mono ?_
        rintro e w2 ⟨rfl, hs2, hb2⟩
        have HS2 : Hid (StS B g w2 T i1 Q (0) ((o : Int))) := hs2
        have HB2 : Hid (Below B w w2) := (HB.out : Below B w wr).trans (hb2.mono (by have a1 := HS1.out.base; have a2 := HS1.out.lt; omega))
        clear C hs2 hb2
        go_wp2
        go_ret
        rw [E.out]
        exact ⟨i1, rfl, HD1.out, HN1.out, by rw [HQ.out]; exact HS2.out, HB2.out⟩
    · have HS1 : Hid (StS B g wr T i1 L1 e0 (o : Int)) := hs1
      have HN : (e0 == 0) = false := hne
      clear hs1
      have C := s_takeD ⟨#[111, 114]⟩ B g wr T i1 L1 e0 (o : Int) HS1.out HN
      go_wp2_with fail
      refine C.mono ?_
      rintro e w2 ⟨rfl, hs2, hb2⟩
      have HS2 : Hid (StS B g w2 T i1 L1 (e0) ((o : Int))) := hs2
      have HB2 : Hid (Below B w w2) := (HB.out : Below B w wr).trans (hb2.mono (by have a1 := HS1.out.base; have a2 := HS1.out.lt; omega))
      clear C hs2 hb2
      go_wp2
      go_ret
      exact ⟨HN, z, i1, L1, rfl, HS2.out, HB2.out⟩

end Go.Proofs.YtbpfpjmjmkpjoaaGreatDoor
