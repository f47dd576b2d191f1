/-
  Records of the log: the walks of the program's isCheck and RecordOK.
-/
import Derived.Test.YtimdoaehlciecaaRl
namespace Go.Proofs.Ytimdoaehlciecaa
open Go Go.RowKit
attribute [local go_sem ↓] Go.wp_at_zero Go.wp_at_succ


theorem ckF (e l t k p n g s : Int) (b a : ByteArray) (h : ¬ (t = 0 ∧ k = 6 ∧ p = 0 ∧ n = 0 ∧ g = 0 ∧ s = 0 ∧ b.toList = [])) : false = checkB ⟨e, l, t, k, p, n, g, s, b, a⟩ := by
  unfold checkB plainB
  rw [decide_eq_false (fun x => h ⟨x.1, x.2.1, x.2.2.1, x.2.2.2.1, x.2.2.2.2.1, x.2.2.2.2.2.1, (szE b).1 x.2.2.2.2.2.2⟩), Bool.false_and]
theorem ckT (e l : Int) (b a : ByteArray) (h : b.toList = []) : checkB ⟨e, l, 0, 6, 0, 0, 0, 0, b, a⟩ = ckB (numsT a) l := by
  unfold checkB plainB
  rw [decide_eq_true ⟨rfl, rfl, rfl, rfl, rfl, rfl, (szE b).2 h⟩, Bool.true_and]
set_option maxRecDepth 100000 in
set_option maxHeartbeats 4000000 in
theorem c_isCheck (e l t k p n g s : Int) (b a : ByteArray) (w : World) (has : a.size ≤ maxLen) :
    Calls Try.prog 36 #[.agg #[.int .i64 e, .int .i64 l, .int .i64 t, .int .i64 k, .int .i64 p, .int .i64 n, .int .i64 g, .int .i64 s, .string b, .string a]] w fun e' w' => e' = .returned (.bool (checkB ⟨e, l, t, k, p, n, g, s, b, a⟩)) ∧ Below w.heap.size w w' := by
  unfold maxLen at has
  by_cases c0 : t = 0
  case neg =>
    go_enter Try.func36, Try.ntmps36
    go_wp2
    go_ret
    exact ⟨ret_bool (ckF _ _ _ _ _ _ _ _ _ _ (fun x => c0 x.1)), (Below.refl _ _).alloc (Nat.le_refl _) _⟩
  subst c0
  by_cases c1 : k = 6
  case neg =>
    go_enter Try.func36, Try.ntmps36
    go_wp2
    go_ret
    exact ⟨ret_bool (ckF _ _ _ _ _ _ _ _ _ _ (fun x => c1 x.2.1)), (Below.refl _ _).alloc (Nat.le_refl _) _⟩
  subst c1
  by_cases c2 : p = 0
  case neg =>
    go_enter Try.func36, Try.ntmps36
    go_wp2
    go_ret
    exact ⟨ret_bool (ckF _ _ _ _ _ _ _ _ _ _ (fun x => c2 x.2.2.1)), (Below.refl _ _).alloc (Nat.le_refl _) _⟩
  subst c2
  by_cases c3 : n = 0
  case neg =>
    go_enter Try.func36, Try.ntmps36
    go_wp2
    go_ret
    exact ⟨ret_bool (ckF _ _ _ _ _ _ _ _ _ _ (fun x => c3 x.2.2.2.1)), (Below.refl _ _).alloc (Nat.le_refl _) _⟩
  subst c3
  by_cases c4 : g = 0
  case neg =>
    go_enter Try.func36, Try.ntmps36
    go_wp2
    go_ret
    exact ⟨ret_bool (ckF _ _ _ _ _ _ _ _ _ _ (fun x => c4 x.2.2.2.2.1)), (Below.refl _ _).alloc (Nat.le_refl _) _⟩
  subst c4
  by_cases c5 : s = 0
  case neg =>
    go_enter Try.func36, Try.ntmps36
    go_wp2
    go_ret
    exact ⟨ret_bool (ckF _ _ _ _ _ _ _ _ _ _ (fun x => c5 x.2.2.2.2.2.1)), (Below.refl _ _).alloc (Nat.le_refl _) _⟩
  subst c5
  by_cases c6 : b.toList = []
  case neg =>
    go_enter Try.func36, Try.ntmps36
    go_wp2
    go_ret
    exact ⟨ret_bool (ckF _ _ _ _ _ _ _ _ _ _ (fun x => c6 x.2.2.2.2.2.2)), (Below.refl _ _).alloc (Nat.le_refl _) _⟩
  rw [ckT e l b a c6]
  obtain ⟨V, hV⟩ : ∃ V, w.alloc (.cells #[.int .i64 e, .int .i64 l, .int .i64 0, .int .i64 6, .int .i64 0, .int .i64 0, .int .i64 0, .int .i64 0, .string b, .string a] 43) = V := ⟨_, rfl⟩
  have HB : Hid (Below w.heap.size w V) := by unfold Hid; rw [← hV]; exact (Below.refl _ _).alloc (Nat.le_refl _) _
  have BX : Hid (Box V w.heap.size 43 #[.int .i64 e, .int .i64 l, .int .i64 0, .int .i64 6, .int .i64 0, .int .i64 0, .int .i64 0, .int .i64 0, .string b, .string a]) := by unfold Hid; rw [← hV]; exact Box.new _ _ _
  obtain ⟨v0, v1, v2, v3, v4, v5, v6, v7, v8, v9⟩ := box10 BX.out
  have CK : Hid (Calls Try.prog 44 #[.string a] V (AnsC V (numsT a))) := by
    have := c_readCheck (numsT a) V (nums_bytes a) (by rw [nums_len]; omega)
    rwa [nums_get] at this
  go_enter Try.func36, Try.ntmps36
  go_wp2_with fail
  refine CK.out.mono ?_
  rintro e' w1 hA
  unfold AnsC at hA
  obtain ⟨hm, hb⟩ := hA
  have B1 : Hid (Below w.heap.size w w1) := HB.out.trans (hb.mono HB.out.size)
  have X1 := BX.out.belowS hb
  have c1 : w1.cell? ⟨w.heap.size, 1, none⟩ = some (.int .i64 l) := X1.cell 1
  clear CK v0 v1 v2 v3 v4 v5 v6 v7 v8 v9 hV X1
  cases hr : rc2 (numsT a) with
  | none =>
    rw [hr] at hm
    obtain ⟨a1, n1, d1, a2, n2, d2, rfl⟩ := hm
    have E : Hid (ckB (numsT a) l = false) := by unfold Hid ckB; rw [hr]
    clear hr hb BX HB
    go_wp2
    go_ret
    exact ⟨ret_bool E.out.symm, B1.out⟩
  | some x =>
    obtain ⟨ps, ts⟩ := x
    rw [hr] at hm
    obtain ⟨f1, f2, f3, f4, a1, d1, a2, d2, rfl, o1, o2⟩ := hm
    have R1 : Hid (∀ W, Below w1.heap.size w1 W → Calls Try.prog 45 #[.slice a1 ps.length d1, .int .i64 0, .int .i64 7, .int .i64 l] W fun e w' => e = .returned (.bool (rg ps 0 7 l)) ∧ Below W.heap.size W w') := fun W hW => c_right V.heap.size a1 d1 ps 0 7 l W (own_below o1 hW) f1 f3
    have R2 : Hid (∀ W, Below w1.heap.size w1 W → Calls Try.prog 45 #[.slice a2 ts.length d2, .int .i64 1, .int .i64 60, .int .i64 l] W fun e w' => e = .returned (.bool (rg ts 1 60 l)) ∧ Below W.heap.size W w') := fun W hW => c_right V.heap.size a2 d2 ts 1 60 l W (own_below o2 hW) f2 f4
    have E : Hid (ckB (numsT a) l = (decide (ts.length ≤ 10) && (rg ps 0 7 l && rg ts 1 60 l))) := by unfold Hid ckB; rw [hr]
    have g1 : w.heap.size < w1.heap.size := World.block_lt_of_cell? w1 _ c1
    clear hr hb BX HB o1 o2 f3 f4
    by_cases h10 : ts.length ≤ 10
    case neg =>
      go_wp2
      go_ret
      exact ⟨ret_bool (by rw [E.out, decide_eq_false h10]; rfl), B1.out⟩
    cases hp : rg ps 0 7 l
    · go_wp2_with fail
      refine (R1.out w1 (Below.refl _ _)).mono ?_
      rintro e' w2 ⟨rfl, hb⟩
      rw [hp]
      have B2 : Hid (Below w.heap.size w w2) := B1.out.trans (hb.mono B1.out.size)
      clear hb c1
      go_wp2
      go_ret
      exact ⟨ret_bool (by rw [E.out, hp]; simp), B2.out⟩
    · go_wp2_with fail
      refine (R1.out w1 (Below.refl _ _)).mono ?_
      rintro e' w2 ⟨rfl, hb⟩
      rw [hp]
      have B2 : Hid (Below w.heap.size w w2) := B1.out.trans (hb.mono B1.out.size)
      have c2 : w2.cell? ⟨w.heap.size, 1, none⟩ = some (.int .i64 l) := far6 hb c1
      have HB2 : Hid (Below w1.heap.size w1 w2) := hb
      clear hb c1
      go_wp2_with fail
      refine (R2.out w2 HB2.out).mono ?_
      rintro e' w3 ⟨rfl, hb⟩
      have B3 : Hid (Below w.heap.size w w3) := B2.out.trans (hb.mono B2.out.size)
      clear hb c2
      obtain ⟨X, hX⟩ : ∃ X, X = rg ts 1 60 l := ⟨_, rfl⟩
      have HX : Hid (ckB (numsT a) l = X) := by unfold Hid; rw [E.out, hp, decide_eq_true h10, hX]; rfl
      rw [← hX]
      clear hX
      go_wp2
      go_ret
      exact ⟨ret_bool HX.out.symm, B3.out⟩
set_option maxRecDepth 100000 in
set_option maxHeartbeats 4000000 in
theorem c_implLR (e l t k p n g s : Int) (b a : ByteArray) (w : World) (hbs : b.size ≤ maxLen) (has : a.size ≤ maxLen) :
    Calls Try.prog 23 #[.agg #[.int .i64 e, .int .i64 l, .int .i64 t, .int .i64 k, .int .i64 p, .int .i64 n, .int .i64 g, .int .i64 s, .string b, .string a]] w fun e' w' => e' = .returned (.bool (okLR ⟨e, l, t, k, p, n, g, s, b, a⟩)) ∧ Below w.heap.size w w' := by
  by_cases h1 : e < 1
  · go_enter Try.func23, Try.ntmps23
    go_wp2
    go_ret
    exact ⟨ret_bool (by unfold okLR; rw [show inB _ 1 60 = false from decide_eq_false (fun x => by have := x.1; simp only at this; omega)]; rfl), (Below.refl _ _).alloc (Nat.le_refl _) _⟩
  by_cases h2 : 60 < e
  · go_enter Try.func23, Try.ntmps23
    go_wp2
    go_ret
    exact ⟨ret_bool (by unfold okLR; rw [show inB _ 1 60 = false from decide_eq_false (fun x => by have := x.2; simp only at this; omega)]; rfl), (Below.refl _ _).alloc (Nat.le_refl _) _⟩
  have he : inB e 1 60 = true := decide_eq_true (by omega)
  by_cases h3 : l < 1
  · go_enter Try.func23, Try.ntmps23
    go_wp2
    go_ret
    exact ⟨ret_bool (by unfold okLR; simp only [he]; rw [show inB l 1 60 = false from decide_eq_false (by omega)]; rfl), (Below.refl _ _).alloc (Nat.le_refl _) _⟩
  by_cases h4 : 60 < l
  · go_enter Try.func23, Try.ntmps23
    go_wp2
    go_ret
    exact ⟨ret_bool (by unfold okLR; simp only [he]; rw [show inB l 1 60 = false from decide_eq_false (by omega)]; rfl), (Below.refl _ _).alloc (Nat.le_refl _) _⟩
  have hl : inB l 1 60 = true := decide_eq_true (by omega)
  have E : Hid (okLR ⟨e, l, t, k, p, n, g, s, b, a⟩ = (stepB ⟨e, l, t, k, p, n, g, s, b, a⟩ || checkB ⟨e, l, t, k, p, n, g, s, b, a⟩)) := by unfold Hid okLR; simp only [he, hl]; rfl
  obtain ⟨V, hV⟩ : ∃ V, w.alloc (.cells #[.int .i64 e, .int .i64 l, .int .i64 t, .int .i64 k, .int .i64 p, .int .i64 n, .int .i64 g, .int .i64 s, .string b, .string a] 43) = V := ⟨_, rfl⟩
  have HB : Hid (Below w.heap.size w V) := by unfold Hid; rw [← hV]; exact (Below.refl _ _).alloc (Nat.le_refl _) _
  have BX : Hid (Box V w.heap.size 43 #[.int .i64 e, .int .i64 l, .int .i64 t, .int .i64 k, .int .i64 p, .int .i64 n, .int .i64 g, .int .i64 s, .string b, .string a]) := by unfold Hid; rw [← hV]; exact Box.new _ _ _
  obtain ⟨v0, v1, v2, v3, v4, v5, v6, v7, v8, v9⟩ := box10 BX.out
  have CS : Hid (Calls Try.prog 35 #[.agg #[.int .i64 e, .int .i64 l, .int .i64 t, .int .i64 k, .int .i64 p, .int .i64 n, .int .i64 g, .int .i64 s, .string b, .string a]] V fun e' w' => e' = .returned (.bool (stepB ⟨e, l, t, k, p, n, g, s, b, a⟩)) ∧ Below V.heap.size V w') := c_step e l t k p n g s b a V hbs has
  have CC : Hid (∀ W, Calls Try.prog 36 #[.agg #[.int .i64 e, .int .i64 l, .int .i64 t, .int .i64 k, .int .i64 p, .int .i64 n, .int .i64 g, .int .i64 s, .string b, .string a]] W fun e' w' => e' = .returned (.bool (checkB ⟨e, l, t, k, p, n, g, s, b, a⟩)) ∧ Below W.heap.size W w') := fun W => c_isCheck e l t k p n g s b a W has
  clear he hl
  go_enter Try.func23, Try.ntmps23
  go_wp2_with fail
  refine CS.out.mono ?_
  rintro e' w1 ⟨rfl, hb⟩
  have B1 : Hid (Below w.heap.size w w1) := HB.out.trans (hb.mono HB.out.size)
  have X1 : Hid (Box w1 w.heap.size 43 #[.int .i64 e, .int .i64 l, .int .i64 t, .int .i64 k, .int .i64 p, .int .i64 n, .int .i64 g, .int .i64 s, .string b, .string a]) := BX.out.belowS hb
  clear hb CS v0 v1 v2 v3 v4 v5 v6 v7 v8 v9 hV HB BX
  obtain ⟨v0, v1, v2, v3, v4, v5, v6, v7, v8, v9⟩ := box10 X1.out
  cases hs : stepB ⟨e, l, t, k, p, n, g, s, b, a⟩
  · go_wp2_with fail
    refine (CC.out w1).mono ?_
    rintro e' w2 ⟨rfl, hb⟩
    have B2 : Hid (Below w.heap.size w w2) := B1.out.trans (hb.mono B1.out.size)
    have E2 : Hid (okLR ⟨e, l, t, k, p, n, g, s, b, a⟩ = checkB ⟨e, l, t, k, p, n, g, s, b, a⟩) := by unfold Hid; rw [E.out, hs]; rfl
    clear hb v0 v1 v2 v3 v4 v5 v6 v7 v8 v9 hs E
    obtain ⟨X, hX⟩ : ∃ X, X = checkB ⟨e, l, t, k, p, n, g, s, b, a⟩ := ⟨_, rfl⟩
    rw [← hX] at E2 ⊢
    clear hX
    go_wp2
    go_ret
    exact ⟨ret_bool E2.out.symm, B2.out⟩
  · have E2 : Hid (okLR ⟨e, l, t, k, p, n, g, s, b, a⟩ = true) := by unfold Hid; rw [E.out, hs]; rfl
    clear hs E
    go_wp2
    go_ret
    exact ⟨ret_bool E2.out.symm, B1.out⟩

end Go.Proofs.Ytimdoaehlciecaa
