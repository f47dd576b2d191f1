/-
  Records that are read: what the bytes say; results of ten cells.
-/
import Derived.Test.YtkpopingbbaomaaGreatDoorZzan
import Derived.Test.YtkpopingbbaomaaGreatDoorShq
import Derived.Test.YtkpopingbbaomaaGreatDoorZzai
namespace Go.Proofs.YtkpopingbbaomaaGreatDoor
open Go Go.RowKit
attribute [local go_sem ↓] Go.wp_at_zero Go.wp_at_succ


theorem ckF (e l t k p n g s : Int) (b a : ByteArray) (h : ¬ (t = 0 ∧ k = 6 ∧ p = 0 ∧ n = 0 ∧ g = 0 ∧ s = 0 ∧ b.toList = [])) : false = checkB ⟨e, l, t, k, p, n, g, s, b, a⟩ := by
  unfold checkB plainB
  rw [decide_eq_false (fun x => h ⟨x.1, x.2.1, x.2.2.1, x.2.2.2.1, x.2.2.2.2.1, x.2.2.2.2.2.1, (szE b).1 x.2.2.2.2.2.2⟩), Bool.false_and]
theorem ckT (e l : Int) (b a : ByteArray) (h : b.toList = []) : checkB ⟨e, l, 0, 6, 0, 0, 0, 0, b, a⟩ = ckB (numsT a) l := by
  unfold checkB plainB
  rw [decide_eq_true ⟨rfl, rfl, rfl, rfl, rfl, rfl, (szE b).2 h⟩, Bool.true_and]
set_option maxRecDepth 100000 in
set_option maxHeartbeats 4000000 in
theorem c_isCheck (e l t k p n g s : Int) (b a : ByteArray) (w : World) (has : a.size ≤ maxLen) :
    Calls Tryz.prog 248 #[.agg #[.int .i64 e, .int .i64 l, .int .i64 t, .int .i64 k, .int .i64 p, .int .i64 n, .int .i64 g, .int .i64 s, .string b, .string a]] w fun e' w' => e' = .returned (.bool (checkB ⟨e, l, t, k, p, n, g, s, b, a⟩)) ∧ Below w.heap.size w w' := by
  unfold maxLen at has
  by_cases c0 : t = 0
  case neg =>
    go_enter Tryz.func248, Tryz.ntmps248
    go_wp2
    go_ret
    exact ⟨ret_bool (ckF _ _ _ _ _ _ _ _ _ _ (fun x => c0 x.1)), (Below.refl _ _).alloc (Nat.le_refl _) _⟩
  subst c0
  by_cases c1 : k = 6
  case neg =>
    go_enter Tryz.func248, Tryz.ntmps248
    go_wp2
    go_ret
    exact ⟨ret_bool (ckF _ _ _ _ _ _ _ _ _ _ (fun x => c1 x.2.1)), (Below.refl _ _).alloc (Nat.le_refl _) _⟩
  subst c1
  by_cases c2 : p = 0
  case neg =>
    go_enter Tryz.func248, Tryz.ntmps248
    go_wp2
    go_ret
    exact ⟨ret_bool (ckF _ _ _ _ _ _ _ _ _ _ (fun x => c2 x.2.2.1)), (Below.refl _ _).alloc (Nat.le_refl _) _⟩
  subst c2
  by_cases c3 : n = 0
  case neg =>
    go_enter Tryz.func248, Tryz.ntmps248
    go_wp2
    go_ret
    exact ⟨ret_bool (ckF _ _ _ _ _ _ _ _ _ _ (fun x => c3 x.2.2.2.1)), (Below.refl _ _).alloc (Nat.le_refl _) _⟩
  subst c3
  by_cases c4 : g = 0
  case neg =>
    go_enter Tryz.func248, Tryz.ntmps248
    go_wp2
    go_ret
    exact ⟨ret_bool (ckF _ _ _ _ _ _ _ _ _ _ (fun x => c4 x.2.2.2.2.1)), (Below.refl _ _).alloc (Nat.le_refl _) _⟩
  subst c4
  by_cases c5 : s = 0
  case neg =>
    go_enter Tryz.func248, Tryz.ntmps248
    go_wp2
    go_ret
    exact ⟨ret_bool (ckF _ _ _ _ _ _ _ _ _ _ (fun x => c5 x.2.2.2.2.2.1)), (Below.refl _ _).alloc (Nat.le_refl _) _⟩
  subst c5
  by_cases c6 : b.toList = []
  case neg =>
    go_enter Tryz.func248, Tryz.ntmps248
    go_wp2
    go_ret
    exact ⟨ret_bool (ckF _ _ _ _ _ _ _ _ _ _ (fun x => c6 x.2.2.2.2.2.2)), (Below.refl _ _).alloc (Nat.le_refl _) _⟩
  rw [ckT e l b a c6]
  obtain ⟨V, hV⟩ : ∃ V, w.alloc (.cells #[.int .i64 e, .int .i64 l, .int .i64 0, .int .i64 6, .int .i64 0, .int .i64 0, .int .i64 0, .int .i64 0, .string b, .string a] 78) = V := ⟨_, rfl⟩
  have HB : Hid (Below w.heap.size w V) := by unfold Hid; rw [← hV]; exact (Below.refl _ _).alloc (Nat.le_refl _) _
  have BX : Hid (Box V w.heap.size 78 #[.int .i64 e, .int .i64 l, .int .i64 0, .int .i64 6, .int .i64 0, .int .i64 0, .int .i64 0, .int .i64 0, .string b, .string a]) := by unfold Hid; rw [← hV]; exact Box.new _ _ _
  obtain ⟨v0, v1, v2, v3, v4, v5, v6, v7, v8, v9⟩ := box10 BX.out
  have CK : Hid (Calls Tryz.prog 287 #[.string a] V (AnsC V (numsT a))) := by
    have := c_readCheck (numsT a) V (nums_bytes a) (by rw [nums_len]; omega)
    rwa [nums_get] at this
  go_enter Tryz.func248, Tryz.ntmps248
  go_wp2_with fail
  refine CK.out.mono ?_
  rintro e' w1 hA
  unfold AnsC at hA
  obtain ⟨hm, hb⟩ := hA
  have B1 : Hid (Below w.heap.size w w1) := HB.out.trans (hb.mono HB.out.size)
  have X1 := BX.out.belowS hb
  have c1 : w1.cell? ⟨w.heap.size, 1, none⟩ = some (.int .i64 l) := X1.cell 1
  clear CK v0 v1 v2 v3 v4 v5 v6 v7 v8 v9 hV X1
  cases hr : rc2 (numsT a) with
  | none =>
    rw [hr] at hm
    obtain ⟨a1, n1, d1, a2, n2, d2, rfl⟩ := hm
    have E : Hid (ckB (numsT a) l = false) := by unfold Hid ckB; rw [hr]
    clear hr hb BX HB
    go_wp2
    go_ret
    exact ⟨ret_bool E.out.symm, B1.out⟩
  | some x =>
    obtain ⟨ps, ts⟩ := x
    rw [hr] at hm
    obtain ⟨f1, f2, f3, f4, a1, d1, a2, d2, rfl, o1, o2⟩ := hm
    have R1 : Hid (∀ W, Below w1.heap.size w1 W → Calls Tryz.prog 288 #[.slice a1 ps.length d1, .int .i64 0, .int .i64 7, .int .i64 l] W fun e w' => e = .returned (.bool (rg ps 0 7 l)) ∧ Below W.heap.size W w') := fun W hW => c_right V.heap.size a1 d1 ps 0 7 l W (own_below o1 hW) f1 f3
    have R2 : Hid (∀ W, Below w1.heap.size w1 W → Calls Tryz.prog 288 #[.slice a2 ts.length d2, .int .i64 1, .int .i64 60, .int .i64 l] W fun e w' => e = .returned (.bool (rg ts 1 60 l)) ∧ Below W.heap.size W w') := fun W hW => c_right V.heap.size a2 d2 ts 1 60 l W (own_below o2 hW) f2 f4
    have E : Hid (ckB (numsT a) l = (decide (ts.length ≤ 10) && (rg ps 0 7 l && rg ts 1 60 l))) := by unfold Hid ckB; rw [hr]
    have g1 : w.heap.size < w1.heap.size := World.block_lt_of_cell? w1 _ c1
    clear hr hb BX HB o1 o2 f3 f4
    by_cases h10 : ts.length ≤ 10
    case neg =>
      go_wp2
      go_ret
      exact ⟨ret_bool (by rw [E.out, decide_eq_false h10]; rfl), B1.out⟩
    cases hp : rg ps 0 7 l
    · go_wp2_with fail
      refine (R1.out w1 (Below.refl _ _)).mono ?_
      rintro e' w2 ⟨rfl, hb⟩
      rw [hp]
      have B2 : Hid (Below w.heap.size w w2) := B1.out.trans (hb.mono B1.out.size)
      clear hb c1
      go_wp2
      go_ret
      exact ⟨ret_bool (by rw [E.out, hp]; simp), B2.out⟩
    · go_wp2_with fail
      refine (R1.out w1 (Below.refl _ _)).mono ?_
      rintro e' w2 ⟨rfl, hb⟩
      rw [hp]
      have B2 : Hid (Below w.heap.size w w2) := B1.out.trans (hb.mono B1.out.size)
      have c2 : w2.cell? ⟨w.heap.size, 1, none⟩ = some (.int .i64 l) := far6 hb c1
      have HB2 : Hid (Below w1.heap.size w1 w2) := hb
      clear hb c1
      go_wp2_with fail
      refine (R2.out w2 HB2.out).mono ?_
      rintro e' w3 ⟨rfl, hb⟩
      have B3 : Hid (Below w.heap.size w w3) := B2.out.trans (hb.mono B2.out.size)
      clear hb c2
      obtain ⟨X, hX⟩ : ∃ X, X = rg ts 1 60 l := ⟨_, rfl⟩
      have HX : Hid (ckB (numsT a) l = X) := by unfold Hid; rw [E.out, hp, decide_eq_true h10, hX]; rfl
      rw [← hX]
      clear hX
      go_wp2
      go_ret
      exact ⟨ret_bool HX.out.symm, B3.out⟩
set_option maxRecDepth 100000 in
set_option maxHeartbeats 4000000 in
theorem c_implLR (e l t k p n g s : Int) (b a : ByteArray) (w : World) (hbs : b.size ≤ maxLen) (has : a.size ≤ maxLen) :
    Calls Tryz.prog 186 #[.agg #[.int .i64 e, .int .i64 l, .int .i64 t, .int .i64 k, .int .i64 p, .int .i64 n, .int .i64 g, .int .i64 s, .string b, .string a]] w fun e' w' => e' = .returned (.bool (okLR ⟨e, l, t, k, p, n, g, s, b, a⟩)) ∧ Below w.heap.size w w' := by
  by_cases h1 : e < 1
  · go_enter Tryz.func186, Tryz.ntmps186
    go_wp2
    go_ret
    exact ⟨ret_bool (by unfold okLR; rw [show inB _ 1 60 = false from decide_eq_false (fun x => by have := x.1; simp only at this; omega)]; rfl), (Below.refl _ _).alloc (Nat.le_refl _) _⟩
  by_cases h2 : 60 < e
  · go_enter Tryz.func186, Tryz.ntmps186
    go_wp2
    go_ret
    exact ⟨ret_bool (by unfold okLR; rw [show inB _ 1 60 = false from decide_eq_false (fun x => by have := x.2; simp only at this; omega)]; rfl), (Below.refl _ _).alloc (Nat.le_refl _) _⟩
  have he : inB e 1 60 = true := decide_eq_true (by omega)
  by_cases h3 : l < 1
  · go_enter Tryz.func186, Tryz.ntmps186
    go_wp2
    go_ret
    exact ⟨ret_bool (by unfold okLR; simp only [he]; rw [show inB l 1 60 = false from decide_eq_false (by omega)]; rfl), (Below.refl _ _).alloc (Nat.le_refl _) _⟩
  by_cases h4 : 60 < l
  · go_enter Tryz.func186, Tryz.ntmps186
    go_wp2
    go_ret
    exact ⟨ret_bool (by unfold okLR; simp only [he]; rw [show inB l 1 60 = false from decide_eq_false (by omega)]; rfl), (Below.refl _ _).alloc (Nat.le_refl _) _⟩
  have hl : inB l 1 60 = true := decide_eq_true (by omega)
  have E : Hid (okLR ⟨e, l, t, k, p, n, g, s, b, a⟩ = (stepB ⟨e, l, t, k, p, n, g, s, b, a⟩ || checkB ⟨e, l, t, k, p, n, g, s, b, a⟩)) := by unfold Hid okLR; simp only [he, hl]; rfl
  obtain ⟨V, hV⟩ : ∃ V, w.alloc (.cells #[.int .i64 e, .int .i64 l, .int .i64 t, .int .i64 k, .int .i64 p, .int .i64 n, .int .i64 g, .int .i64 s, .string b, .string a] 78) = V := ⟨_, rfl⟩
  have HB : Hid (Below w.heap.size w V) := by unfold Hid; rw [← hV]; exact (Below.refl _ _).alloc (Nat.le_refl _) _
  have BX : Hid (Box V w.heap.size 78 #[.int .i64 e, .int .i64 l, .int .i64 t, .int .i64 k, .int .i64 p, .int .i64 n, .int .i64 g, .int .i64 s, .string b, .string a]) := by unfold Hid; rw [← hV]; exact Box.new _ _ _
  obtain ⟨v0, v1, v2, v3, v4, v5, v6, v7, v8, v9⟩ := box10 BX.out
  have CS : Hid (Calls Tryz.prog 247 #[.agg #[.int .i64 e, .int .i64 l, .int .i64 t, .int .i64 k, .int .i64 p, .int .i64 n, .int .i64 g, .int .i64 s, .string b, .string a]] V fun e' w' => e' = .returned (.bool (stepB ⟨e, l, t, k, p, n, g, s, b, a⟩)) ∧ Below V.heap.size V w') := c_step e l t k p n g s b a V hbs has
  have CC : Hid (∀ W, Calls Tryz.prog 248 #[.agg #[.int .i64 e, .int .i64 l, .int .i64 t, .int .i64 k, .int .i64 p, .int .i64 n, .int .i64 g, .int .i64 s, .string b, .string a]] W fun e' w' => e' = .returned (.bool (checkB ⟨e, l, t, k, p, n, g, s, b, a⟩)) ∧ Below W.heap.size W w') := fun W => c_isCheck e l t k p n g s b a W has
  clear he hl
  go_enter Tryz.func186, Tryz.ntmps186
  go_wp2_with fail
  refine CS.out.mono ?_
  rintro e' w1 ⟨rfl, hb⟩
  have B1 : Hid (Below w.heap.size w w1) := HB.out.trans (hb.mono HB.out.size)
  have X1 : Hid (Box w1 w.heap.size 78 #[.int .i64 e, .int .i64 l, .int .i64 t, .int .i64 k, .int .i64 p, .int .i64 n, .int .i64 g, .int .i64 s, .string b, .string a]) := BX.out.belowS hb
  clear hb CS v0 v1 v2 v3 v4 v5 v6 v7 v8 v9 hV HB BX
  obtain ⟨v0, v1, v2, v3, v4, v5, v6, v7, v8, v9⟩ := box10 X1.out
  cases hs : stepB ⟨e, l, t, k, p, n, g, s, b, a⟩
  · go_wp2_with fail
    refine (CC.out w1).mono ?_
    rintro e' w2 ⟨rfl, hb⟩
    have B2 : Hid (Below w.heap.size w w2) := B1.out.trans (hb.mono B1.out.size)
    have E2 : Hid (okLR ⟨e, l, t, k, p, n, g, s, b, a⟩ = checkB ⟨e, l, t, k, p, n, g, s, b, a⟩) := by unfold Hid; rw [E.out, hs]; rfl
    clear hb v0 v1 v2 v3 v4 v5 v6 v7 v8 v9 hs E
    obtain ⟨X, hX⟩ : ∃ X, X = checkB ⟨e, l, t, k, p, n, g, s, b, a⟩ := ⟨_, rfl⟩
    rw [← hX] at E2 ⊢
    clear hX
    go_wp2
    go_ret
    exact ⟨ret_bool E2.out.symm, B2.out⟩
  · have E2 : Hid (okLR ⟨e, l, t, k, p, n, g, s, b, a⟩ = true) := by unfold Hid; rw [E.out, hs]; rfl
    clear hs E
    go_wp2
    go_ret
    exact ⟨ret_bool E2.out.symm, B1.out⟩

end Go.Proofs.YtkpopingbbaomaaGreatDoor
namespace Go.Proofs.YtkpopingbbaomaaGreatDoor
open Go Go.RowKit
attribute [local go_sem ↓] Go.wp_at_zero Go.wp_at_succ


theorem rc1_size {zs r : List Int} {ps : List (Int × Int)} (h : rc1 zs = some (ps, r)) : zs.length = 1 + 2 * ps.length + r.length := by
  cases zs with
  | nil => simp [rc1] at h
  | cons z t =>
    simp only [rc1] at h
    split at h
    · cases h
    · rename_i hl
      simp only [Option.some.injEq, Prod.mk.injEq] at h
      obtain ⟨rfl, rfl⟩ := h
      rw [prs_len, List.length_drop]
      simp
      omega
theorem rc2_size {zs : List Int} {ps ts : List (Int × Int)} (h : rc2 zs = some (ps, ts)) : zs.length = 2 + 2 * ps.length + 2 * ts.length := by
  unfold rc2 at h
  cases h1 : rc1 zs with
  | none => rw [h1] at h; cases h
  | some x =>
    obtain ⟨qs, r⟩ := x
    rw [h1] at h
    simp only at h
    cases h2 : rc1 r with
    | none => rw [h2] at h; cases h
    | some y =>
      obtain ⟨us, r'⟩ := y
      rw [h2] at h
      simp only at h
      split at h
      · rename_i hr
        simp only [Option.some.injEq, Prod.mk.injEq] at h
        obtain ⟨rfl, rfl⟩ := h
        have := rc1_size h1
        have := rc1_size h2
        rw [hr] at this
        simp at this
        omega
      · cases h
theorem ckB_size {a : ByteArray} {l : Int} (h : ckB (numsT a) l = true) : a.size ≤ 38 := by
  unfold ckB at h
  cases hr : rc2 (numsT a) with
  | none => rw [hr] at h; cases h
  | some x =>
    obtain ⟨ps, ts⟩ := x
    rw [hr] at h
    simp only [Bool.and_eq_true, decide_eq_true_eq] at h
    have h1 := rg_len ps 0 7 l h.2.1 (by omega)
    have h2 := rc2_size hr
    rw [nums_len] at h2
    omega
theorem lr_fit {e l t k p n g s : Int} {b a : ByteArray} (h : okLR ⟨e, l, t, k, p, n, g, s, b, a⟩ = true) : (0 ≤ e ∧ e < 256) ∧ (0 ≤ l ∧ l < 256) ∧ (0 ≤ t ∧ t < 256) ∧ (0 ≤ k ∧ k < 256) ∧ (0 ≤ p ∧ p < 256) ∧ (0 ≤ n ∧ n < 256) ∧ (0 ≤ g ∧ g < 256) ∧ (0 ≤ s ∧ s < 256) ∧ b.size ≤ 30 ∧ a.size ≤ 38 := by
  rw [← okLS_eq] at h
  unfold okLS at h
  split at h
  case isFalse => cases h
  rename_i hc
  simp only [inB, Bool.and_eq_true, decide_eq_true_eq] at hc
  split at h
  · simp only [Bool.and_eq_true, decide_eq_true_eq] at h
    have := ckB_size h.2
    omega
  · split at h
    case isFalse => cases h
    rename_i hd
    simp only [inB, Bool.and_eq_true, decide_eq_true_eq] at hd
    omega
def rbZ (D : DR) : List Int := [108, D.e, D.l, D.t, D.k, D.p, D.n, D.g, D.s] ++ fbZ [D.b, D.a] 2 2
def rbR (D : DR) : List Int := if okLR D then rbZ D ++ sumZ (Crc.crc (rbZ D) : Nat) else []
def rbC (D : DR) : Int := if okLR D then 0 else 1
theorem rb1 {D : DR} (h : okLR D = false) : rbC D = 1 ∧ rbR D = [] := by unfold rbC rbR; rw [h]; exact ⟨rfl, rfl⟩
theorem rb0 {D : DR} (h : okLR D = true) : rbC D = 0 ∧ rbR D = rbZ D ++ sumZ (Crc.crc (rbZ D) : Nat) := by unfold rbC rbR; rw [h]; exact ⟨rfl, rfl⟩
theorem ok2 {b a : ByteArray} (h1 : b.size ≤ 255) (h2 : a.size ≤ 255) : okF [b, a] 2 = true := by
  unfold okF
  simp [h1, h2]
theorem fb2_len {b a : ByteArray} : (fbZ [b, a] 2 2).length = 3 + b.size + a.size := by
  unfold fbZ
  simp [strZ]
  omega
theorem fb2_bytes {b a : ByteArray} (h1 : b.size ≤ 255) (h2 : a.size ≤ 255) : ∀ z ∈ fbZ [b, a] 2 2, 0 ≤ z ∧ z < 256 := by
  intro z hz
  unfold fbZ at hz
  rcases List.mem_cons.1 hz with rfl | hz
  · omega
  · obtain ⟨q, hq, hzq⟩ := List.mem_flatten.1 hz
    obtain ⟨x, hx, rfl⟩ := List.mem_map.1 hq
    have hxs : x.size ≤ 255 := by
      have := List.mem_of_mem_take hx
      simp at this
      rcases this with rfl | rfl <;> omega
    rcases List.mem_cons.1 hzq with rfl | hz'
    · omega
    · obtain ⟨y, _, rfl⟩ := List.mem_map.1 hz'
      have := y.toNat_lt
      omega
theorem rb_bytes {e l t k p n g s : Int} {b a : ByteArray} (h : okLR ⟨e, l, t, k, p, n, g, s, b, a⟩ = true) : ∀ z ∈ rbZ ⟨e, l, t, k, p, n, g, s, b, a⟩, 0 ≤ z ∧ z < 256 := by
  have hf := lr_fit h
  intro z hz
  unfold rbZ at hz
  rcases List.mem_append.1 hz with hz | hz
  · simp at hz
    rcases hz with rfl | rfl | rfl | rfl | rfl | rfl | rfl | rfl | rfl <;> omega
  · exact fb2_bytes (b := b) (a := a) (by omega) (by omega) z hz
theorem rb_len {e l t k p n g s : Int} {b a : ByteArray} : (rbZ ⟨e, l, t, k, p, n, g, s, b, a⟩).length = 12 + b.size + a.size := by
  unfold rbZ
  rw [List.length_append, fb2_len]
  simp
  omega
theorem rbR_len {e l t k p n g s : Int} {b a : ByteArray} (h : okLR ⟨e, l, t, k, p, n, g, s, b, a⟩ = true) : (rbR ⟨e, l, t, k, p, n, g, s, b, a⟩).length = 16 + b.size + a.size := by
  rw [(rb0 h).2, List.length_append, rb_len]
  simp [sumZ]
  omega
theorem rbR_fit {e l t k p n g s : Int} {b a : ByteArray} : (rbR ⟨e, l, t, k, p, n, g, s, b, a⟩).length ≤ 1048576 := by
  cases h : okLR ⟨e, l, t, k, p, n, g, s, b, a⟩
  · rw [(rb1 h).2]; simp
  · have := lr_fit h; rw [rbR_len h]; omega
theorem own_capB {w : World} {base e size n m cap : Nat} {a : Option Addr} {xs : List Value} (h : w.ownsRow base e size (.slice a m cap) n xs) : m ≤ cap := by
  rcases h.2 with ⟨hv, h0⟩ | ⟨g, cap', cur, hv, hb, hg, hnc, hcm, hcs, htake⟩
  · cases hv; exact Nat.le_refl _
  · cases hv; exact hnc

end Go.Proofs.YtkpopingbbaomaaGreatDoor
namespace Go.Proofs.YtkpopingbbaomaaGreatDoor
open Go Go.RowKit
attribute [local go_sem ↓] Go.wp_at_zero Go.wp_at_succ


def numD (x : List Int) (b a : ByteArray) : DR := ⟨x.getD 1 0, x.getD 2 0, x.getD 3 0, x.getD 4 0, x.getD 5 0, x.getD 6 0, x.getD 7 0, x.getD 8 0, b, a⟩
def rrD (x : List Int) : Option DR :=
  if x.length < 9 then none else if x.getD 0 0 = 108 then
    (match okR (x.drop 9) with
      | some [b, a] => if okLR (numD x b a) then some (numD x b a) else none
      | _ => none)
  else none
theorem rr_lo {x : List Int} (h : x.length < 9) : rrD x = none := by unfold rrD; rw [if_pos h]
theorem rr_mark {x : List Int} (h : ¬ x.getD 0 0 = 108) : rrD x = none := by unfold rrD; rw [if_neg h]; split <;> rfl
theorem rr_form {x : List Int} (h : okR (x.drop 9) = none) : rrD x = none := by unfold rrD; rw [h]; split <;> (try split) <;> rfl
theorem rr_two {x : List Int} {l : List ByteArray} (h : okR (x.drop 9) = some l) (hl : l.length ≠ 2) : rrD x = none := by
  unfold rrD
  rw [h]
  rcases l with _ | ⟨a, _ | ⟨b, _ | ⟨c, r⟩⟩⟩
  · split <;> (try split) <;> rfl
  · split <;> (try split) <;> rfl
  · simp at hl
  · split <;> (try split) <;> rfl
theorem rr_at {x : List Int} {b a : ByteArray} (h9 : ¬ x.length < 9) (h0 : x.getD 0 0 = 108) (h : okR (x.drop 9) = some [b, a]) : rrD x = if okLR (numD x b a) then some (numD x b a) else none := by
  unfold rrD
  rw [if_neg h9, if_pos h0, h]
theorem rd_sizes : ∀ (c : Nat) (zr : List Int) (l : List ByteArray), (∀ z ∈ zr, 0 ≤ z ∧ z < 256) → rd c zr = some l → ∀ s ∈ l, s.size ≤ 255
  | 0, zr, l, _, h => by
    rw [rd_done] at h
    split at h
    · cases h; intro s hs; cases hs
    · cases h
  | c + 1, [], l, _, h => by rw [rd_none (by omega) rfl] at h; cases h
  | c + 1, z :: r, l, hz, h => by
    by_cases hl : r.length < z.toNat
    · rw [rd_short (by omega) hl] at h; cases h
    · rw [rd_step hl] at h
      cases hr : rd c (r.drop z.toNat) with
      | none => rw [hr] at h; cases h
      | some l' =>
        rw [hr] at h
        simp only [Option.map_some, Option.some.injEq] at h
        subst h
        intro s hs
        rcases List.mem_cons.1 hs with rfl | hs
        · rw [strOfNums_size, List.length_take]
          have := hz z (by simp)
          omega
        · exact rd_sizes c (r.drop z.toNat) l' (fun y hy => hz y (List.mem_cons_of_mem _ (List.mem_of_mem_drop hy))) hr s hs
theorem okR_sizes {zs : List Int} {l : List ByteArray} (hz : ∀ z ∈ zs, 0 ≤ z ∧ z < 256) (h : okR zs = some l) : ∀ s ∈ l, s.size ≤ 255 := by
  unfold okR at h
  split at h
  · cases h
  · split at h
    · cases h
    · exact rd_sizes _ _ _ (fun y hy => hz y (List.mem_cons_of_mem _ hy)) h
theorem loadVarR {w : World} {r : Nat} {D : DR} (hb : Box w r 78 (agR D)) : (loadVar 78 ⟨r, 0, none⟩).run Tryz.prog w = .ok (.agg (agR D)) w := by
  obtain ⟨e0, e1, e2, e3, e4, e5, e6, e7, e8, e9⟩ := box10 hb
  simp [go_sem, e0, e1, e2, e3, e4, e5, e6, e7, e8, e9, agR]
theorem retR2 {fn : Func} {p u : Tmp} (h : fn.results = #[.cell p 78, .tmp u]) {R : Ending → World → Prop} {a : Act} {w : World} {r : Nat} {D : DR} {v : Value} (hp : a.tmps.getD p undef = .pointer (some ⟨r, 0, none⟩)) (hu : a.tmps.getD u undef = v) (hd : a.defers = []) (hb : Box w r 78 (agR D)) (hR : R (.returned (.tuple #[.agg (agR D), v])) w) : bodyPost Tryz.prog fn R .ret a w := by
  refine bodyPost_ret ?_ hd hR
  have hp' : a.tmps[p]?.getD undef = .pointer (some ⟨r, 0, none⟩) := by simpa using hp
  have hu' : a.tmps[u]?.getD undef = v := by simpa using hu
  simp only [results, h]
  simp [Result.andThen, hp', hu', asAddr, loadVarR hb]
def put10 (V : World) (r : Nat) (D : DR) : World := (((((((((V.setCell ⟨r, 0, none⟩ (.int .i64 D.e)).setCell ⟨r, 1, none⟩ (.int .i64 D.l)).setCell ⟨r, 2, none⟩ (.int .i64 D.t)).setCell ⟨r, 3, none⟩ (.int .i64 D.k)).setCell ⟨r, 4, none⟩ (.int .i64 D.p)).setCell ⟨r, 5, none⟩ (.int .i64 D.n)).setCell ⟨r, 6, none⟩ (.int .i64 D.g)).setCell ⟨r, 7, none⟩ (.int .i64 D.s)).setCell ⟨r, 8, none⟩ (.string D.b)).setCell ⟨r, 9, none⟩ (.string D.a)
theorem put10_box {V : World} {r : Nat} {t : TypeId} {D0 : DR} (h : Box V r t (agR D0)) (D : DR) : Box (put10 V r D) r t (agR D) := by
  have := (((((((((h.set 0 (.int .i64 D.e)).set 1 (.int .i64 D.l)).set 2 (.int .i64 D.t)).set 3 (.int .i64 D.k)).set 4 (.int .i64 D.p)).set 5 (.int .i64 D.n)).set 6 (.int .i64 D.g)).set 7 (.int .i64 D.s)).set 8 (.string D.b)).set 9 (.string D.a)
  simpa [agR, put10] using this
theorem put10_below {B : Nat} {w V : World} (hb : Below B w V) {r : Nat} (hr : B ≤ r) (D : DR) : Below B w (put10 V r D) :=
  (((((((((hb.setCell hr _).setCell hr _).setCell hr _).setCell hr _).setCell hr _).setCell hr _).setCell hr _).setCell hr _).setCell hr _).setCell hr _
theorem thaw10 {w : World} {r : Nat} {t : TypeId} {c : Array Value} (h : Box w r t c) : w.frozen? ⟨r, 0, none⟩ = false ∧ w.frozen? ⟨r, 1, none⟩ = false ∧ w.frozen? ⟨r, 2, none⟩ = false ∧ w.frozen? ⟨r, 3, none⟩ = false ∧ w.frozen? ⟨r, 4, none⟩ = false ∧ w.frozen? ⟨r, 5, none⟩ = false ∧ w.frozen? ⟨r, 6, none⟩ = false ∧ w.frozen? ⟨r, 7, none⟩ = false ∧ w.frozen? ⟨r, 8, none⟩ = false ∧ w.frozen? ⟨r, 9, none⟩ = false :=
  ⟨h.thaw 0, h.thaw 1, h.thaw 2, h.thaw 3, h.thaw 4, h.thaw 5, h.thaw 6, h.thaw 7, h.thaw 8, h.thaw 9⟩

end Go.Proofs.YtkpopingbbaomaaGreatDoor
