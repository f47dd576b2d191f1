/-
  Records of the log: the walks that copy, size and compare them, and the small ones.
-/
import Derived.Test.YtimdoaehlciecaaRm
import Derived.Laws.StructEq
namespace Go.Proofs.Ytimdoaehlciecaa
open Go Go.RowKit
attribute [local go_sem ↓] Go.wp_at_zero Go.wp_at_succ


theorem ret_ag {D D' : DR} (h : D = D') : Ending.returned (.agg (agR D)) = .returned (.agg (agR D')) := by rw [h]
theorem box10 {w : World} {r : Nat} {ty : TypeId} {e l t k p n g s : Int} {b a : ByteArray} (h : Box w r ty #[.int .i64 e, .int .i64 l, .int .i64 t, .int .i64 k, .int .i64 p, .int .i64 n, .int .i64 g, .int .i64 s, .string b, .string a]) :
    w.cell? ⟨r, 0, none⟩ = some (.int .i64 e) ∧ w.cell? ⟨r, 1, none⟩ = some (.int .i64 l) ∧ w.cell? ⟨r, 2, none⟩ = some (.int .i64 t) ∧ w.cell? ⟨r, 3, none⟩ = some (.int .i64 k) ∧ w.cell? ⟨r, 4, none⟩ = some (.int .i64 p) ∧ w.cell? ⟨r, 5, none⟩ = some (.int .i64 n) ∧ w.cell? ⟨r, 6, none⟩ = some (.int .i64 g) ∧ w.cell? ⟨r, 7, none⟩ = some (.int .i64 s) ∧ w.cell? ⟨r, 8, none⟩ = some (.string b) ∧ w.cell? ⟨r, 9, none⟩ = some (.string a) :=
  ⟨h.cell 0, h.cell 1, h.cell 2, h.cell 3, h.cell 4, h.cell 5, h.cell 6, h.cell 7, h.cell 8, h.cell 9⟩
theorem c_tooLong (b : ByteArray) (w : World) (hs : b.size ≤ maxLen) :
    Calls Try.prog 42 #[.string b] w fun e w' => e = .returned (.bool (decide (30 < b.size))) ∧ w' = w := by
  unfold maxLen at hs
  by_cases h : 30 < b.size
  all_goals
    go_enter Try.func42, Try.ntmps42
    go_wp2
    go_ret
    exact ⟨ret_bool (by simp [h] <;> omega), rfl⟩
theorem c_pageNo (g : Int) (w : World) :
    Calls Try.prog 47 #[.int .i64 g] w fun e w' => e = .returned (.bool (decide (0 ≤ g ∧ g < 8))) ∧ w' = w := by
  by_cases h1 : 0 ≤ g <;> by_cases h2 : g < 8
  all_goals
    go_enter Try.func47, Try.ntmps47
    go_wp2
    go_ret
    exact ⟨ret_bool (by simp <;> omega), rfl⟩
theorem c_place (g s : Int) (w : World) :
    Calls Try.prog 43 #[.int .i64 g, .int .i64 s] w fun e w' => e = .returned (.bool (placeB g s)) ∧ w' = w := by
  by_cases h1 : 0 ≤ g ∧ g < 8
  · by_cases h3 : s < 0
    · have HP : Hid (placeB g s = false) := by unfold Hid; simp [placeB, inB]; omega
      go_enter Try.func43, Try.ntmps43
      go_wp2_with fail
      refine (c_pageNo g w).mono ?_
      rintro e w' ⟨rfl, rfl⟩
      rw [decide_eq_true h1]
      go_wp2
      go_ret
      exact ⟨ret_bool HP.out.symm, rfl⟩
    by_cases h4 : s < 4
    · have HP : Hid (placeB g s = true) := by unfold Hid; simp [placeB, inB]; omega
      go_enter Try.func43, Try.ntmps43
      go_wp2_with fail
      refine (c_pageNo g w).mono ?_
      rintro e w' ⟨rfl, rfl⟩
      rw [decide_eq_true h1]
      go_wp2
      go_ret
      exact ⟨ret_bool HP.out.symm, rfl⟩
    · have HP : Hid (placeB g s = false) := by unfold Hid; simp [placeB, inB]; omega
      go_enter Try.func43, Try.ntmps43
      go_wp2_with fail
      refine (c_pageNo g w).mono ?_
      rintro e w' ⟨rfl, rfl⟩
      rw [decide_eq_true h1]
      go_wp2
      go_ret
      exact ⟨ret_bool (by rw [HP.out]; exact decide_eq_false (by omega)), rfl⟩
  · go_enter Try.func43, Try.ntmps43
    go_wp2_with fail
    refine (c_pageNo g w).mono ?_
    rintro e w' ⟨rfl, rfl⟩
    rw [decide_eq_false h1]
    go_wp2
    go_ret
    exact ⟨ret_bool (by simp [placeB, inB] <;> omega), rfl⟩
set_option maxRecDepth 100000 in
set_option maxHeartbeats 2000000 in
theorem c_szR (e l t k p n g s : Int) (b a : ByteArray) (left : Int) (w : World) (hb : b.size ≤ maxLen) (ha : a.size ≤ maxLen) (h0 : 0 ≤ left) (h1 : left ≤ 1048576) :
    Calls Try.prog 20 #[.agg #[.int .i64 e, .int .i64 l, .int .i64 t, .int .i64 k, .int .i64 p, .int .i64 n, .int .i64 g, .int .i64 s, .string b, .string a], .int .i64 left] w fun e w' => (∃ z : Int, e = .returned (.int .i64 z) ∧ (0 ≤ z → b.size ≤ 1048576 ∧ a.size ≤ 1048576)) ∧ Below w.heap.size w w' := by
  unfold maxLen at hb ha
  by_cases h : left - b.size < 0
  · go_enter Try.func20, Try.ntmps20
    go_wp2
    go_ret
    exact ⟨⟨_, rfl, fun h => absurd h (by omega)⟩, (Below.refl _ _).alloc (Nat.le_refl _) _⟩
  · by_cases h2 : left - b.size - a.size < 0
    · go_enter Try.func20, Try.ntmps20
      go_wp2
      go_ret
      exact ⟨⟨_, rfl, fun h => absurd h (by omega)⟩, (Below.refl _ _).alloc (Nat.le_refl _) _⟩
    · go_enter Try.func20, Try.ntmps20
      go_wp2
      go_ret
      exact ⟨⟨_, rfl, fun _ => ⟨by omega, by omega⟩⟩, (Below.refl _ _).alloc (Nat.le_refl _) _⟩
set_option maxRecDepth 100000 in
set_option maxHeartbeats 4000000 in
theorem c_toR (e l t k p n g s : Int) (b a : ByteArray) (w : World) :
    Calls Try.prog 22 #[.agg #[.int .i64 e, .int .i64 l, .int .i64 t, .int .i64 k, .int .i64 p, .int .i64 n, .int .i64 g, .int .i64 s, .string b, .string a]] w fun e' w' => e' = .returned (.agg #[.int .i64 e, .int .i64 l, .int .i64 t, .int .i64 k, .int .i64 p, .int .i64 n, .int .i64 g, .int .i64 s, .string b, .string a]) ∧ Below w.heap.size w w' := by
  go_enter Try.func22, Try.ntmps22
  go_wp2
  refine bodyPost_ret (v := .agg #[.int .i64 e, .int .i64 l, .int .i64 t, .int .i64 k, .int .i64 p, .int .i64 n, .int .i64 g, .int .i64 s, .string b, .string a]) (by simp [results, Try.results22, go_sem]) rfl ⟨rfl, ?_⟩
  exact (((Below.refl _ _).alloc (Nat.le_refl _) _).alloc (by simp) _).alloc (by simp; omega) _
theorem eqR (W : World) (e l t k p n g s : Int) (b a : ByteArray) (e' l' t' k' p' n' g' s' : Int) (b' a' : ByteArray) :
    (Op.equalIn 10000 43 (.agg #[.int .i64 e, .int .i64 l, .int .i64 t, .int .i64 k, .int .i64 p, .int .i64 n, .int .i64 g, .int .i64 s, .string b, .string a]) (.agg #[.int .i64 e', .int .i64 l', .int .i64 t', .int .i64 k', .int .i64 p', .int .i64 n', .int .i64 g', .int .i64 s', .string b', .string a'])).run Try.prog W = .ok (e == e' && (l == l' && (t == t' && (k == k' && (p == p' && (n == n' && (g == g' && (s == s' && (b.toList == b'.toList && a.toList == a'.toList))))))))) W := by
  rw [run_equalIn_agg W 9999 43 _ _ (by kernel_rfl) (by kernel_rfl)]
  have hf : (Try.prog.fieldsOf 43).toList.map (fun f => (f.name, f.type, f.offset)) = [("Epoch", 3, 0), ("Lsn", 3, 1), ("Tx", 3, 2), ("Kind", 3, 3), ("Prev", 3, 4), ("Next", 3, 5), ("Page", 3, 6), ("Slot", 3, 7), ("Before", 9, 8), ("After", 9, 9)] := by kernel_rfl
  generalize (Try.prog.fieldsOf 43).toList = fs at hf
  have hl : fs.length = 10 := by simpa using congrArg List.length hf
  obtain ⟨f0, f1, f2, f3, f4, f5, f6, f7, f8, f9, rfl⟩ : ∃ f0 f1 f2 f3 f4 f5 f6 f7 f8 f9, fs = [f0, f1, f2, f3, f4, f5, f6, f7, f8, f9] := by
    rcases fs with _ | ⟨f0, _ | ⟨f1, _ | ⟨f2, _ | ⟨f3, _ | ⟨f4, _ | ⟨f5, _ | ⟨f6, _ | ⟨f7, _ | ⟨f8, _ | ⟨f9, _ | ⟨f10, r⟩⟩⟩⟩⟩⟩⟩⟩⟩⟩⟩
    · simp at hl
    · simp at hl
    · simp at hl
    · simp at hl
    · simp at hl
    · simp at hl
    · simp at hl
    · simp at hl
    · simp at hl
    · simp at hl
    · exact ⟨f0, f1, f2, f3, f4, f5, f6, f7, f8, f9, rfl⟩
    · simp at hl
  simp only [List.map_cons, List.map_nil, List.cons.injEq, Prod.mk.injEq, and_true] at hf
  obtain ⟨⟨x0, y0, z0⟩, ⟨x1, y1, z1⟩, ⟨x2, y2, z2⟩, ⟨x3, y3, z3⟩, ⟨x4, y4, z4⟩, ⟨x5, y5, z5⟩, ⟨x6, y6, z6⟩, ⟨x7, y7, z7⟩, ⟨x8, y8, z8⟩, x9, y9, z9⟩ := hf
  cases h0 : (e == e')
  · simp [Op.eqFields, part, go_sem, x0, y0, z0, h0]
  cases h1 : (l == l')
  · simp [Op.eqFields, part, go_sem, x0, y0, z0, x1, y1, z1, h0, h1]
  cases h2 : (t == t')
  · simp [Op.eqFields, part, go_sem, x0, y0, z0, x1, y1, z1, x2, y2, z2, h0, h1, h2]
  cases h3 : (k == k')
  · simp [Op.eqFields, part, go_sem, x0, y0, z0, x1, y1, z1, x2, y2, z2, x3, y3, z3, h0, h1, h2, h3]
  cases h4 : (p == p')
  · simp [Op.eqFields, part, go_sem, x0, y0, z0, x1, y1, z1, x2, y2, z2, x3, y3, z3, x4, y4, z4, h0, h1, h2, h3, h4]
  cases h5 : (n == n')
  · simp [Op.eqFields, part, go_sem, x0, y0, z0, x1, y1, z1, x2, y2, z2, x3, y3, z3, x4, y4, z4, x5, y5, z5, h0, h1, h2, h3, h4, h5]
  cases h6 : (g == g')
  · simp [Op.eqFields, part, go_sem, x0, y0, z0, x1, y1, z1, x2, y2, z2, x3, y3, z3, x4, y4, z4, x5, y5, z5, x6, y6, z6, h0, h1, h2, h3, h4, h5, h6]
  cases h7 : (s == s')
  · simp [Op.eqFields, part, go_sem, x0, y0, z0, x1, y1, z1, x2, y2, z2, x3, y3, z3, x4, y4, z4, x5, y5, z5, x6, y6, z6, x7, y7, z7, h0, h1, h2, h3, h4, h5, h6, h7]
  cases h8 : (b.toList == b'.toList)
  · simp [Op.eqFields, part, go_sem, x0, y0, z0, x1, y1, z1, x2, y2, z2, x3, y3, z3, x4, y4, z4, x5, y5, z5, x6, y6, z6, x7, y7, z7, x8, y8, z8, h0, h1, h2, h3, h4, h5, h6, h7, h8]
  cases h9 : (a.toList == a'.toList)
  · simp [Op.eqFields, part, go_sem, x0, y0, z0, x1, y1, z1, x2, y2, z2, x3, y3, z3, x4, y4, z4, x5, y5, z5, x6, y6, z6, x7, y7, z7, x8, y8, z8, x9, y9, z9, h0, h1, h2, h3, h4, h5, h6, h7, h8, h9]
  simp [Op.eqFields, part, go_sem, x0, y0, z0, x1, y1, z1, x2, y2, z2, x3, y3, z3, x4, y4, z4, x5, y5, z5, x6, y6, z6, x7, y7, z7, x8, y8, z8, x9, y9, z9, h0, h1, h2, h3, h4, h5, h6, h7, h8, h9]

end Go.Proofs.Ytimdoaehlciecaa
