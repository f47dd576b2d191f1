/-
  What is taken of the tokens: one that is asked for; a sign.
-/
import Derived.Test.YtbpfpjmjmkpjoaaGreatDoorQb
import Derived.Test.YtbpfpjmjmkpjoaaGreatDoorBx
import Derived.Laws.EntriesVeiled
import Derived.Test.YtbpfpjmjmkpjoaaGreatDoorLb
namespace Go.Proofs.YtbpfpjmjmkpjoaaGreatDoor
open Go Go.RowKit
attribute [local go_sem ↓] Go.wp_at_zero Go.wp_at_succ

set_option linter.unusedVariables false
set_option linter.unusedSimpArgs false
/-- Tokens in memory, below block g. -/
def TkR (g : Nat) (w : World) (a : Option Addr) (T : List ByteArray) : Prop := (∀ t ∈ T, Tok t) ∧
  (0 < T.length → ∃ b off, a = some ⟨b, off, none⟩ ∧ b < g ∧ ∀ i, i < T.length → w.cell? ⟨b, off + i, none⟩ = some (.string (T.getD i ⟨#[]⟩)))
theorem TkR.below {g : Nat} {w w' : World} {a : Option Addr} {T : List ByteArray} (h : TkR g w a T) (hb : Below g w w') : TkR g w' a T := ⟨h.1, fun hT => by
  obtain ⟨b, off, e, hg, hc⟩ := h.2 hT
  exact ⟨b, off, e, hg, fun i hi => (hb.cell (p := ⟨b, off + i, none⟩) hg).trans (hc i hi)⟩⟩
/-- The reader at block g: the tokens that are left, how many nodes are made, how many forms are open. -/
def StI (g : Nat) (w : World) (T : List ByteArray) (n o : Nat) : Prop :=
  ∃ a cap, T.length ≤ cap ∧ 0 ≤ cap ∧ Box w g 106 #[.slice a T.length cap, .int .i64 (n : Int), .int .i64 (o : Int)] ∧ TkR g w a T
theorem box3 {w : World} {g : Nat} {t : TypeId} {v0 v1 v2 : Value} (h : Box w g t #[v0, v1, v2]) : w.cell? ⟨g, 0, none⟩ = some v0 ∧ w.cell? ⟨g, 1, none⟩ = some v1 ∧ w.cell? ⟨g, 2, none⟩ = some v2 := ⟨h.cell 0, h.cell 1, h.cell 2⟩
theorem nxt_cell {g : Nat} {w : World} {a : Option Addr} {T : List ByteArray} (h : TkR g w a T) (hT : 0 < T.length) : ∃ b off, a = some ⟨b, off, none⟩ ∧ b < g ∧ w.cell? ⟨b, off, none⟩ = some (.string (nxt T)) := by
  obtain ⟨b, off, e, hg, hc⟩ := h.2 hT
  refine ⟨b, off, e, hg, ?_⟩
  have := hc 0 hT
  rw [Nat.add_zero] at this
  rw [this]
  cases T with
  | nil => cases hT
  | cons x xs => rfl
set_option maxRecDepth 100000 in
set_option maxHeartbeats 8000000 in
theorem c_next (g : Nat) (w : World) (T : List ByteArray) (n o : Nat) (h : StI g w T n o) :
    Calls Tryz.prog 145 #[.pointer (some ⟨g, 0, none⟩)] w fun e w' => e = .returned (.string (nxt T)) ∧ w' = w := by
  obtain ⟨a, cap, h1, h2, hb, ht⟩ := h
  obtain ⟨x0, x1, x2⟩ := box3 hb
  have lg : g < w.heap.size := World.block_lt_of_cell? w ⟨g, 0, none⟩ x0
  by_cases h0 : T.length = 0
  · obtain rfl : T = [] := List.eq_nil_of_length_eq_zero h0
    simp only [List.length_nil] at x0
    clear hb ht h0
    go_enter Tryz.func145, Tryz.ntmps145
    go_wp2
    go_ret
    exact ⟨rfl, rfl⟩
  · obtain ⟨b, off, rfl, hg, hc⟩ := nxt_cell ht (by omega)
    obtain ⟨N, hN⟩ : ∃ N, T.length = N := ⟨_, rfl⟩
    rw [hN] at x0 h1 h0
    have e1 : (((N : Nat) : Int) == 0) = false := by simp; omega
    have e2 : (0 : Int) < (N : Int) := by omega
    clear hb ht hN
    go_enter Tryz.func145, Tryz.ntmps145
    go_wp2
    go_ret
    exact ⟨rfl, rfl⟩

end Go.Proofs.YtbpfpjmjmkpjoaaGreatDoor
namespace Go.Proofs.YtbpfpjmjmkpjoaaGreatDoor
open Go Go.RowKit
attribute [local go_sem ↓] Go.wp_at_zero Go.wp_at_succ

set_option linter.unusedVariables false
set_option linter.unusedSimpArgs false
theorem tk_drop {g : Nat} {w : World} {b off : Nat} {T : List ByteArray} (h : TkR g w (some ⟨b, off, none⟩) T) (k : Nat) : TkR g w (some ⟨b, off + k, none⟩) (T.drop k) := ⟨fun t ht => h.1 t (List.mem_of_mem_drop ht), fun hk => by
  rw [List.length_drop] at hk
  obtain ⟨b', off', e, hg, hc⟩ := h.2 (by omega)
  cases e
  refine ⟨b, off + k, rfl, hg, fun i hi => ?_⟩
  rw [List.length_drop] at hi
  rw [Nat.add_assoc, hc (k + i) (by omega), List.getD_eq_getElem?_getD, List.getD_eq_getElem?_getD, List.getElem?_drop]⟩
theorem put0 {g : Nat} {w : World} {T' : List ByteArray} {n o : Nat} {a a' : Option Addr} {cap cap' N : Nat} (hb : Box w g 106 #[.slice a N cap, .int .i64 (n : Int), .int .i64 (o : Int)]) (h1 : T'.length ≤ cap') (h2 : 0 ≤ cap') (ht : TkR g w a' T') {k : Nat} (hk : k = T'.length) :
    StI g (w.setCell ⟨g, 0, none⟩ (.slice a' k cap')) T' n o := by
  subst hk
  refine ⟨a', cap', h1, h2, ?_, ht.below ((Below.refl g w).setCell (p := ⟨g, 0, none⟩) (Nat.le_refl g) _)⟩
  have k := hb.set 0 (.slice a' T'.length cap')
  simpa using k
set_option maxRecDepth 100000 in
set_option maxHeartbeats 8000000 in
theorem c_takesN (t : ByteArray) (g : Nat) (w : World) (T : List ByteArray) (n o : Nat) (h : StI g w T n o) (hn : nxt T ≠ t) :
    Calls Tryz.prog 92 #[.pointer (some ⟨g, 0, none⟩), .string t] w fun e w' => e = .returned (.bool false) ∧ w' = w := by
  have C := c_next g w T n o h
  obtain ⟨y, hy⟩ : ∃ y, nxt T = y := ⟨_, rfl⟩
  rw [hy] at hn C
  have q : (y.toList == t.toList) = false := by
    rw [toList_data, toList_data]
    simp only [beq_eq_false_iff_ne, ne_eq]
    exact fun e => hn (ba_eq0 (Array.toList_inj.1 e))
  clear h hy hn
  go_enter Tryz.func92, Tryz.ntmps92
  go_wp2_with fail
  refine C.mono ?_
  rintro e w1 ⟨rfl, rfl⟩
  go_wp2
  go_ret
  exact ⟨rfl, rfl⟩
set_option maxRecDepth 100000 in
set_option maxHeartbeats 8000000 in
theorem c_takesY (g : Nat) (w : World) (T : List ByteArray) (n o : Nat) (t : ByteArray) (h : StI g w T n o) (hn : nxt T = t) (hT : 1 ≤ T.length) :
    Calls Tryz.prog 92 #[.pointer (some ⟨g, 0, none⟩), .string t] w fun e w' => e = .returned (.bool true) ∧ StI g w' (T.drop 1) n o ∧ Below g w w' := by
  have C := c_next g w T n o h
  rw [hn] at C
  obtain ⟨a, cap, h1, h2, hb, ht⟩ := h
  obtain ⟨x0, x1, x2⟩ := box3 hb
  have lg : g < w.heap.size := World.block_lt_of_cell? w ⟨g, 0, none⟩ x0
  obtain ⟨b, off, rfl, hg, hc⟩ := nxt_cell ht (by omega)
  obtain ⟨N, hN⟩ : ∃ N, T.length = N := ⟨_, rfl⟩
  have q : (t.toList == t.toList) = true := by simp
  have t0 := hb.thaw 0
  have HB : Hid (Box w g 106 #[.slice (some ⟨b, off, none⟩) N cap, .int .i64 (n : Int), .int .i64 (o : Int)]) := by unfold Hid; rw [← hN]; exact hb
  have HT : Hid (TkR g w (some ⟨b, off, none⟩) T) := ht
  have HL : Hid (T.length = N) := hN
  rw [hN] at x0 h1 hT
  have e1 : (0 : Int) ≤ 1 := by omega
  have e2 : (1 : Int) ≤ (N : Int) := by omega
  have e3 : (N : Int) ≤ (cap : Int) := by omega
  clear hb ht hN hn hc
  go_enter Tryz.func92, Tryz.ntmps92
  go_wp2_with fail
  refine C.mono ?_
  rintro e w1 ⟨rfl, rfl⟩
  clear C
  by_cases hc1 : cap = 1
  · subst hc1
    go_wp2
    go_ret
    have hl : (T.drop 1).length = 0 := by rw [List.length_drop, HL.out]; omega
    refine ⟨rfl, put0 HB.out (by rw [hl]; omega) (by omega) ⟨fun t ht => HT.out.1 t (List.mem_of_mem_drop ht), fun h => by omega⟩ (by rw [hl]), (Below.refl g w1).setCell (p := ⟨g, 0, none⟩) (Nat.le_refl g) _⟩
  · go_wp2
    go_ret
    have hl : (T.drop 1).length = N - 1 := by rw [List.length_drop, HL.out]
    refine ⟨rfl, put0 HB.out (by rw [hl]; omega) (by omega) (tk_drop HT.out 1) (by rw [hl]), (Below.refl g w1).setCell (p := ⟨g, 0, none⟩) (Nat.le_refl g) _⟩

theorem put1 {g : Nat} {w : World} {T : List ByteArray} {n o k : Nat} (h : StI g w T n o) : StI g (w.setCell ⟨g, 1, none⟩ (.int .i64 (k : Int))) T k o := by
  obtain ⟨a, cap, h1, h2, hb, ht⟩ := h
  refine ⟨a, cap, h1, h2, ?_, ht.below ((Below.refl g w).setCell (p := ⟨g, 1, none⟩) (Nat.le_refl g) _)⟩
  have k := hb.set 1 (.int .i64 (k : Int))
  simpa using k
theorem put2 {g : Nat} {w : World} {T : List ByteArray} {n o k : Nat} (h : StI g w T n o) : StI g (w.setCell ⟨g, 2, none⟩ (.int .i64 (k : Int))) T n k := by
  obtain ⟨a, cap, h1, h2, hb, ht⟩ := h
  refine ⟨a, cap, h1, h2, ?_, ht.below ((Below.refl g w).setCell (p := ⟨g, 2, none⟩) (Nat.le_refl g) _)⟩
  have k := hb.set 2 (.int .i64 (k : Int))
  simpa using k
theorem StI.below {g : Nat} {w w' : World} {T : List ByteArray} {n o : Nat} (h : StI g w T n o) (hb : Below w.heap.size w w') : StI g w' T n o := by
  obtain ⟨a, cap, h1, h2, hx, ht⟩ := h
  have lg : g < w.heap.size := World.block_lt_of_cell? w ⟨g, 0, none⟩ (box3 hx).1
  exact ⟨a, cap, h1, h2, hx.belowS hb, ht.below (hb.mono (by omega))⟩
theorem StI.lt {g : Nat} {w : World} {T : List ByteArray} {n o : Nat} (h : StI g w T n o) : g < w.heap.size := by
  obtain ⟨a, cap, h1, h2, hx, ht⟩ := h
  exact World.block_lt_of_cell? w ⟨g, 0, none⟩ (box3 hx).1
set_option maxRecDepth 100000 in
set_option maxHeartbeats 8000000 in
theorem c_madeM (g : Nat) (w : World) (T : List ByteArray) (n o : Nat) (v : Value) (h : StI g w T n o) (hn : n = 40) :
    Calls Tryz.prog 202 #[.pointer (some ⟨g, 0, none⟩), v] w fun e w' => e = .returned (.tuple #[.nilIface, .int .i64 6]) ∧ w' = w := by
  subst hn
  obtain ⟨a, cap, h1, h2, hb, ht⟩ := h
  obtain ⟨x0, x1, x2⟩ := box3 hb
  have lg : g < w.heap.size := World.block_lt_of_cell? w ⟨g, 0, none⟩ x0
  have e1 : (((40 : Nat) : Int) == 40) = true := by decide
  clear hb ht
  go_enter Tryz.func202, Tryz.ntmps202
  go_wp2
  go_ret2
  exact ⟨rfl, rfl⟩
set_option maxRecDepth 100000 in
set_option maxHeartbeats 8000000 in
theorem c_made (g : Nat) (w : World) (T : List ByteArray) (n o : Nat) (v : Value) (h : StI g w T n o) (hn : n < 40) :
    Calls Tryz.prog 202 #[.pointer (some ⟨g, 0, none⟩), v] w fun e w' => e = .returned (.tuple #[v, .int .i64 0]) ∧ StI g w' T (n + 1) o ∧ Below g w w' := by
  have HS : Hid (StI g w T n o) := h
  obtain ⟨a, cap, h1, h2, hb, ht⟩ := h
  obtain ⟨x0, x1, x2⟩ := box3 hb
  have lg : g < w.heap.size := World.block_lt_of_cell? w ⟨g, 0, none⟩ x0
  have e1 : ((n : Int) == 40) = false := by simp; omega
  have e2 : IntKind.i64.wrap ((n : Int) + 1) = (n : Int) + 1 := by simp [IntKind.wrap_i64]; omega
  have t1 := hb.thaw 1
  clear hb ht
  go_enter Tryz.func202, Tryz.ntmps202
  go_wp2
  go_ret2
  have k := put1 (k := n + 1) HS.out
  rw [Int.natCast_add] at k
  exact ⟨rfl, k, (Below.refl g w).setCell (p := ⟨g, 1, none⟩) (Nat.le_refl g) _⟩

end Go.Proofs.YtbpfpjmjmkpjoaaGreatDoor
