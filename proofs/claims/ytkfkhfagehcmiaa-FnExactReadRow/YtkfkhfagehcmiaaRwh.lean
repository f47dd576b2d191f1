/-
  Rows that are read: the program.
-/
import Derived.Test.YtkfkhfagehcmiaaRwa
import Derived.Test.YtkfkhfagehcmiaaKj
import Derived.Deep.QuietTactic
import Derived.BigQuiet
import Derived.Deep.RegionHeld3
namespace Go.Proofs.Ytkfkhfagehcmiaa
open Go Go.RowKit
attribute [local go_sem ↓] Go.wp_at_zero Go.wp_at_succ

theorem thaw7 {w : World} {g : Nat} {t : TypeId} {c : Array Value} (h : Box w g t c) : w.frozen? ⟨g, 0, none⟩ = false ∧ w.frozen? ⟨g, 1, none⟩ = false ∧ w.frozen? ⟨g, 2, none⟩ = false ∧ w.frozen? ⟨g, 3, none⟩ = false ∧ w.frozen? ⟨g, 4, none⟩ = false ∧ w.frozen? ⟨g, 5, none⟩ = false ∧ w.frozen? ⟨g, 6, none⟩ = false := ⟨h.thaw 0, h.thaw 1, h.thaw 2, h.thaw 3, h.thaw 4, h.thaw 5, h.thaw 6⟩
set_option maxRecDepth 100000 in
set_option maxHeartbeats 4000000 in
theorem c_eqRow (i : Int) (u v : VV) (w : World) :
    Calls Try.prog 43 #[.agg #[.int .i64 i, .int .i64 u.1, .int .i64 u.2.1, .string u.2.2, .int .i64 v.1, .int .i64 v.2.1, .string v.2.2], .agg #[.int .i64 i, .int .i64 u.1, .int .i64 u.2.1, .string u.2.2, .int .i64 v.1, .int .i64 v.2.1, .string v.2.2]] w fun e w' => e = .returned (.bool true) ∧ Below w.heap.size w w' := by
  obtain ⟨V0, hV0⟩ : ∃ V, w.alloc (.cells #[.int .i64 i, .int .i64 u.1, .int .i64 u.2.1, .string u.2.2, .int .i64 v.1, .int .i64 v.2.1, .string v.2.2] 59) = V := ⟨_, rfl⟩
  obtain ⟨V, hV⟩ : ∃ V, V0.alloc (.cells #[.int .i64 i, .int .i64 u.1, .int .i64 u.2.1, .string u.2.2, .int .i64 v.1, .int .i64 v.2.1, .string v.2.2] 59) = V := ⟨_, rfl⟩
  have hb0 : Below w.heap.size w V0 := by rw [← hV0]; exact (Below.refl _ _).alloc (Nat.le_refl _) _
  have hb1 : Below V0.heap.size V0 V := by rw [← hV]; exact (Below.refl _ _).alloc (Nat.le_refl _) _
  have BV : Hid (Below w.heap.size w V) := hb0.trans (hb1.mono hb0.size)
  have X : Hid (Box V w.heap.size 59 #[.int .i64 i, .int .i64 u.1, .int .i64 u.2.1, .string u.2.2, .int .i64 v.1, .int .i64 v.2.1, .string v.2.2]) := (show Box V0 w.heap.size 59 #[.int .i64 i, .int .i64 u.1, .int .i64 u.2.1, .string u.2.2, .int .i64 v.1, .int .i64 v.2.1, .string v.2.2] by rw [← hV0]; exact Box.new _ _ _).belowS hb1
  have Y : Hid (Box V V0.heap.size 59 #[.int .i64 i, .int .i64 u.1, .int .i64 u.2.1, .string u.2.2, .int .i64 v.1, .int .i64 v.2.1, .string v.2.2]) := by unfold Hid; rw [← hV]; exact Box.new _ _ _
  obtain ⟨x0, x1, x2, x3, x4, x5, x6⟩ := box7 X.out
  obtain ⟨y0, y1, y2, y3, y4, y5, y6⟩ := box7 Y.out
  have C1 : Hid (∀ W : World, Calls Try.prog 16 #[.agg #[.int .i64 u.1, .int .i64 u.2.1, .string u.2.2], .agg #[.int .i64 u.1, .int .i64 u.2.1, .string u.2.2]] W fun e w' => e = .returned (.bool true) ∧ Below W.heap.size W w') := fun W => by
    have := c_eqV1 u u W
    simpa using this
  have C2 : Hid (∀ W : World, Calls Try.prog 16 #[.agg #[.int .i64 v.1, .int .i64 v.2.1, .string v.2.2], .agg #[.int .i64 v.1, .int .i64 v.2.1, .string v.2.2]] W fun e w' => e = .returned (.bool true) ∧ Below W.heap.size W w') := fun W => by
    have := c_eqV1 v v W
    simpa using this
  have ei : (i != i) = false := by simp
  clear hb0 hb1
  go_enter Try.func43, Try.ntmps43
  go_wp2_with fail
  refine (C1.out _).mono ?_
  rintro e w1 ⟨rfl, hb⟩
  clear hV hV0
  have B1 : Hid (Below w.heap.size w w1) := BV.out.trans (hb.mono BV.out.size)
  have X1 : Hid (Box w1 w.heap.size 59 #[.int .i64 i, .int .i64 u.1, .int .i64 u.2.1, .string u.2.2, .int .i64 v.1, .int .i64 v.2.1, .string v.2.2]) := X.out.belowS hb
  have Y1 : Hid (Box w1 V0.heap.size 59 #[.int .i64 i, .int .i64 u.1, .int .i64 u.2.1, .string u.2.2, .int .i64 v.1, .int .i64 v.2.1, .string v.2.2]) := Y.out.belowS hb
  clear hb x0 x1 x2 x3 x4 x5 x6 y0 y1 y2 y3 y4 y5 y6
  obtain ⟨x0, x1, x2, x3, x4, x5, x6⟩ := box7 X1.out
  obtain ⟨y0, y1, y2, y3, y4, y5, y6⟩ := box7 Y1.out
  go_wp2_with fail
  refine (C2.out _).mono ?_
  rintro e w2 ⟨rfl, hb⟩
  have B2 : Hid (Below w.heap.size w w2) := B1.out.trans (hb.mono B1.out.size)
  clear hb
  go_wp2
  go_ret
  exact ⟨rfl, B2.out⟩
def rrO (l : List VV) : Option (Int × Int × VV × VV) := match l with
  | [a, b, u, v] => if a.1 = 1 ∧ b.1 = 1 ∧ inB a.2.1 1 3 = true ∧ rowB b.2.1 u v = true then some (a.2.1, b.2.1, u, v) else none
  | _ => none
def rrAns (zs : List Int) : Int × Int × Int × VV × VV := if 65536 < zs.length then (2, 0, 0, dV, dV) else match (rk zs).bind rrO with
  | none => (3, 0, 0, dV, dV)
  | some (t, i, u, v) => (0, t, i, u, v)
theorem rrO_len {l : List VV} (h : ¬ l.length = 4) : rrO l = none := by
  unfold rrO
  split
  · exact absurd rfl h
  · rfl
theorem rrO_no {a b u v : VV} (h : ¬ (a.1 = 1 ∧ b.1 = 1 ∧ inB a.2.1 1 3 = true ∧ rowB b.2.1 u v = true)) : rrO [a, b, u, v] = none := by
  show (if _ then _ else _) = _
  rw [if_neg h]
theorem rrO_yes {a b u v : VV} (h : a.1 = 1 ∧ b.1 = 1 ∧ inB a.2.1 1 3 = true ∧ rowB b.2.1 u v = true) : rrO [a, b, u, v] = some (a.2.1, b.2.1, u, v) := by
  show (if _ then _ else _) = _
  rw [if_pos h]
theorem rr2 {zs : List Int} (h : 65536 < zs.length) : rrAns zs = (2, 0, 0, dV, dV) := by unfold rrAns; rw [if_pos h]
theorem rr3 {zs : List Int} (h : ¬ 65536 < zs.length) (h2 : rk zs = none) : rrAns zs = (3, 0, 0, dV, dV) := by unfold rrAns; rw [if_neg h, h2]; rfl
theorem rr3' {zs : List Int} {l : List VV} (h : ¬ 65536 < zs.length) (h2 : rk zs = some l) (h3 : rrO l = none) : rrAns zs = (3, 0, 0, dV, dV) := by
  unfold rrAns; rw [if_neg h, h2, Option.bind_some, h3]
theorem rr0 {zs : List Int} {l : List VV} {t i : Int} {u v : VV} (h : ¬ 65536 < zs.length) (h2 : rk zs = some l) (h3 : rrO l = some (t, i, u, v)) : rrAns zs = (0, t, i, u, v) := by
  unfold rrAns; rw [if_neg h, h2, Option.bind_some, h3]
theorem list4 {l : List VV} (h : l.length = 4) : ∃ a b u v, l = [a, b, u, v] := by
  match l, h with
  | [a, b, u, v], _ => exact ⟨a, b, u, v, rfl⟩
def AnsW (w : World) (zs : List Int) (e : Ending) (w' : World) : Prop :=
  e = .returned (.tuple #[.int .i64 (rrAns zs).2.1, .agg #[.int .i64 (rrAns zs).2.2.1, .int .i64 (rrAns zs).2.2.2.1.1, .int .i64 (rrAns zs).2.2.2.1.2.1, .string (rrAns zs).2.2.2.1.2.2, .int .i64 (rrAns zs).2.2.2.2.1, .int .i64 (rrAns zs).2.2.2.2.2.1, .string (rrAns zs).2.2.2.2.2.2], .int .i64 (rrAns zs).1]) ∧ Below w.heap.size w w'
theorem ansW {w w' : World} {zs : List Int} {c t i : Int} {u v : VV} (h : rrAns zs = (c, t, i, u, v)) (hb : Below w.heap.size w w') : AnsW w zs (.returned (.tuple #[.int .i64 t, .agg #[.int .i64 i, .int .i64 u.1, .int .i64 u.2.1, .string u.2.2, .int .i64 v.1, .int .i64 v.2.1, .string v.2.2], .int .i64 c])) w' := by
  unfold AnsW
  rw [h]
  exact ⟨rfl, hb⟩
def put7 (w : World) (g : Nat) (v0 v1 v2 v3 v4 v5 v6 : Value) : World := ((((((w.setCell ⟨g, 0, none⟩ v0).setCell ⟨g, 1, none⟩ v1).setCell ⟨g, 2, none⟩ v2).setCell ⟨g, 3, none⟩ v3).setCell ⟨g, 4, none⟩ v4).setCell ⟨g, 5, none⟩ v5).setCell ⟨g, 6, none⟩ v6
theorem put7_box {w : World} {g : Nat} {t : TypeId} {a0 a1 a2 a3 a4 a5 a6 : Value} (h : Box w g t #[a0, a1, a2, a3, a4, a5, a6]) (v0 v1 v2 v3 v4 v5 v6 : Value) : Box (put7 w g v0 v1 v2 v3 v4 v5 v6) g t #[v0, v1, v2, v3, v4, v5, v6] := by
  have h0 : Box (w.setCell ⟨g, 0, none⟩ v0) g t #[v0, a1, a2, a3, a4, a5, a6] := h.set 0 v0
  have h1 : Box ((w.setCell ⟨g, 0, none⟩ v0).setCell ⟨g, 1, none⟩ v1) g t #[v0, v1, a2, a3, a4, a5, a6] := h0.set 1 v1
  have h2 := h1.set 2 v2
  have h3 := h2.set 3 v3
  have h4 := h3.set 4 v4
  have h5 := h4.set 5 v5
  exact h5.set 6 v6
theorem put7_below {w w' : World} {g B : Nat} (h : Below B w w') (hg : B ≤ g) (v0 v1 v2 v3 v4 v5 v6 : Value) : Below B w (put7 w' g v0 v1 v2 v3 v4 v5 v6) := ((((((h.setCell hg _).setCell hg _).setCell hg _).setCell hg _).setCell hg _).setCell hg _).setCell hg _
theorem put7_other {w : World} {g g' : Nat} {t : TypeId} {c : Array Value} (h : Box w g' t c) (hn : g' ≠ g) (v0 v1 v2 v3 v4 v5 v6 : Value) : Box (put7 w g v0 v1 v2 v3 v4 v5 v6) g' t c := ((((((h.setOther ⟨g, 0, none⟩ _ hn).setOther ⟨g, 1, none⟩ _ hn).setOther ⟨g, 2, none⟩ _ hn).setOther ⟨g, 3, none⟩ _ hn).setOther ⟨g, 4, none⟩ _ hn).setOther ⟨g, 5, none⟩ _ hn).setOther ⟨g, 6, none⟩ _ hn
theorem retW {fn : Func} {w w' : World} {g : Nat} {a : Act} {zs : List Int} {c t i : Int} {u v : VV} (hres : fn.results = #[.tmp 2, .cell 3 59, .tmp 4]) (h2 : a.tmps.getD 2 undef = .int .i64 t) (h3 : a.tmps.getD 3 undef = .pointer (some ⟨g, 0, none⟩)) (h4 : a.tmps.getD 4 undef = .int .i64 c) (hd : a.defers = []) (hb : Box w' g 59 #[.int .i64 i, .int .i64 u.1, .int .i64 u.2.1, .string u.2.2, .int .i64 v.1, .int .i64 v.2.1, .string v.2.2]) (h : rrAns zs = (c, t, i, u, v)) (hbel : Below w.heap.size w w') :
    bodyPost Try.prog fn (AnsW w zs) .ret a w' := by
  obtain ⟨b0, b1, b2, b3, b4, b5, b6⟩ := box7 hb
  refine bodyPost_ret (v := .tuple #[.int .i64 t, .agg #[.int .i64 i, .int .i64 u.1, .int .i64 u.2.1, .string u.2.2, .int .i64 v.1, .int .i64 v.2.1, .string v.2.2], .int .i64 c]) ?_ hd (ansW h hbel)
  have h2' : a.tmps[2]?.getD undef = .int .i64 t := by simpa using h2
  have h3' : a.tmps[3]?.getD undef = .pointer (some ⟨g, 0, none⟩) := by simpa using h3
  have h4' : a.tmps[4]?.getD undef = .int .i64 c := by simpa using h4
  have hl : (loadVar 59 ⟨g, 0, none⟩).run Try.prog w' = .ok (.agg #[.int .i64 i, .int .i64 u.1, .int .i64 u.2.1, .string u.2.2, .int .i64 v.1, .int .i64 v.2.1, .string v.2.2]) w' := by simp [go_sem, b0, b1, b2, b3, b4, b5, b6]
  simp only [results, hres]
  simp [h2', h3', h4', asAddr, hl]

end Go.Proofs.Ytkfkhfagehcmiaa
