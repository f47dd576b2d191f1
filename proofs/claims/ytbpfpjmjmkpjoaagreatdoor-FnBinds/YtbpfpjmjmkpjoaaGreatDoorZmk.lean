/-
  The levels of the program's parser: which sign stands ahead.
-/
import Derived.Test.YtbpfpjmjmkpjoaaGreatDoorZml
import Derived.Test.YtbpfpjmjmkpjoaaGreatDoorYq
import Derived.Deep.QuietTactic
import Derived.BigQuiet
import Derived.Deep.RegionHeld3
namespace Go.Proofs.YtbpfpjmjmkpjoaaGreatDoor
open Go Go.RowKit
attribute [local go_sem ↓] Go.wp_at_zero Go.wp_at_succ

set_option linter.unusedVariables false
set_option linter.unusedSimpArgs false
/-- What a level answers, and the reader behind it. -/
def AnsR (g o : Nat) (r : Res) (e : Ending) (w' : World) : Prop :=
  match r with
  | .err c => e = .returned (.tuple #[.nilIface, .int .i64 c]) ∧ ((c == 0) = false) ∧ ∃ T n, StI g w' T n o
  | .ok p T n => e = .returned (.tuple #[p.enc, .int .i64 0]) ∧ StI g w' T n o
/-- The library's errors, as its variables hold them. -/
def TabE (w : World) : Prop := (∃ ev, w.cell? ⟨10, 0, none⟩ = some ev ∧ (ev = .nilIface ∨ ∃ te pe, ev = .iface te pe)) ∧ ∃ ev, w.cell? ⟨11, 0, none⟩ = some ev ∧ (ev = .nilIface ∨ ∃ te pe, ev = .iface te pe)
theorem TabE.below {w w' : World} (h : TabE w) (hb : Below w.heap.size w w') : TabE w' := by
  obtain ⟨⟨e1, h1, h2⟩, e2, h3, h4⟩ := h
  exact ⟨⟨e1, far6 hb h1, h2⟩, e2, far6 hb h3, h4⟩
/-- The tables lie below block g. -/
def TbG (g : Nat) (w : World) : Prop := ∃ W0, Tabs W0 ∧ TabE W0 ∧ W0.heap.size ≤ g ∧ Below W0.heap.size W0 w
theorem TbG.tabs {g : Nat} {w : World} (h : TbG g w) : Tabs w := by obtain ⟨W0, h1, _, _, h2⟩ := h; exact h1.below h2
theorem TbG.errs {g : Nat} {w : World} (h : TbG g w) : TabE w := by obtain ⟨W0, _, h1, _, h2⟩ := h; exact h1.below h2
theorem TbG.two {g : Nat} {w : World} (h : TbG g w) : 2 < g := by
  obtain ⟨W0, h1, _, h3, _⟩ := h
  have := World.block_lt_of_cell? W0 ⟨2, 0, none⟩ h1.s.1
  exact Nat.lt_of_lt_of_le this h3
theorem TbG.below {g : Nat} {w w' : World} (h : TbG g w) (hb : Below g w w') : TbG g w' := by
  obtain ⟨W0, h1, h2, h3, h4⟩ := h
  exact ⟨W0, h1, h2, h3, h4.trans (hb.mono h3)⟩
/-- A level's contract over tokens. -/
def IC (f : Nat) (l : Lv) (T : List ByteArray) : Prop := ∀ (g : Nat) (w : World) (n o : Nat) (r : Res), StI g w T n o → TbG g w → n ≤ 40 → o ≤ 48 → Parses l o T n r →
  Calls Tryz.prog f #[.pointer (some ⟨g, 0, none⟩)] w fun e w' => AnsR g o r e w' ∧ Below g w w'
/-- A function that is entered when it is called. -/
def Ent (f : Nat) : Prop := ∀ (args : Array Value) (w : World), (callFunc f args).run Tryz.prog w = .ok (.enter f args) w
set_option maxRecDepth 100000 in
set_option maxHeartbeats 8000000 in
theorem c_openedD (g : Nat) (w : World) (T : List ByteArray) (n o : Nat) (f : Value) (h : StI g w T n o) (ho : o = 48) :
    Calls Tryz.prog 225 #[.pointer (some ⟨g, 0, none⟩), f] w fun e w' => AnsR g o (.err 16) e w' ∧ Below g w w' := by
  subst ho
  have HS : Hid (StI g w T n 48) := h
  obtain ⟨a, cap, h1, h2, hb, ht⟩ := h
  obtain ⟨x0, x1, x2⟩ := box3 hb
  have lg : g < w.heap.size := World.block_lt_of_cell? w ⟨g, 0, none⟩ x0
  have e1 : (((48 : Nat) : Int) == 48) = true := by decide
  clear hb ht
  go_enter Tryz.func225, Tryz.ntmps225
  go_wp2
  go_ret2
  exact ⟨⟨rfl, by decide, T, n, HS.out⟩, Below.refl _ _⟩
set_option maxRecDepth 100000 in
set_option maxHeartbeats 8000000 in
theorem c_opened (g : Nat) (w : World) (T : List ByteArray) (n o f : Nat) (r : Res) (h : StI g w T n o) (ho : o < 48) (he : Ent f)
    (hf : ∀ w1, StI g w1 T n (o + 1) → Below g w w1 → Calls Tryz.prog f #[.pointer (some ⟨g, 0, none⟩)] w1 fun e w' => AnsR g (o + 1) r e w' ∧ Below g w1 w') :
    Calls Tryz.prog 225 #[.pointer (some ⟨g, 0, none⟩), .func (Fn.func f) #[.pointer (some ⟨g, 0, none⟩)] #[]] w fun e w' => AnsR g o r e w' ∧ Below g w w' := by
  have HS : Hid (StI g w T n o) := h
  obtain ⟨a, cap, h1, h2, hb, ht⟩ := h
  obtain ⟨x0, x1, x2⟩ := box3 hb
  have lg : g < w.heap.size := World.block_lt_of_cell? w ⟨g, 0, none⟩ x0
  have e1 : ((o : Int) == 48) = false := by simp; omega
  have e2 : IntKind.i64.wrap ((o : Int) + 1) = (o : Int) + 1 := by simp [IntKind.wrap_i64]; omega
  have e3 : IntKind.i64.wrap ((o : Int) + 1 - 1) = (o : Int) := by simp [IntKind.wrap_i64]; omega
  have t2 := hb.thaw 2
  obtain ⟨V, hV⟩ : ∃ V, w.setCell ⟨g, 2, none⟩ (.int .i64 ((o : Int) + 1)) = V := ⟨_, rfl⟩
  have b1 : Below g w V := by rw [← hV]; exact (Below.refl g w).setCell (p := ⟨g, 2, none⟩) (Nat.le_refl g) _
  have S1 : StI g V T n (o + 1) := by
    have k := put2 (k := o + 1) HS.out
    rw [Int.natCast_add] at k
    rw [← hV]; exact k
  have C := hf V S1 b1
  unfold Ent at he
  have B1 : Hid (Below g w V) := b1
  clear hb ht S1 b1 hf HS
  go_enter Tryz.func225, Tryz.ntmps225
  go_wp2_with fail
  refine C.mono ?_
  rintro e w1 ⟨hr, hb1⟩
  have B2 : Hid (Below g w w1) := B1.out.trans hb1
  clear C hb1 hV x0 x1 x2 t2 lg B1
  cases r with
  | err c =>
    obtain ⟨rfl, hc, T1, n1, hs⟩ := hr
    have HS : Hid (StI g w1 T1 n1 (o + 1)) := hs
    obtain ⟨a, cap, h1, h2, hb, ht⟩ := hs
    obtain ⟨x0, x1, x2⟩ := box3 hb
    have lg : g < w1.heap.size := World.block_lt_of_cell? w1 ⟨g, 0, none⟩ x0
    rw [Int.natCast_add] at x2
    have t2 := hb.thaw 2
    clear hb ht
    have HC : Hid ((c == 0) = false) := hc
    clear hc
    go_wp2
    go_ret2
    exact ⟨⟨rfl, HC.out, T1, n1, put2 HS.out⟩, B2.out.setCell (p := ⟨g, 2, none⟩) (Nat.le_refl g) _⟩
  | ok p T1 n1 =>
    obtain ⟨rfl, hs⟩ := hr
    have HS : Hid (StI g w1 T1 n1 (o + 1)) := hs
    obtain ⟨a, cap, h1, h2, hb, ht⟩ := hs
    obtain ⟨x0, x1, x2⟩ := box3 hb
    have lg : g < w1.heap.size := World.block_lt_of_cell? w1 ⟨g, 0, none⟩ x0
    rw [Int.natCast_add] at x2
    have t2 := hb.thaw 2
    clear hb ht
    go_wp2
    go_ret2
    exact ⟨⟨rfl, put2 HS.out⟩, B2.out.setCell (p := ⟨g, 2, none⟩) (Nat.le_refl g) _⟩

end Go.Proofs.YtbpfpjmjmkpjoaaGreatDoor
namespace Go.Proofs.YtbpfpjmjmkpjoaaGreatDoor
open Go Go.RowKit
attribute [local go_sem ↓] Go.wp_at_zero Go.wp_at_succ

set_option linter.unusedVariables false
set_option linter.unusedSimpArgs false
/-- What a form of one part is, of what its part is. -/
def unR (k : Int) : Res → Res
  | .err c => .err c
  | .ok p T n => if n = 40 then .err 6 else .ok (.una k p) T (n + 1)
/-- What a form of two parts is, of what its right part is. -/
def biR (k : Int) (l : PT) : Res → Res
  | .err c => .err c
  | .ok p T n => if n = 40 then .err 6 else .ok (.bin k l p) T (n + 1)
def Res.fits : Res → Prop
  | .err _ => True
  | .ok _ _ n => n ≤ 40
theorem enc_if2 (p : PT) : ∃ T v, p.enc = .iface T v := by cases p <;> exact ⟨_, _, rfl⟩
theorem St_n {g : Nat} {w : World} {T : List ByteArray} {n o : Nat} (h : StI g w T n o) : g < w.heap.size := h.lt
set_option maxRecDepth 100000 in
set_option maxHeartbeats 8000000 in
theorem c_unaryD (g : Nat) (w : World) (T : List ByteArray) (n o : Nat) (k : Int) (f : Value) (h : StI g w T n o) (ho : o = 48) :
    Calls Tryz.prog 203 #[.pointer (some ⟨g, 0, none⟩), .int .i64 k, f] w fun e w' => AnsR g o (.err 16) e w' ∧ Below g w w' := by
  have C := c_openedD g w T n o f h ho
  clear h ho
  go_enter Tryz.func203, Tryz.ntmps203
  go_wp2_with fail
  refine C.mono ?_
  rintro e w1 ⟨⟨rfl, _, hs⟩, hb1⟩
  have HS : Hid (∃ T n, StI g w1 T n o) := hs
  have HB : Hid (Below g w w1) := hb1
  clear C hs hb1
  go_wp2
  go_ret2
  exact ⟨⟨rfl, by decide, HS.out⟩, HB.out⟩
set_option maxRecDepth 100000 in
set_option maxHeartbeats 8000000 in
theorem c_unary (g : Nat) (w : World) (T : List ByteArray) (n o f : Nat) (k : Int) (r : Res) (h : StI g w T n o) (ho : o < 48) (he : Ent f) (hr : r.fits)
    (hf : ∀ w1, StI g w1 T n (o + 1) → Below g w w1 → Calls Tryz.prog f #[.pointer (some ⟨g, 0, none⟩)] w1 fun e w' => AnsR g (o + 1) r e w' ∧ Below g w1 w') :
    Calls Tryz.prog 203 #[.pointer (some ⟨g, 0, none⟩), .int .i64 k, .func (Fn.func f) #[.pointer (some ⟨g, 0, none⟩)] #[]] w fun e w' => AnsR g o (unR k r) e w' ∧ Below g w w' := by
  have C := c_opened g w T n o f r h ho he hf
  clear h ho hf he
  cases r with
  | err c =>
    go_enter Tryz.func203, Tryz.ntmps203
    go_wp2_with fail
    refine C.mono ?_
    rintro e w1 ⟨⟨rfl, hc, hs⟩, hb1⟩
    have HS : Hid (∃ T n, StI g w1 T n o) := hs
    have HB : Hid (Below g w w1) := hb1
    have HC : Hid ((c == 0) = false) := hc
    clear C hs hb1
    go_wp2
    go_ret2
    exact ⟨⟨rfl, HC.out, HS.out⟩, HB.out⟩
  | ok p T1 n1 =>
    have hn : n1 ≤ 40 := hr
    obtain ⟨T9, y9, hy⟩ := enc_if2 p
    by_cases h4 : n1 = 40
    · have E : Hid (unR k (.ok p T1 n1) = .err 6) := by unfold Hid unR; simp only [h4, if_true]
      go_enter Tryz.func203, Tryz.ntmps203
      go_wp2_with fail
      refine C.mono ?_
      rintro e w1 ⟨⟨rfl, hs⟩, hb1⟩
      rw [hy]
      have C2 := c_madeM g w1 T1 n1 o (.iface 130 (.agg #[.int .i64 k, .iface T9 y9])) hs h4
      have HS : Hid (StI g w1 T1 n1 o) := hs
      have HB : Hid (Below g w w1) := hb1
      clear C hs hb1 hy h4 hn hr
      go_wp2_with fail
      refine C2.mono ?_
      rintro e w2 ⟨rfl, rfl⟩
      go_wp2
      go_ret2
      rw [E.out]
      exact ⟨⟨rfl, by decide, T1, n1, HS.out⟩, HB.out⟩
    · have E : Hid (unR k (.ok p T1 n1) = .ok (.una k p) T1 (n1 + 1)) := by unfold Hid unR; simp only [if_neg h4]
      have HY : Hid ((PT.una k p).enc = .iface 130 (.agg #[.int .i64 k, .iface T9 y9])) := by unfold Hid; rw [← hy]; rfl
      go_enter Tryz.func203, Tryz.ntmps203
      go_wp2_with fail
      refine C.mono ?_
      rintro e w1 ⟨⟨rfl, hs⟩, hb1⟩
      rw [hy]
      have C2 := c_made g w1 T1 n1 o (.iface 130 (.agg #[.int .i64 k, .iface T9 y9])) hs (by omega)
      have HB : Hid (Below g w w1) := hb1
      clear C hs hb1 hy h4 hn hr
      go_wp2_with fail
      refine C2.mono ?_
      rintro e w2 ⟨rfl, hs2, hb2⟩
      have HS : Hid (StI g w2 T1 (n1 + 1) o) := hs2
      have HB2 : Hid (Below g w w2) := HB.out.trans hb2
      clear C2 hs2 hb2
      go_wp2
      go_ret2
      rw [E.out]
      exact ⟨⟨by rw [HY.out]; rfl, HS.out⟩, HB2.out⟩
set_option maxRecDepth 100000 in
set_option maxHeartbeats 8000000 in
theorem c_binary (g : Nat) (w : World) (o f : Nat) (k : Int) (l : PT) (r : Res) (he : Ent f) (hr : r.fits)
    (hf : Calls Tryz.prog f #[.pointer (some ⟨g, 0, none⟩)] w fun e w' => AnsR g o r e w' ∧ Below g w w') :
    Calls Tryz.prog 174 #[.pointer (some ⟨g, 0, none⟩), .int .i64 k, l.enc, .func (Fn.func f) #[.pointer (some ⟨g, 0, none⟩)] #[]] w fun e w' => AnsR g o (biR k l r) e w' ∧ Below g w w' := by
  have C := hf
  unfold Ent at he
  obtain ⟨T8, z8, hz⟩ := enc_if2 l
  rw [hz]
  clear hf
  cases r with
  | err c =>
    go_enter Tryz.func174, Tryz.ntmps174
    go_wp2_with fail
    refine C.mono ?_
    rintro e w1 ⟨⟨rfl, hc, hs⟩, hb1⟩
    have HS : Hid (∃ T n, StI g w1 T n o) := hs
    have HB : Hid (Below g w w1) := hb1
    have HC : Hid ((c == 0) = false) := hc
    clear C hs hb1
    go_wp2
    go_ret2
    exact ⟨⟨rfl, HC.out, HS.out⟩, HB.out⟩
  | ok p T1 n1 =>
    have hn : n1 ≤ 40 := hr
    obtain ⟨T9, y9, hy⟩ := enc_if2 p
    by_cases h4 : n1 = 40
    · have E : Hid (biR k l (.ok p T1 n1) = .err 6) := by unfold Hid biR; simp only [h4, if_true]
      go_enter Tryz.func174, Tryz.ntmps174
      go_wp2_with fail
      refine C.mono ?_
      rintro e w1 ⟨⟨rfl, hs⟩, hb1⟩
      rw [hy]
      have C2 := c_madeM g w1 T1 n1 o (.iface 133 (.agg #[.int .i64 k, .iface T8 z8, .iface T9 y9])) hs h4
      have HS : Hid (StI g w1 T1 n1 o) := hs
      have HB : Hid (Below g w w1) := hb1
      clear C hs hb1 hy h4 hn hr hz he
      go_wp2_with fail
      refine C2.mono ?_
      rintro e w2 ⟨rfl, rfl⟩
      go_wp2
      go_ret2
      rw [E.out]
      exact ⟨⟨rfl, by decide, T1, n1, HS.out⟩, HB.out⟩
    · have E : Hid (biR k l (.ok p T1 n1) = .ok (.bin k l p) T1 (n1 + 1)) := by unfold Hid biR; simp only [if_neg h4]
      have HY : Hid ((PT.bin k l p).enc = .iface 133 (.agg #[.int .i64 k, .iface T8 z8, .iface T9 y9])) := by unfold Hid; rw [← hy, ← hz]; rfl
      go_enter Tryz.func174, Tryz.ntmps174
      go_wp2_with fail
      refine C.mono ?_
      rintro e w1 ⟨⟨rfl, hs⟩, hb1⟩
      rw [hy]
      have C2 := c_made g w1 T1 n1 o (.iface 133 (.agg #[.int .i64 k, .iface T8 z8, .iface T9 y9])) hs (by omega)
      have HB : Hid (Below g w w1) := hb1
      clear C hs hb1 hy h4 hn hr hz he
      go_wp2_with fail
      refine C2.mono ?_
      rintro e w2 ⟨rfl, hs2, hb2⟩
      have HS : Hid (StI g w2 T1 (n1 + 1) o) := hs2
      have HB2 : Hid (Below g w w2) := HB.out.trans hb2
      clear C2 hs2 hb2
      go_wp2
      go_ret2
      rw [E.out]
      exact ⟨⟨by rw [HY.out]; rfl, HS.out⟩, HB2.out⟩

end Go.Proofs.YtbpfpjmjmkpjoaaGreatDoor
namespace Go.Proofs.YtbpfpjmjmkpjoaaGreatDoor
open Go Go.RowKit
attribute [local go_sem ↓] Go.wp_at_zero Go.wp_at_succ

set_option linter.unusedVariables false
set_option linter.unusedSimpArgs false
theorem TbG.sign {g : Nat} {w : World} (h : TbG g w) (k : Nat) (h6 : 6 ≤ k) (h13 : k < 14) : w.cell? ⟨2, k, none⟩ = some (.string (sgT (k : Int))) := h.tabs.sign k h6 h13
theorem sgn_first {lo hi j : Nat} {T : List ByteArray} (h : ∀ m, lo ≤ m → m < j → nxt T ≠ sgT (m : Int)) (hj : nxt T = sgT (j : Int)) (h1 : lo ≤ j) (h2 : j ≤ hi) (h3 : hi ≤ lo + 1) : sgn lo hi T = j := by
  unfold sgn
  by_cases e : j = lo
  · subst e; rw [if_pos hj]
  · rw [if_neg (h lo (Nat.le_refl _) (by omega)), show hi = j by omega, if_pos hj]
theorem sgn_none {lo hi : Nat} {T : List ByteArray} (h : ∀ m, lo ≤ m → m < hi + 1 → nxt T ≠ sgT (m : Int)) (h1 : lo ≤ hi) : sgn lo hi T = 0 := by
  unfold sgn
  rw [if_neg (h lo (Nat.le_refl _) (by omega)), if_neg (h hi h1 (by omega))]
/-- What the search for a sign answers: which one, 0 if none. -/
def AnsS (g : Nat) (w : World) (T : List ByteArray) (n o lo hi : Nat) (e : Ending) (w' : World) : Prop :=
  ∃ k : Nat, e = .returned (.int .i64 (k : Int)) ∧ sgn lo hi T = k ∧ StI g w' (if k = 0 then T else T.drop 1) n o ∧ Below g w w'
set_option maxRecDepth 100000 in
set_option maxHeartbeats 8000000 in
theorem c_sgnP (g : Nat) (w : World) (T : List ByteArray) (n o lo hi : Nat) (h : StI g w T n o) (hT : TbG g w) (h6 : 6 ≤ lo) (h1 : lo ≤ hi) (h2 : hi ≤ lo + 1) (h3 : hi ≤ 13) :
    Calls Tryz.prog 173 #[.pointer (some ⟨g, 0, none⟩), .int .i64 (lo : Int), .int .i64 (hi : Int)] w (AnsS g w T n o lo hi) := by
  have HS : Hid (StI g w T n o) := h
  have HT : Hid (TbG g w) := hT
  have l2 : 2 < g := hT.two
  clear h hT
  go_enter Tryz.func173, Tryz.ntmps173
  go_wp2_with fail
  go_loopw [7] (fun i wr => ∃ j : Nat, lo ≤ j ∧ j ≤ hi + 1 ∧ i = .int .i64 (j : Int) ∧ (∀ m, lo ≤ m → m < j → nxt T ≠ sgT (m : Int)) ∧ StI g wr T n o ∧ Below g w wr) (fun i _ => hi + 1 - (intOf i).toNat)
  case atStart => exact ⟨lo, Nat.le_refl _, by omega, rfl, fun m a b => by omega, HS.out, Below.refl _ _⟩
  case round =>
    obtain ⟨j, j1, j2, rfl, hno, hs, hb⟩ := hrel
    have HN : Hid (∀ m, lo ≤ m → m < j → nxt T ≠ sgT (m : Int)) := hno
    have HS2 : Hid (StI g wr T n o) := hs
    have HB : Hid (Below g w wr) := hb
    have lg : g < wr.heap.size := hs.lt
    clear HS hno hs hb
    by_cases hlt : j ≤ hi
    · obtain ⟨y, hy⟩ : ∃ y, sgT (j : Int) = y := ⟨_, rfl⟩
      have x0 : wr.cell? ⟨2, j, none⟩ = some (.string y) := by rw [← hy]; exact (HT.out.below HB.out).sign j (by omega) (by omega)
      have g1 : (0 : Int) ≤ (j : Int) := by omega
      have g2 : (j : Int) < 14 := by omega
      have g3 : (j : Int) ≤ (hi : Int) := by omega
      by_cases hq : nxt T = y
      · have hl : 1 ≤ T.length := nxt_pos (hq.trans hy.symm) (sgT_pos (by omega) (by omega))
        have C : Hid (∀ W, Below wr.heap.size wr W → Calls Tryz.prog 92 #[.pointer (some ⟨g, 0, none⟩), .string y] W fun e w' => e = .returned (.bool true) ∧ StI g w' (T.drop 1) n o ∧ Below g W w') := fun W hW => c_takesY g W T n o y (HS2.out.below hW) hq hl
        have E : Hid (sgn lo hi T = j) := sgn_first HN.out (hq.trans hy.symm) j1 hlt h2
        clear hq hy HN
        go_wp2_with fail
        go_region_held3 (fun x => x.cell? ⟨2, j, none⟩ = some (.string y)) (first | go_keep)
          (first | (go_at_call 92; refine (C.out _ (below_drewN (Below.refl _ _) _)).mono ?_; rintro e w1 ⟨rfl, hs1, hb1⟩; have xx := (((below_drewN (Below.refl g wr) _).trans hb1).cell (p := ⟨2, j, none⟩) l2).trans x0; have HS3 : Hid (StI g w1 (T.drop 1) n o) := hs1; have HB3 : Hid (Below g wr w1) := (below_drewN (Below.refl g wr) _).trans hb1; clear hs1 hb1))
        go_wp2
        go_ret
        exact ⟨j, rfl, E.out, by rw [if_neg (by omega)]; exact HS3.out, HB.out.trans HB3.out⟩
      · have C : Hid (∀ W, Below wr.heap.size wr W → Calls Tryz.prog 92 #[.pointer (some ⟨g, 0, none⟩), .string y] W fun e w' => e = .returned (.bool false) ∧ w' = W) := fun W hW => c_takesN y g W T n o (HS2.out.below hW) hq
        have HQ : Hid (nxt T ≠ sgT (j : Int)) := fun e => hq (e.trans hy)
        clear hq hy
        go_wp2_with fail
        go_region_held3 (fun x => x.cell? ⟨2, j, none⟩ = some (.string y)) (first | go_keep)
          (first | (go_at_call 92; refine (C.out _ (below_drewN (Below.refl _ _) _)).mono ?_; rintro e w1 ⟨rfl, rfl⟩))
        have g4 : IntKind.i64.wrap ((j : Int) + 1) = (j : Int) + 1 := by simp [IntKind.wrap_i64]; omega
        go_wp2
        go_roundw
        case rel => exact ⟨j + 1, by omega, by omega, by go_num, fun m a b => by
          rcases Nat.lt_or_ge m j with h | h
          · exact HN.out m a h
          · rw [show m = j by omega]; exact HQ.out, HS2.out.below (below_drewN (Below.refl _ _) _), below_drewN HB.out _⟩
        case measure => simp [intOf]; omega
    · have E : Hid (sgn lo hi T = 0) := sgn_none (fun m a b => HN.out m a (by omega)) h1
      have g3 : ¬ (j : Int) ≤ (hi : Int) := by omega
      go_wp2
      go_ret
      exact ⟨0, rfl, E.out, HS2.out, HB.out⟩

end Go.Proofs.YtbpfpjmjmkpjoaaGreatDoor
