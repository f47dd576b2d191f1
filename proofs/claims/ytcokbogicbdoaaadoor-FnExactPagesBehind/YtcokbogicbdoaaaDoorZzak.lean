/-
  Regions that draw their order, whose operations only read, and whose calls make nothing but blocks of their own: one walk serves every order.
-/
import Derived.Test.YtcokbogicbdoaaaDoorGkq
import Derived.Test.YtcokbogicbdoaaaDoorRcq
import Derived.Test.YtcokbogicbdoaaaDoorZzaj
import Derived.Test.YtcokbogicbdoaaaDoorZzab
import Derived.Deep.Quiet
import Derived.Deep.QuietTactic
import Derived.BigQuiet
namespace Go.Proofs.YtcokbogicbdoaaaDoor
open Go Go.RowKit
attribute [local go_sem ↓] Go.wp_at_zero Go.wp_at_succ

/-- A right frame. -/
def okFr (no : Int) (D : G.DG) (d : Bool) (fi last : Int) : Bool := decide (0 ≤ no ∧ no < 8) && (G.okG D && (decide (D.L ≤ last) && (decide (0 ≤ fi) && (decide (fi ≤ last) && (d == decide (0 < fi))))))
theorem box5 {w : World} {g : Nat} {t : TypeId} {v0 v1 v2 v3 v4 : Value} (h : Box w g t #[v0, v1, v2, v3, v4]) : w.cell? ⟨g, 0, none⟩ = some v0 ∧ w.cell? ⟨g, 1, none⟩ = some v1 ∧ w.cell? ⟨g, 2, none⟩ = some v2 ∧ w.cell? ⟨g, 3, none⟩ = some v3 ∧ w.cell? ⟨g, 4, none⟩ = some v4 :=
  ⟨h.cell 0, h.cell 1, h.cell 2, h.cell 3, h.cell 4⟩
set_option maxRecDepth 100000 in
set_option maxHeartbeats 4000000 in
theorem c_isFrame (no fi last : Int) (d : Bool) (h : G.HG) (D : G.DG) (w : World) (r : G.RdG w h D) (hf : G.FitG D) :
    Calls Tryd.prog 63 #[.agg #[.int .i64 no, .int .i64 h.l, .slice h.a h.n h.c, .bool d, .int .i64 fi], .int .i64 last] w fun e w' => e = .returned (.bool (okFr no D d fi last)) ∧ Below w.heap.size w w' := by
  have HLL : Hid (h.l = D.L) := r.1
  obtain ⟨V, hV⟩ : ∃ V, w.alloc (.cells #[.int .i64 no, .int .i64 h.l, .slice h.a h.n h.c, .bool d, .int .i64 fi] 51) = V := ⟨_, rfl⟩
  have HB : Hid (Below w.heap.size w V) := by unfold Hid; rw [← hV]; exact (Below.refl _ _).alloc (Nat.le_refl _) _
  have X : Hid (Box V w.heap.size 51 #[.int .i64 no, .int .i64 h.l, .slice h.a h.n h.c, .bool d, .int .i64 fi]) := by unfold Hid; rw [← hV]; exact Box.new _ _ _
  have COK := G.c_implOK h D V (r.below HB.out) hf
  clear r hf
  obtain ⟨x0, x1, x2, x3, x4⟩ := box5 X.out
  go_enter Tryd.func63, Tryd.ntmps63
  go_wp2_with fail
  refine (c_pageNo no V).mono ?_
  rintro e w1 ⟨rfl, hw1⟩
  subst hw1
  by_cases h1 : 0 ≤ no ∧ no < 8
  case neg =>
    rw [decide_eq_false h1]
    have E : Hid (okFr no D d fi last = false) := by unfold Hid okFr; rw [decide_eq_false h1]; rfl
    go_wp2
    go_ret
    exact ⟨ret_bool E.out.symm, HB.out⟩
  rw [decide_eq_true h1]
  have H1 : Hid (decide (0 ≤ no ∧ no < 8) = true) := decide_eq_true h1
  clear h1
  go_wp2_with fail
  refine COK.mono ?_
  rintro e w2 ⟨rfl, hb2⟩
  have B2 : Hid (Below w.heap.size w w2) := HB.out.trans (hb2.mono HB.out.size)
  have X2 : Hid (Box w2 w.heap.size 51 #[.int .i64 no, .int .i64 h.l, .slice h.a h.n h.c, .bool d, .int .i64 fi]) := X.out.belowS hb2
  clear hb2 X HB COK x0 x1 x2 x3 x4 hV
  obtain ⟨x0, x1, x2, x3, x4⟩ := box5 X2.out
  cases hok : G.okG D
  · have E : Hid (okFr no D d fi last = false) := by unfold Hid okFr; rw [H1.out, hok]; rfl
    clear hok
    go_wp2
    go_ret
    exact ⟨ret_bool E.out.symm, B2.out⟩
  by_cases h2 : last < h.l
  · have E : Hid (okFr no D d fi last = false) := by unfold Hid okFr; rw [H1.out, hok, ← HLL.out, decide_eq_false (show ¬ h.l ≤ last by omega)]; rfl
    clear hok
    go_wp2
    go_ret
    exact ⟨ret_bool E.out.symm, B2.out⟩
  have H2 : Hid (∀ b : Bool, okFr no D d fi last = b ↔ (decide (0 ≤ fi) && (decide (fi ≤ last) && (d == decide (0 < fi)))) = b) := by
    intro b; unfold okFr; rw [H1.out, hok, ← HLL.out, decide_eq_true (show h.l ≤ last by omega)]; rfl
  clear hok H1
  by_cases h3 : 0 ≤ fi
  case neg =>
    have E : Hid (okFr no D d fi last = false) := (H2.out _).2 (by rw [decide_eq_false h3]; rfl)
    go_wp2
    go_ret
    exact ⟨ret_bool E.out.symm, B2.out⟩
  by_cases h4 : fi ≤ last
  case neg =>
    have E : Hid (okFr no D d fi last = false) := (H2.out _).2 (by rw [decide_eq_true h3, decide_eq_false h4]; rfl)
    go_wp2
    go_ret
    exact ⟨ret_bool E.out.symm, B2.out⟩
  by_cases h5 : 0 < fi
  · have E : Hid (okFr no D d fi last = (d == true)) := (H2.out _).2 (by rw [decide_eq_true h3, decide_eq_true h4, decide_eq_true h5]; rfl)
    go_wp2
    go_ret
    exact ⟨ret_bool (by rw [E.out]; cases d <;> rfl), B2.out⟩
  · have E : Hid (okFr no D d fi last = (d == false)) := (H2.out _).2 (by rw [decide_eq_true h3, decide_eq_true h4, decide_eq_false h5]; rfl)
    go_wp2
    go_ret
    exact ⟨ret_bool (by rw [E.out, decide_eq_false (show ¬ (0 : Int) < fi by omega)]), B2.out⟩

end Go.Proofs.YtcokbogicbdoaaaDoor
namespace Go.Proofs.YtcokbogicbdoaaaDoor
open Go Go.RowKit
attribute [local go_sem ↓] Go.wp_at_zero Go.wp_at_succ

def okPg (T : Nat → ByteArray) (sure : Int) (p : Nat) : Bool := match pgO p (T (1 + p)) with | some P => decide (P.L ≤ sure) | none => false
theorem okPg_none {T : Nat → ByteArray} {sure : Int} {p : Nat} (h : pgO p (T (1 + p)) = none) : okPg T sure p = false := by unfold okPg; rw [h]
theorem okPg_some {T : Nat → ByteArray} {sure : Int} {p : Nat} {P : G.DG} (h : pgO p (T (1 + p)) = some P) : okPg T sure p = decide (P.L ≤ sure) := by unfold okPg; rw [h]
def hasPg (T : Nat → ByteArray) (sure : Int) : Bool := (List.range 8).all (okPg T sure)
theorem hasPg_no {T : Nat → ByteArray} {sure : Int} {p : Nat} (hp : p < 8) (h : okPg T sure p = false) : hasPg T sure = false := by
  unfold hasPg; rw [List.all_eq_false]; exact ⟨p, List.mem_range.2 hp, by rw [h]; exact Bool.noConfusion⟩
theorem hasPg_yes {T : Nat → ByteArray} {sure : Int} (h : ∀ p, p < 8 → okPg T sure p = true) : hasPg T sure = true := by
  unfold hasPg; rw [List.all_eq_true]; exact fun p hp => h p (List.mem_range.1 hp)
set_option maxRecDepth 100000 in
set_option maxHeartbeats 4000000 in
theorem c_hasPages (h : HD) (D : DD) (sure : Int) (w : World) (r : RdD w h D) (hok : okD D = true) (hn : 9 ≤ h.n0) (ht : TabH w) :
    Calls Tryd.prog 34 #[.agg #[.slice h.a0 h.n0 h.c0, .slice h.a1 h.n1 h.c1, .bool h.b, .slice h.a2 h.n2 h.c2], .int .i64 sure] w fun e w' => e = .returned (.bool (hasPg (rdS D.S D.C) sure)) ∧ Below w.heap.size w w' := by
  obtain ⟨V, hV⟩ : ∃ V, w.alloc (.cells #[.slice h.a0 h.n0 h.c0, .slice h.a1 h.n1 h.c1, .bool h.b, .slice h.a2 h.n2 h.c2] 36) = V := ⟨_, rfl⟩
  have HB : Hid (Below w.heap.size w V) := by unfold Hid; rw [← hV]; exact (Below.refl _ _).alloc (Nat.le_refl _) _
  have X : Hid (Box V w.heap.size 36 #[.slice h.a0 h.n0 h.c0, .slice h.a1 h.n1 h.c1, .bool h.b, .slice h.a2 h.n2 h.c2]) := by unfold Hid; rw [← hV]; exact Box.new _ _ _
  have R : Hid (RdD w h D) := r
  have OK : Hid (okD D = true) := hok
  have HT : Hid (TabH w) := ht
  clear r hok ht
  go_enter Tryd.func34, Tryd.ntmps34
  go_wp2
  go_loopw [8] (fun i wr => ∃ k : Nat, k ≤ 8 ∧ i = .int .i64 k ∧ Hid (∀ p, p < k → okPg (rdS D.S D.C) sure p = true) ∧ Hid (Box wr w.heap.size 36 #[.slice h.a0 h.n0 h.c0, .slice h.a1 h.n1 h.c1, .bool h.b, .slice h.a2 h.n2 h.c2]) ∧ Hid (Below w.heap.size w wr)) (fun i _ => 8 - (intOf i).toNat)
  case atStart => exact ⟨0, by omega, rfl, (fun p hp => absurd hp (by omega)), X, HB⟩
  case round =>
    clear X HB hV
    obtain ⟨k, hk, rfl, HA, XW, BW⟩ := hrel
    by_cases hlt : k < 8
    · obtain ⟨x0, x1, x2, x3⟩ := box4 XW.out
      have g2 : (k : Int) < 8 := by omega
      go_wp2_with fail
      refine (c_readDP h D k wr (R.out.below BW.out) OK.out (by omega) (HT.out.below BW.out)).mono ?_
      rintro e w2 ⟨⟨h2, c, rfl, hc, hP⟩, hb2⟩
      have B2 : Hid (Below w.heap.size w w2) := BW.out.trans (hb2.mono BW.out.size)
      have X2 : Hid (Box w2 w.heap.size 36 #[.slice h.a0 h.n0 h.c0, .slice h.a1 h.n1 h.c1, .bool h.b, .slice h.a2 h.n2 h.c2]) := XW.out.belowS hb2
      clear hb2 XW BW x0 x1 x2 x3
      obtain ⟨W, hW⟩ : ∃ W, w2.alloc (.cells #[.int .i64 h2.l, .slice h2.a h2.n h2.c] 49) = W := ⟨_, rfl⟩
      have HBW : Hid (Below w.heap.size w W) := by unfold Hid; rw [← hW]; exact B2.out.alloc B2.out.size _
      have XW : Hid (Box W w.heap.size 36 #[.slice h.a0 h.n0 h.c0, .slice h.a1 h.n1 h.c1, .bool h.b, .slice h.a2 h.n2 h.c2]) := by unfold Hid; rw [← hW]; exact X2.out.alloc _
      have NW : Hid (Box W w2.heap.size 49 #[.int .i64 h2.l, .slice h2.a h2.n h2.c]) := by unfold Hid; rw [← hW]; exact Box.new _ _ _
      obtain ⟨y0, y1⟩ := G.box2 NW.out
      cases hpg : pgO k (rdS D.S D.C (1 + k)) with
      | none =>
        have E : Hid (hasPg (rdS D.S D.C) sure = false) := hasPg_no hlt (okPg_none hpg)
        have hc0 : ¬ c = 0 := fun e => by have := hc.1 e; rw [hpg] at this; cases this
        have c1 : (c != 0) = true := by simpa using hc0
        clear hc hP hpg hc0
        go_wp2
        go_ret
        exact ⟨ret_bool E.out.symm, HBW.out⟩
      | some P =>
        have hc0 : c = 0 := hc.2 (by rw [hpg]; rfl)
        have HL : Hid (h2.l = P.L) := hP P hpg
        have HPG : Hid (okPg (rdS D.S D.C) sure k = decide (P.L ≤ sure)) := okPg_some hpg
        clear hc hP hpg
        subst hc0
        by_cases hs : sure < h2.l
        · have E : Hid (hasPg (rdS D.S D.C) sure = false) := hasPg_no hlt (by rw [HPG.out, ← HL.out]; exact decide_eq_false (by omega))
          go_wp2
          go_ret
          exact ⟨ret_bool E.out.symm, HBW.out⟩
        · have HA2 : Hid (∀ p, p < k + 1 → okPg (rdS D.S D.C) sure p = true) := fun p hp => by
            by_cases e : p = k
            · subst e; rw [HPG.out, ← HL.out]; exact decide_eq_true (by omega)
            · exact HA.out p (by omega)
          go_wp2
          go_roundw
          case rel => exact ⟨k + 1, by omega, by go_num, HA2, XW, HBW⟩
          case measure => simp [intOf]; omega
    · have e : k = 8 := by omega
      subst e
      have E : Hid (hasPg (rdS D.S D.C) sure = true) := hasPg_yes HA.out
      go_wp2
      go_ret
      exact ⟨ret_bool E.out.symm, BW.out⟩

end Go.Proofs.YtcokbogicbdoaaaDoor
namespace Go.Proofs.YtcokbogicbdoaaaDoor
open Go Go.RowKit
attribute [local go_sem ↓] Go.wp_at_zero Go.wp_at_succ

/-- The worlds that a world grows into. -/
structure Out (w : World) where
  y : World
  p : Below w.heap.size w y
theorem Out.some (w : World) : Nonempty (Out w) := ⟨⟨w, Below.refl _ _⟩⟩
theorem q_begin {P : Program} {id : Nat} {Q : Exit → Act → World → Prop} {a : Act} {w : World} {l : List Oper} (hm : P.follows .mixedOrders = true) (hB : Region.lexB .any l.toArray = true) (h : wpQuiet P l.toArray (fun x => ∃ q : Out w, x = q.y) (fun a' => ∀ w', (∃ q : Out w, w' = q.y) → Q .normal a' w') l a) : (Code.region id l.toArray true).wp P Q a w :=
  wp_region_quiet (C := fun x => ∃ q : Out w, x = q.y) hm hB ⟨⟨_, (Below.refl _ _).drew⟩, rfl⟩ (by rw [show l.toArray.toList = l by simp]; exact h)
theorem q_call {P : Program} {w : World} {q : Out w} {f : FuncId} {args : Array Value} {v : Value} (h : Calls P f args q.y fun e y => e = .returned v ∧ Below q.y.heap.size q.y y) : Calls P f args q.y fun e y => e = .returned v ∧ ∃ q' : Out w, y = q'.y :=
  h.mono fun _ y hy => ⟨hy.1, ⟨y, q.p.trans (hy.2.mono q.p.size)⟩, rfl⟩
theorem q_same {P : Program} {w : World} {q : Out w} {f : FuncId} {args : Array Value} {v : Value} (h : Calls P f args q.y fun e y => e = .returned v ∧ y = q.y) : Calls P f args q.y fun e y => e = .returned v ∧ ∃ q' : Out w, y = q'.y :=
  h.mono fun _ _ hy => ⟨hy.1, q, hy.2⟩
theorem q_cell {w : World} {b o : Nat} {u : Value} (h : w.cell? ⟨b, o, none⟩ = some u) (q : Out w) : q.y.cell? ⟨b, o, none⟩ = some u := far6 q.p h

end Go.Proofs.YtcokbogicbdoaaaDoor
