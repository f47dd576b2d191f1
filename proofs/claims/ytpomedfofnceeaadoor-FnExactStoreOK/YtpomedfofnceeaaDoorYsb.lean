/-
  Right stores: a right frame: the walk of the program's isFrame.
-/
import Derived.Test.YtpomedfofnceeaaDoorGk
import Derived.Test.YtpomedfofnceeaaDoorRc
namespace Go.Proofs.YtpomedfofnceeaaDoor
open Go Go.RowKit
attribute [local go_sem ↓] Go.wp_at_zero Go.wp_at_succ

/-- A right frame. -/
def okFr (no : Int) (D : G.DG) (d : Bool) (fi last : Int) : Bool := decide (0 ≤ no ∧ no < 8) && (G.okG D && (decide (D.L ≤ last) && (decide (0 ≤ fi) && (decide (fi ≤ last) && (d == decide (0 < fi))))))
theorem box5 {w : World} {g : Nat} {t : TypeId} {v0 v1 v2 v3 v4 : Value} (h : Box w g t #[v0, v1, v2, v3, v4]) : w.cell? ⟨g, 0, none⟩ = some v0 ∧ w.cell? ⟨g, 1, none⟩ = some v1 ∧ w.cell? ⟨g, 2, none⟩ = some v2 ∧ w.cell? ⟨g, 3, none⟩ = some v3 ∧ w.cell? ⟨g, 4, none⟩ = some v4 :=
  ⟨h.cell 0, h.cell 1, h.cell 2, h.cell 3, h.cell 4⟩
set_option maxRecDepth 100000 in
set_option maxHeartbeats 4000000 in
theorem c_isFrame (no fi last : Int) (d : Bool) (h : G.HG) (D : G.DG) (w : World) (r : G.RdG w h D) (hf : G.FitG D) :
    Calls Tryd.prog 130 #[.agg #[.int .i64 no, .int .i64 h.l, .slice h.a h.n h.c, .bool d, .int .i64 fi], .int .i64 last] w fun e w' => e = .returned (.bool (okFr no D d fi last)) ∧ Below w.heap.size w w' := by
  have HLL : Hid (h.l = D.L) := r.1
  obtain ⟨V, hV⟩ : ∃ V, w.alloc (.cells #[.int .i64 no, .int .i64 h.l, .slice h.a h.n h.c, .bool d, .int .i64 fi] 109) = V := ⟨_, rfl⟩
  have HB : Hid (Below w.heap.size w V) := by unfold Hid; rw [← hV]; exact (Below.refl _ _).alloc (Nat.le_refl _) _
  have X : Hid (Box V w.heap.size 109 #[.int .i64 no, .int .i64 h.l, .slice h.a h.n h.c, .bool d, .int .i64 fi]) := by unfold Hid; rw [← hV]; exact Box.new _ _ _
  have COK := G.c_implOK h D V (r.below HB.out) hf
  clear r hf
  obtain ⟨x0, x1, x2, x3, x4⟩ := box5 X.out
  go_enter Tryd.func130, Tryd.ntmps130
  go_wp2_with fail
  refine (c_pageNo no V).mono ?_
  rintro e w1 ⟨rfl, hw1⟩
  subst hw1
  by_cases h1 : 0 ≤ no ∧ no < 8
  case neg =>
    rw [decide_eq_false h1]
    have E : Hid (okFr no D d fi last = false) := by unfold Hid okFr; rw [decide_eq_false h1]; rfl
    go_wp2
    go_ret
    exact ⟨ret_bool E.out.symm, HB.out⟩
  rw [decide_eq_true h1]
  have H1 : Hid (decide (0 ≤ no ∧ no < 8) = true) := decide_eq_true h1
  clear h1
  go_wp2_with fail
  refine COK.mono ?_
  rintro e w2 ⟨rfl, hb2⟩
  have B2 : Hid (Below w.heap.size w w2) := HB.out.trans (hb2.mono HB.out.size)
  have X2 : Hid (Box w2 w.heap.size 109 #[.int .i64 no, .int .i64 h.l, .slice h.a h.n h.c, .bool d, .int .i64 fi]) := X.out.belowS hb2
  clear hb2 X HB COK x0 x1 x2 x3 x4 hV
  obtain ⟨x0, x1, x2, x3, x4⟩ := box5 X2.out
  cases hok : G.okG D
  · have E : Hid (okFr no D d fi last = false) := by unfold Hid okFr; rw [H1.out, hok]; rfl
    clear hok
    go_wp2
    go_ret
    exact ⟨ret_bool E.out.symm, B2.out⟩
  by_cases h2 : last < h.l
  · have E : Hid (okFr no D d fi last = false) := by unfold Hid okFr; rw [H1.out, hok, ← HLL.out, decide_eq_false (show ¬ h.l ≤ last by omega)]; rfl
    clear hok
    go_wp2
    go_ret
    exact ⟨ret_bool E.out.symm, B2.out⟩
  have H2 : Hid (∀ b : Bool, okFr no D d fi last = b ↔ (decide (0 ≤ fi) && (decide (fi ≤ last) && (d == decide (0 < fi)))) = b) := by
    intro b; unfold okFr; rw [H1.out, hok, ← HLL.out, decide_eq_true (show h.l ≤ last by omega)]; rfl
  clear hok H1
  by_cases h3 : 0 ≤ fi
  case neg =>
    have E : Hid (okFr no D d fi last = false) := (H2.out _).2 (by rw [decide_eq_false h3]; rfl)
    go_wp2
    go_ret
    exact ⟨ret_bool E.out.symm, B2.out⟩
  by_cases h4 : fi ≤ last
  case neg =>
    have E : Hid (okFr no D d fi last = false) := (H2.out _).2 (by rw [decide_eq_true h3, decide_eq_false h4]; rfl)
    go_wp2
    go_ret
    exact ⟨ret_bool E.out.symm, B2.out⟩
  by_cases h5 : 0 < fi
  · have E : Hid (okFr no D d fi last = (d == true)) := (H2.out _).2 (by rw [decide_eq_true h3, decide_eq_true h4, decide_eq_true h5]; rfl)
    go_wp2
    go_ret
    exact ⟨ret_bool (by rw [E.out]; cases d <;> rfl), B2.out⟩
  · have E : Hid (okFr no D d fi last = (d == false)) := (H2.out _).2 (by rw [decide_eq_true h3, decide_eq_true h4, decide_eq_false h5]; rfl)
    go_wp2
    go_ret
    exact ⟨ret_bool (by rw [E.out, decide_eq_false (show ¬ (0 : Int) < fi by omega)]), B2.out⟩

end Go.Proofs.YtpomedfofnceeaaDoor
