/-
  Lists of records: what was marked is held.
-/
import Derived.Test.YtkpopingbbaomaaGreatDoorZzaf
import Derived.Test.YtkpopingbbaomaaGreatDoorRcq
import Derived.Test.YtkpopingbbaomaaGreatDoorZzak
import Derived.Deep.RegionHeld3
namespace Go.Proofs.YtkpopingbbaomaaGreatDoor
open Go Go.RowKit
attribute [local go_sem ↓] Go.wp_at_zero Go.wp_at_succ

/-- A right frame. -/
def okFr (no : Int) (D : G.DG) (d : Bool) (fi last : Int) : Bool := decide (0 ≤ no ∧ no < 8) && (G.okG D && (decide (D.L ≤ last) && (decide (0 ≤ fi) && (decide (fi ≤ last) && (d == decide (0 < fi))))))
theorem box5 {w : World} {g : Nat} {t : TypeId} {v0 v1 v2 v3 v4 : Value} (h : Box w g t #[v0, v1, v2, v3, v4]) : w.cell? ⟨g, 0, none⟩ = some v0 ∧ w.cell? ⟨g, 1, none⟩ = some v1 ∧ w.cell? ⟨g, 2, none⟩ = some v2 ∧ w.cell? ⟨g, 3, none⟩ = some v3 ∧ w.cell? ⟨g, 4, none⟩ = some v4 :=
  ⟨h.cell 0, h.cell 1, h.cell 2, h.cell 3, h.cell 4⟩
set_option maxRecDepth 100000 in
set_option maxHeartbeats 4000000 in
theorem c_isFrame (no fi last : Int) (d : Bool) (h : G.HG) (D : G.DG) (w : World) (r : G.RdG w h D) (hf : G.FitG D) :
    Calls Tryz.prog 208 #[.agg #[.int .i64 no, .int .i64 h.l, .slice h.a h.n h.c, .bool d, .int .i64 fi], .int .i64 last] w fun e w' => e = .returned (.bool (okFr no D d fi last)) ∧ Below w.heap.size w w' := by
  have HLL : Hid (h.l = D.L) := r.1
  obtain ⟨V, hV⟩ : ∃ V, w.alloc (.cells #[.int .i64 no, .int .i64 h.l, .slice h.a h.n h.c, .bool d, .int .i64 fi] 142) = V := ⟨_, rfl⟩
  have HB : Hid (Below w.heap.size w V) := by unfold Hid; rw [← hV]; exact (Below.refl _ _).alloc (Nat.le_refl _) _
  have X : Hid (Box V w.heap.size 142 #[.int .i64 no, .int .i64 h.l, .slice h.a h.n h.c, .bool d, .int .i64 fi]) := by unfold Hid; rw [← hV]; exact Box.new _ _ _
  have COK := G.c_implOK h D V (r.below HB.out) hf
  clear r hf
  obtain ⟨x0, x1, x2, x3, x4⟩ := box5 X.out
  go_enter Tryz.func208, Tryz.ntmps208
  go_wp2_with fail
  refine (c_pageNo no V).mono ?_
  rintro e w1 ⟨rfl, hw1⟩
  subst hw1
  by_cases h1 : 0 ≤ no ∧ no < 8
  case neg =>
    rw [decide_eq_false h1]
    have E : Hid (okFr no D d fi last = false) := by unfold Hid okFr; rw [decide_eq_false h1]; rfl
    go_wp2
    go_ret
    exact ⟨ret_bool E.out.symm, HB.out⟩
  rw [decide_eq_true h1]
  have H1 : Hid (decide (0 ≤ no ∧ no < 8) = true) := decide_eq_true h1
  clear h1
  go_wp2_with fail
  refine COK.mono ?_
  rintro e w2 ⟨rfl, hb2⟩
  have B2 : Hid (Below w.heap.size w w2) := HB.out.trans (hb2.mono HB.out.size)
  have X2 : Hid (Box w2 w.heap.size 142 #[.int .i64 no, .int .i64 h.l, .slice h.a h.n h.c, .bool d, .int .i64 fi]) := X.out.belowS hb2
  clear hb2 X HB COK x0 x1 x2 x3 x4 hV
  obtain ⟨x0, x1, x2, x3, x4⟩ := box5 X2.out
  cases hok : G.okG D
  · have E : Hid (okFr no D d fi last = false) := by unfold Hid okFr; rw [H1.out, hok]; rfl
    clear hok
    go_wp2
    go_ret
    exact ⟨ret_bool E.out.symm, B2.out⟩
  by_cases h2 : last < h.l
  · have E : Hid (okFr no D d fi last = false) := by unfold Hid okFr; rw [H1.out, hok, ← HLL.out, decide_eq_false (show ¬ h.l ≤ last by omega)]; rfl
    clear hok
    go_wp2
    go_ret
    exact ⟨ret_bool E.out.symm, B2.out⟩
  have H2 : Hid (∀ b : Bool, okFr no D d fi last = b ↔ (decide (0 ≤ fi) && (decide (fi ≤ last) && (d == decide (0 < fi)))) = b) := by
    intro b; unfold okFr; rw [H1.out, hok, ← HLL.out, decide_eq_true (show h.l ≤ last by omega)]; rfl
  clear hok H1
  by_cases h3 : 0 ≤ fi
  case neg =>
    have E : Hid (okFr no D d fi last = false) := (H2.out _).2 (by rw [decide_eq_false h3]; rfl)
    go_wp2
    go_ret
    exact ⟨ret_bool E.out.symm, B2.out⟩
  by_cases h4 : fi ≤ last
  case neg =>
    have E : Hid (okFr no D d fi last = false) := (H2.out _).2 (by rw [decide_eq_true h3, decide_eq_false h4]; rfl)
    go_wp2
    go_ret
    exact ⟨ret_bool E.out.symm, B2.out⟩
  by_cases h5 : 0 < fi
  · have E : Hid (okFr no D d fi last = (d == true)) := (H2.out _).2 (by rw [decide_eq_true h3, decide_eq_true h4, decide_eq_true h5]; rfl)
    go_wp2
    go_ret
    exact ⟨ret_bool (by rw [E.out]; cases d <;> rfl), B2.out⟩
  · have E : Hid (okFr no D d fi last = (d == false)) := (H2.out _).2 (by rw [decide_eq_true h3, decide_eq_true h4, decide_eq_false h5]; rfl)
    go_wp2
    go_ret
    exact ⟨ret_bool (by rw [E.out, decide_eq_false (show ¬ (0 : Int) < fi by omega)]), B2.out⟩

end Go.Proofs.YtkpopingbbaomaaGreatDoor
namespace Go.Proofs.YtkpopingbbaomaaGreatDoor
open Go Go.RowKit
attribute [local go_sem ↓] Go.wp_at_zero Go.wp_at_succ

def mQ (k0 i : Nat) : DR := ⟨((k0 + i * 10 : Nat) : Int), ((k0 + i * 10 + 1 : Nat) : Int), ((k0 + i * 10 + 2 : Nat) : Int), ((k0 + i * 10 + 3 : Nat) : Int), ((k0 + i * 10 + 4 : Nat) : Int), ((k0 + i * 10 + 5 : Nat) : Int), ((k0 + i * 10 + 6 : Nat) : Int), ((k0 + i * 10 + 7 : Nat) : Int), mtext (k0 + i * 10 + 8), mtext (k0 + i * 10 + 9)⟩
def marksQ (k0 n : Nat) : List DR := (List.range n).map (mQ k0)
theorem marksQ_len (k0 n : Nat) : (marksQ k0 n).length = n := by simp [marksQ]
theorem marksQ_get (k0 n k : Nat) (h : k < n) : (marksQ k0 n).getD k zeroR = mQ k0 k := by
  unfold marksQ; rw [List.getD_eq_getElem?_getD, List.getElem?_map, List.getElem?_range h]; rfl
theorem marksQ_val (k0 n k : Nat) (h : k < n) : (marksQ k0 n).getD k zeroR = ⟨(k0 : Int) + (k : Int) * 10, (k0 : Int) + (k : Int) * 10 + 1, (k0 : Int) + (k : Int) * 10 + 2, (k0 : Int) + (k : Int) * 10 + 3, (k0 : Int) + (k : Int) * 10 + 4, (k0 : Int) + (k : Int) * 10 + 5, (k0 : Int) + (k : Int) * 10 + 6, (k0 : Int) + (k : Int) * 10 + 7, mtext (k0 + k * 10 + 8), mtext (k0 + k * 10 + 9)⟩ := by rw [marksQ_get _ _ _ h]; unfold mQ; simp
set_option maxRecDepth 100000 in
set_option maxHeartbeats 8000000 in
theorem c_markQ2 (base : Nat) (v : Value) (n k0 : Nat) (xs : List DR) (w : World) (hown : w.ownsRow base 78 10 v n (cellsQ xs)) (h1 : 1 ≤ k0) (hn : n ≤ 2097152) (hk : k0 ≤ 8796093022208) :
    Calls Tryz.prog 105 #[v, .int .i64 k0] w fun e w' => e = .returned (.int .i64 (k0 + n * 10 : Nat)) ∧ w'.ownsRow base 78 10 v n (cellsQ (marksQ k0 n)) ∧ w.grownBy w' v.ownBlock := by
  have hxl : xs.length = n := by have := hown.1; rw [cellsQ_len] at this; omega
  rcases own_form hown with ⟨rfl, rfl⟩ | ⟨g, cap, rfl, hg1, hg2⟩
  · go_enter Tryz.func105, Tryz.ntmps105
    go_wp2
    refine wp_loop_rounds 1 ?_
    rw [rounds_succ]
    go_wp2
    go_ret
    exact ⟨by simp, by simpa [marksQ, cellsQ] using World.ownsRow_nil w base 78 10, World.grownBy.refl _ _⟩
  · go_enter Tryz.func105, Tryz.ntmps105
    go_wp2
    go_loopw [1, 5] (fun m i wr => ∃ k : Nat, k ≤ n ∧ i = .int .i64 k ∧ m = .int .i64 ((k0 + k * 10 : Nat) : Int) ∧ wr.ownsRow base 78 10 (.slice (some ⟨g, 0, none⟩) n cap) n (cellsQ (mixA (marksQ k0 n) xs k)) ∧ w.grownBy wr (some g)) (fun _ i _ => n - (intOf i).toNat)
    case atStart => exact ⟨0, by omega, rfl, by simp, by rw [mixA_zero]; exact hown, World.grownBy.refl _ _⟩
    case round =>
      obtain ⟨k, hk, rfl, rfl, hown, hgr⟩ := hrel
      by_cases hlt : k < n
      · have hml := mixA_len (marksQ k0 n) xs n k hxl (marksQ_len _ _) hk
        obtain ⟨L, hL⟩ : ∃ L, L = cellsQ (mixA (marksQ k0 n) xs k) := ⟨_, rfl⟩
        have hLl : L.length = n * 10 := by rw [hL, cellsQ_len, hml]
        have HS : Hid (setQ L (k * 10) ⟨(k0 : Int) + (k : Int) * 10, (k0 : Int) + (k : Int) * 10 + 1, (k0 : Int) + (k : Int) * 10 + 2, (k0 : Int) + (k : Int) * 10 + 3, (k0 : Int) + (k : Int) * 10 + 4, (k0 : Int) + (k : Int) * 10 + 5, (k0 : Int) + (k : Int) * 10 + 6, (k0 : Int) + (k : Int) * 10 + 7, mtext (k0 + k * 10 + 8), mtext (k0 + k * 10 + 9)⟩ = cellsQ (mixA (marksQ k0 n) xs (k + 1))) := by
          unfold Hid
          have hset := cellsQ_set (mixA (marksQ k0 n) xs k) k ((marksQ k0 n).getD k zeroR) (by omega)
          rw [mixA_step _ _ n k zeroR hxl (marksQ_len _ _) hlt, marksQ_val _ _ _ hlt, ← hL] at hset
          exact hset
        rw [← hL] at hown
        clear hL
        obtain ⟨u0, q0⟩ : ∃ u, L[k * 10]? = some u := ⟨_, List.getElem?_eq_getElem (by omega)⟩
        have f0 := hown.cellAt (k * 10) (by omega)
        rw [q0] at f0
        have z0 := hown.frozenAt (k * 10)
        obtain ⟨u1, q1⟩ : ∃ u, L[k * 10 + 1]? = some u := ⟨_, List.getElem?_eq_getElem (by omega)⟩
        have f1 := hown.cellAt (k * 10 + 1) (by omega)
        rw [q1] at f1
        have z1 := hown.frozenAt (k * 10 + 1)
        obtain ⟨u2, q2⟩ : ∃ u, L[k * 10 + 2]? = some u := ⟨_, List.getElem?_eq_getElem (by omega)⟩
        have f2 := hown.cellAt (k * 10 + 2) (by omega)
        rw [q2] at f2
        have z2 := hown.frozenAt (k * 10 + 2)
        obtain ⟨u3, q3⟩ : ∃ u, L[k * 10 + 3]? = some u := ⟨_, List.getElem?_eq_getElem (by omega)⟩
        have f3 := hown.cellAt (k * 10 + 3) (by omega)
        rw [q3] at f3
        have z3 := hown.frozenAt (k * 10 + 3)
        obtain ⟨u4, q4⟩ : ∃ u, L[k * 10 + 4]? = some u := ⟨_, List.getElem?_eq_getElem (by omega)⟩
        have f4 := hown.cellAt (k * 10 + 4) (by omega)
        rw [q4] at f4
        have z4 := hown.frozenAt (k * 10 + 4)
        obtain ⟨u5, q5⟩ : ∃ u, L[k * 10 + 5]? = some u := ⟨_, List.getElem?_eq_getElem (by omega)⟩
        have f5 := hown.cellAt (k * 10 + 5) (by omega)
        rw [q5] at f5
        have z5 := hown.frozenAt (k * 10 + 5)
        obtain ⟨u6, q6⟩ : ∃ u, L[k * 10 + 6]? = some u := ⟨_, List.getElem?_eq_getElem (by omega)⟩
        have f6 := hown.cellAt (k * 10 + 6) (by omega)
        rw [q6] at f6
        have z6 := hown.frozenAt (k * 10 + 6)
        obtain ⟨u7, q7⟩ : ∃ u, L[k * 10 + 7]? = some u := ⟨_, List.getElem?_eq_getElem (by omega)⟩
        have f7 := hown.cellAt (k * 10 + 7) (by omega)
        rw [q7] at f7
        have z7 := hown.frozenAt (k * 10 + 7)
        obtain ⟨s0, t0⟩ := hown.stored (k * 10) (.int .i64 ((k0 : Int) + (k : Int) * 10))
        obtain ⟨s1, t1⟩ := s0.stored (k * 10 + 1) (.int .i64 ((k0 : Int) + (k : Int) * 10 + 1))
        obtain ⟨s2, t2⟩ := s1.stored (k * 10 + 2) (.int .i64 ((k0 : Int) + (k : Int) * 10 + 2))
        obtain ⟨s3, t3⟩ := s2.stored (k * 10 + 3) (.int .i64 ((k0 : Int) + (k : Int) * 10 + 3))
        obtain ⟨s4, t4⟩ := s3.stored (k * 10 + 4) (.int .i64 ((k0 : Int) + (k : Int) * 10 + 4))
        obtain ⟨s5, t5⟩ := s4.stored (k * 10 + 5) (.int .i64 ((k0 : Int) + (k : Int) * 10 + 5))
        obtain ⟨s6, t6⟩ := s5.stored (k * 10 + 6) (.int .i64 ((k0 : Int) + (k : Int) * 10 + 6))
        obtain ⟨s7, t7⟩ := s6.stored (k * 10 + 7) (.int .i64 ((k0 : Int) + (k : Int) * 10 + 7))
        have HB : Hid (World.ownsRow _ base 78 10 (.slice (some ⟨g, 0, none⟩) n cap) n _) := s7
        have HGB : Hid (w.grownBy _ (some g)) := ((((((((hgr.trans t0).trans t1).trans t2).trans t3).trans t4).trans t5).trans t6).trans t7)
        clear s0 t0 q0 s1 t1 q1 s2 t2 q2 s3 t3 q3 s4 t4 q4 s5 t5 q5 s6 t6 q6 s7 t7 q7 hown hgr
        go_wp2_with fail
        refine (c_mtextI2 _ (k0 + k * 10 + 8) _ (by omega) (by omega) (by omega)).mono ?_
        rintro e w3 ⟨rfl, hb3⟩
        have hown3 := own_below HB.out hb3
        have HG3 : Hid (w.grownBy w3 (some g)) := HGB.out.trans (grown_of_below hb3 (some g))
        clear f0 z0 f1 z1 f2 z2 f3 z3 f4 z4 f5 z5 f6 z6 f7 z7 HB HGB hb3
        have hl3 := hown3.1
        obtain ⟨u8, q8⟩ : ∃ u, w3.cell? ⟨g, k * 10 + 8, none⟩ = some u := ⟨_, (hown3.cellAt (k * 10 + 8) (by omega)).trans (List.getElem?_eq_getElem (by omega))⟩
        have z8 := hown3.frozenAt (k * 10 + 8)
        obtain ⟨s8, t8⟩ := hown3.stored (k * 10 + 8) (.string (mtext (k0 + k * 10 + 8)))
        have HB : Hid (World.ownsRow _ base 78 10 (.slice (some ⟨g, 0, none⟩) n cap) n _) := s8
        have HGB : Hid (w.grownBy _ (some g)) := HG3.out.trans t8
        clear s8 t8 hown3 HG3 hl3
        go_wp2_with fail
        refine (c_mtextI2 _ (k0 + k * 10 + 9) _ (by omega) (by omega) (by omega)).mono ?_
        rintro e w4 ⟨rfl, hb4⟩
        have hown4 := own_below HB.out hb4
        have HG4 : Hid (w.grownBy w4 (some g)) := HGB.out.trans (grown_of_below hb4 (some g))
        clear q8 z8 HB HGB hb4
        have hl4 := hown4.1
        obtain ⟨u9, q9⟩ : ∃ u, w4.cell? ⟨g, k * 10 + 9, none⟩ = some u := ⟨_, (hown4.cellAt (k * 10 + 9) (by omega)).trans (List.getElem?_eq_getElem (by omega))⟩
        have z9 := hown4.frozenAt (k * 10 + 9)
        obtain ⟨s9, t9⟩ := hown4.stored (k * 10 + 9) (.string (mtext (k0 + k * 10 + 9)))
        have HC : Hid (World.ownsRow (w4.setCell ⟨g, k * 10 + 9, none⟩ (.string (mtext (k0 + k * 10 + 9)))) base 78 10 (.slice (some ⟨g, 0, none⟩) n cap) n (cellsQ (mixA (marksQ k0 n) xs (k + 1)))) := by
          unfold Hid
          rw [← HS.out]
          exact s9
        have HGC : Hid (w.grownBy _ (some g)) := HG4.out.trans t9
        clear s9 t9 hown4 HG4 hl4
        go_wp2
        go_roundw
        case rel => exact ⟨k + 1, by omega, by go_num, by go_num, HC.out, HGC.out⟩
        case measure => simp [intOf]; omega
      · have e : k = n := by omega
        subst e
        rw [mixA_full _ _ k hxl (marksQ_len _ _)] at hown
        go_wp2
        go_ret
        exact ⟨rfl, hown, hgr⟩

end Go.Proofs.YtkpopingbbaomaaGreatDoor
namespace Go.Proofs.YtkpopingbbaomaaGreatDoor
open Go Go.RowKit
attribute [local go_sem ↓] Go.wp_at_zero Go.wp_at_succ

set_option maxRecDepth 100000 in
set_option maxHeartbeats 8000000 in
theorem c_heldQ2 (a : Option Addr) (n cap k0 : Nat) (w : World) (hr : RdQ w a n (marksQ k0 n)) (h1 : 1 ≤ k0) (hn : n ≤ 2097152) (hk : k0 ≤ 8796093022208) :
    Calls Tryz.prog 108 #[.slice a n cap, .int .i64 k0] w fun e w' => e = .returned (.int .i64 (k0 + n * 10 : Nat)) ∧ Below w.heap.size w w' := by
  obtain ⟨hl, hcs⟩ := hr
  go_enter Tryz.func108, Tryz.ntmps108
  go_wp2
  go_loopw [1, 5] (fun m i wr => ∃ k : Nat, k ≤ n ∧ i = .int .i64 k ∧ m = .int .i64 ((k0 + k * 10 : Nat) : Int) ∧ Below w.heap.size w wr) (fun _ i _ => n - (intOf i).toNat)
  case atStart => exact ⟨0, by omega, rfl, by simp, Below.refl _ _⟩
  case round =>
    obtain ⟨k, hk, rfl, rfl, hb⟩ := hrel
    by_cases hlt : k < n
    · obtain ⟨b, off, rfl, hbl, hc⟩ := hcs (by omega)
      obtain ⟨d0, d1, d2, d3, d4, d5, d6, d7, d8, d9⟩ := RdQ.at hc hlt (marksQ_val k0 n k hlt).symm
      dsimp only at d0 d1 d2 d3 d4 d5 d6 d7 d8 d9
      have e0 : wr.cell? ⟨b, off + k * 10, none⟩ = some (.int .i64 ((k0 : Int) + (k : Int) * 10)) := by rw [hb.cell (p := ⟨b, off + k * 10, none⟩) hbl, d0]
      have e1 : wr.cell? ⟨b, off + k * 10 + 1, none⟩ = some (.int .i64 ((k0 : Int) + (k : Int) * 10 + 1)) := by rw [hb.cell (p := ⟨b, off + k * 10 + 1, none⟩) hbl, d1]
      have e2 : wr.cell? ⟨b, off + k * 10 + 2, none⟩ = some (.int .i64 ((k0 : Int) + (k : Int) * 10 + 2)) := by rw [hb.cell (p := ⟨b, off + k * 10 + 2, none⟩) hbl, d2]
      have e3 : wr.cell? ⟨b, off + k * 10 + 3, none⟩ = some (.int .i64 ((k0 : Int) + (k : Int) * 10 + 3)) := by rw [hb.cell (p := ⟨b, off + k * 10 + 3, none⟩) hbl, d3]
      have e4 : wr.cell? ⟨b, off + k * 10 + 4, none⟩ = some (.int .i64 ((k0 : Int) + (k : Int) * 10 + 4)) := by rw [hb.cell (p := ⟨b, off + k * 10 + 4, none⟩) hbl, d4]
      have e5 : wr.cell? ⟨b, off + k * 10 + 5, none⟩ = some (.int .i64 ((k0 : Int) + (k : Int) * 10 + 5)) := by rw [hb.cell (p := ⟨b, off + k * 10 + 5, none⟩) hbl, d5]
      have e6 : wr.cell? ⟨b, off + k * 10 + 6, none⟩ = some (.int .i64 ((k0 : Int) + (k : Int) * 10 + 6)) := by rw [hb.cell (p := ⟨b, off + k * 10 + 6, none⟩) hbl, d6]
      have e7 : wr.cell? ⟨b, off + k * 10 + 7, none⟩ = some (.int .i64 ((k0 : Int) + (k : Int) * 10 + 7)) := by rw [hb.cell (p := ⟨b, off + k * 10 + 7, none⟩) hbl, d7]
      have e8 : wr.cell? ⟨b, off + k * 10 + 8, none⟩ = some (.string (mtext (k0 + k * 10 + 8))) := by rw [hb.cell (p := ⟨b, off + k * 10 + 8, none⟩) hbl, d8]
      have e9 : wr.cell? ⟨b, off + k * 10 + 9, none⟩ = some (.string (mtext (k0 + k * 10 + 9))) := by rw [hb.cell (p := ⟨b, off + k * 10 + 9, none⟩) hbl, d9]
      have g1 : (0 : Int) ≤ (k : Int) := by omega
      have g2 : (k : Int) < (n : Int) := by omega
      clear hc hcs d0 d1 d2 d3 d4 d5 d6 d7 d8 d9
      go_wp2_with fail
      go_region_held3 (fun x => x.cell? ⟨b, off + k * 10 + 8, none⟩ = some (.string (mtext (k0 + k * 10 + 8)))) (first | go_keep | (rw [hb3.cell (p := ⟨b, off + k * 10 + 8, none⟩) (World.block_lt_of_cell? _ ⟨b, off + k * 10 + 8, none⟩ (by assumption))]; assumption))
        (first | (go_at_call 193; refine (c_mtextI2 _ (k0 + k * 10 + 8) _ (by omega) (by omega) (by omega)).mono ?_; rintro e w3 ⟨rfl, hb3⟩))
      have hb' : Below w.heap.size w w3 := hb.drew.trans (hb3.mono hb.size)
      have k9 : w3.cell? ⟨b, off + k * 10 + 9, none⟩ = some (.string (mtext (k0 + k * 10 + 9))) := far6 hb3 e9
      clear hb3 e0 e1 e2 e3 e4 e5 e6 e7 e8 e9 hb
      go_wp2_with fail
      go_region_held3 (fun x => x.cell? ⟨b, off + k * 10 + 9, none⟩ = some (.string (mtext (k0 + k * 10 + 9)))) (first | go_keep | (rw [hb4.cell (p := ⟨b, off + k * 10 + 9, none⟩) (World.block_lt_of_cell? _ ⟨b, off + k * 10 + 9, none⟩ (by assumption))]; assumption))
        (first | (go_at_call 193; refine (c_mtextI2 _ (k0 + k * 10 + 9) _ (by omega) (by omega) (by omega)).mono ?_; rintro e w4 ⟨rfl, hb4⟩))
      have hb5 : Below w.heap.size w w4 := hb'.drew.trans (hb4.mono hb'.size)
      clear hb4 k9 hb'
      go_wp2
      go_roundw
      case rel => exact ⟨k + 1, by omega, by go_num, by go_num, hb5⟩
      case measure => simp [intOf]; omega
    · have e : k = n := by omega
      subst e
      go_wp2
      go_ret
      exact ⟨rfl, hb⟩

end Go.Proofs.YtkpopingbbaomaaGreatDoor
