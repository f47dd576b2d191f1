/-
  How a disk that came in is read.
-/
import Derived.Test.YtkgfbnbgmgakoaaDoorYla
import Derived.Deep.RegionHeld3
import Derived.Test.YtkgfbnbgmgakoaaDoorYma
import Derived.Test.YtkgfbnbgmgakoaaDoorOi
import Derived.Test.YtkgfbnbgmgakoaaDoorHb
import Derived.Test.YtkgfbnbgmgakoaaDoorHs
import Derived.BigQuiet
import Derived.Test.YtkgfbnbgmgakoaaDoorDk
import Derived.Test.YtkgfbnbgmgakoaaDoorTe
import Derived.Test.YtkgfbnbgmgakoaaDoorOk
import Derived.ProofKit
import Derived.OpenShut
import Derived.SliceStrings
import Derived.ChangeSlices
import Derived.Lib.SmallJoins
import Derived.Deep.Slices
import Derived.Deep.Strs
namespace Go.Proofs.YtkgfbnbgmgakoaaDoor
open Go Go.RowKit
attribute [local go_sem ↓] Go.wp_at_zero Go.wp_at_succ

def mQ (k0 i : Nat) : DR := ⟨((k0 + i * 10 : Nat) : Int), ((k0 + i * 10 + 1 : Nat) : Int), ((k0 + i * 10 + 2 : Nat) : Int), ((k0 + i * 10 + 3 : Nat) : Int), ((k0 + i * 10 + 4 : Nat) : Int), ((k0 + i * 10 + 5 : Nat) : Int), ((k0 + i * 10 + 6 : Nat) : Int), ((k0 + i * 10 + 7 : Nat) : Int), mtext (k0 + i * 10 + 8), mtext (k0 + i * 10 + 9)⟩
def marksQ (k0 n : Nat) : List DR := (List.range n).map (mQ k0)
theorem marksQ_len (k0 n : Nat) : (marksQ k0 n).length = n := by simp [marksQ]
theorem marksQ_get (k0 n k : Nat) (h : k < n) : (marksQ k0 n).getD k zeroR = mQ k0 k := by
  unfold marksQ; rw [List.getD_eq_getElem?_getD, List.getElem?_map, List.getElem?_range h]; rfl
theorem marksQ_val (k0 n k : Nat) (h : k < n) : (marksQ k0 n).getD k zeroR = ⟨(k0 : Int) + (k : Int) * 10, (k0 : Int) + (k : Int) * 10 + 1, (k0 : Int) + (k : Int) * 10 + 2, (k0 : Int) + (k : Int) * 10 + 3, (k0 : Int) + (k : Int) * 10 + 4, (k0 : Int) + (k : Int) * 10 + 5, (k0 : Int) + (k : Int) * 10 + 6, (k0 : Int) + (k : Int) * 10 + 7, mtext (k0 + k * 10 + 8), mtext (k0 + k * 10 + 9)⟩ := by rw [marksQ_get _ _ _ h]; unfold mQ; simp
set_option maxRecDepth 100000 in
set_option maxHeartbeats 8000000 in
theorem c_markQ (base : Nat) (v : Value) (n k0 : Nat) (xs : List DR) (w : World) (hown : w.ownsRow base 75 10 v n (cellsQ xs)) (h1 : 1 ≤ k0) (hn : n ≤ 100000) (hk : k0 ≤ 1000000) :
    Calls Tryd.prog 33 #[v, .int .i64 k0] w fun e w' => e = .returned (.int .i64 (k0 + n * 10 : Nat)) ∧ w'.ownsRow base 75 10 v n (cellsQ (marksQ k0 n)) ∧ w.grownBy w' v.ownBlock := by
  have hxl : xs.length = n := by have := hown.1; rw [cellsQ_len] at this; omega
  rcases own_form hown with ⟨rfl, rfl⟩ | ⟨g, cap, rfl, hg1, hg2⟩
  · go_enter Tryd.func33, Tryd.ntmps33
    go_wp2
    refine wp_loop_rounds 1 ?_
    rw [rounds_succ]
    go_wp2
    go_ret
    exact ⟨by simp, by simpa [marksQ, cellsQ] using World.ownsRow_nil w base 75 10, World.grownBy.refl _ _⟩
  · go_enter Tryd.func33, Tryd.ntmps33
    go_wp2
    go_loopw [1, 5] (fun m i wr => ∃ k : Nat, k ≤ n ∧ i = .int .i64 k ∧ m = .int .i64 ((k0 + k * 10 : Nat) : Int) ∧ wr.ownsRow base 75 10 (.slice (some ⟨g, 0, none⟩) n cap) n (cellsQ (mixA (marksQ k0 n) xs k)) ∧ w.grownBy wr (some g)) (fun _ i _ => n - (intOf i).toNat)
    case atStart => exact ⟨0, by omega, rfl, by simp, by rw [mixA_zero]; exact hown, World.grownBy.refl _ _⟩
    case round =>
      obtain ⟨k, hk, rfl, rfl, hown, hgr⟩ := hrel
      by_cases hlt : k < n
      · have hml := mixA_len (marksQ k0 n) xs n k hxl (marksQ_len _ _) hk
        obtain ⟨L, hL⟩ : ∃ L, L = cellsQ (mixA (marksQ k0 n) xs k) := ⟨_, rfl⟩
        have hLl : L.length = n * 10 := by rw [hL, cellsQ_len, hml]
        have HS : Hid (setQ L (k * 10) ⟨(k0 : Int) + (k : Int) * 10, (k0 : Int) + (k : Int) * 10 + 1, (k0 : Int) + (k : Int) * 10 + 2, (k0 : Int) + (k : Int) * 10 + 3, (k0 : Int) + (k : Int) * 10 + 4, (k0 : Int) + (k : Int) * 10 + 5, (k0 : Int) + (k : Int) * 10 + 6, (k0 : Int) + (k : Int) * 10 + 7, mtext (k0 + k * 10 + 8), mtext (k0 + k * 10 + 9)⟩ = cellsQ (mixA (marksQ k0 n) xs (k + 1))) := by
          unfold Hid
          have hset := cellsQ_set (mixA (marksQ k0 n) xs k) k ((marksQ k0 n).getD k zeroR) (by omega)
          rw [mixA_step _ _ n k zeroR hxl (marksQ_len _ _) hlt, marksQ_val _ _ _ hlt, ← hL] at hset
          exact hset
        rw [← hL] at hown
        clear hL
        obtain ⟨u0, q0⟩ : ∃ u, L[k * 10]? = some u := ⟨_, List.getElem?_eq_getElem (by omega)⟩
        have f0 := hown.cellAt (k * 10) (by omega)
        rw [q0] at f0
        have z0 := hown.frozenAt (k * 10)
        obtain ⟨u1, q1⟩ : ∃ u, L[k * 10 + 1]? = some u := ⟨_, List.getElem?_eq_getElem (by omega)⟩
        have f1 := hown.cellAt (k * 10 + 1) (by omega)
        rw [q1] at f1
        have z1 := hown.frozenAt (k * 10 + 1)
        obtain ⟨u2, q2⟩ : ∃ u, L[k * 10 + 2]? = some u := ⟨_, List.getElem?_eq_getElem (by omega)⟩
        have f2 := hown.cellAt (k * 10 + 2) (by omega)
        rw [q2] at f2
        have z2 := hown.frozenAt (k * 10 + 2)
        obtain ⟨u3, q3⟩ : ∃ u, L[k * 10 + 3]? = some u := ⟨_, List.getElem?_eq_getElem (by omega)⟩
        have f3 := hown.cellAt (k * 10 + 3) (by omega)
        rw [q3] at f3
        have z3 := hown.frozenAt (k * 10 + 3)
        obtain ⟨u4, q4⟩ : ∃ u, L[k * 10 + 4]? = some u := ⟨_, List.getElem?_eq_getElem (by omega)⟩
        have f4 := hown.cellAt (k * 10 + 4) (by omega)
        rw [q4] at f4
        have z4 := hown.frozenAt (k * 10 + 4)
        obtain ⟨u5, q5⟩ : ∃ u, L[k * 10 + 5]? = some u := ⟨_, List.getElem?_eq_getElem (by omega)⟩
        have f5 := hown.cellAt (k * 10 + 5) (by omega)
        rw [q5] at f5
        have z5 := hown.frozenAt (k * 10 + 5)
        obtain ⟨u6, q6⟩ : ∃ u, L[k * 10 + 6]? = some u := ⟨_, List.getElem?_eq_getElem (by omega)⟩
        have f6 := hown.cellAt (k * 10 + 6) (by omega)
        rw [q6] at f6
        have z6 := hown.frozenAt (k * 10 + 6)
        obtain ⟨u7, q7⟩ : ∃ u, L[k * 10 + 7]? = some u := ⟨_, List.getElem?_eq_getElem (by omega)⟩
        have f7 := hown.cellAt (k * 10 + 7) (by omega)
        rw [q7] at f7
        have z7 := hown.frozenAt (k * 10 + 7)
        obtain ⟨s0, t0⟩ := hown.stored (k * 10) (.int .i64 ((k0 : Int) + (k : Int) * 10))
        obtain ⟨s1, t1⟩ := s0.stored (k * 10 + 1) (.int .i64 ((k0 : Int) + (k : Int) * 10 + 1))
        obtain ⟨s2, t2⟩ := s1.stored (k * 10 + 2) (.int .i64 ((k0 : Int) + (k : Int) * 10 + 2))
        obtain ⟨s3, t3⟩ := s2.stored (k * 10 + 3) (.int .i64 ((k0 : Int) + (k : Int) * 10 + 3))
        obtain ⟨s4, t4⟩ := s3.stored (k * 10 + 4) (.int .i64 ((k0 : Int) + (k : Int) * 10 + 4))
        obtain ⟨s5, t5⟩ := s4.stored (k * 10 + 5) (.int .i64 ((k0 : Int) + (k : Int) * 10 + 5))
        obtain ⟨s6, t6⟩ := s5.stored (k * 10 + 6) (.int .i64 ((k0 : Int) + (k : Int) * 10 + 6))
        obtain ⟨s7, t7⟩ := s6.stored (k * 10 + 7) (.int .i64 ((k0 : Int) + (k : Int) * 10 + 7))
        have HB : Hid (World.ownsRow _ base 75 10 (.slice (some ⟨g, 0, none⟩) n cap) n _) := s7
        have HGB : Hid (w.grownBy _ (some g)) := ((((((((hgr.trans t0).trans t1).trans t2).trans t3).trans t4).trans t5).trans t6).trans t7)
        clear s0 t0 q0 s1 t1 q1 s2 t2 q2 s3 t3 q3 s4 t4 q4 s5 t5 q5 s6 t6 q6 s7 t7 q7 hown hgr
        go_wp2_with fail
        refine (c_mtextI _ (k0 + k * 10 + 8) _ (by omega) (by omega) (by omega)).mono ?_
        rintro e w3 ⟨rfl, hb3⟩
        have hown3 := own_below HB.out hb3
        have HG3 : Hid (w.grownBy w3 (some g)) := HGB.out.trans (grown_of_below hb3 (some g))
        clear f0 z0 f1 z1 f2 z2 f3 z3 f4 z4 f5 z5 f6 z6 f7 z7 HB HGB hb3
        have hl3 := hown3.1
        obtain ⟨u8, q8⟩ : ∃ u, w3.cell? ⟨g, k * 10 + 8, none⟩ = some u := ⟨_, (hown3.cellAt (k * 10 + 8) (by omega)).trans (List.getElem?_eq_getElem (by omega))⟩
        have z8 := hown3.frozenAt (k * 10 + 8)
        obtain ⟨s8, t8⟩ := hown3.stored (k * 10 + 8) (.string (mtext (k0 + k * 10 + 8)))
        have HB : Hid (World.ownsRow _ base 75 10 (.slice (some ⟨g, 0, none⟩) n cap) n _) := s8
        have HGB : Hid (w.grownBy _ (some g)) := HG3.out.trans t8
        clear s8 t8 hown3 HG3 hl3
        go_wp2_with fail
        refine (c_mtextI _ (k0 + k * 10 + 9) _ (by omega) (by omega) (by omega)).mono ?_
        rintro e w4 ⟨rfl, hb4⟩
        have hown4 := own_below HB.out hb4
        have HG4 : Hid (w.grownBy w4 (some g)) := HGB.out.trans (grown_of_below hb4 (some g))
        clear q8 z8 HB HGB hb4
        have hl4 := hown4.1
        obtain ⟨u9, q9⟩ : ∃ u, w4.cell? ⟨g, k * 10 + 9, none⟩ = some u := ⟨_, (hown4.cellAt (k * 10 + 9) (by omega)).trans (List.getElem?_eq_getElem (by omega))⟩
        have z9 := hown4.frozenAt (k * 10 + 9)
        obtain ⟨s9, t9⟩ := hown4.stored (k * 10 + 9) (.string (mtext (k0 + k * 10 + 9)))
        have HC : Hid (World.ownsRow (w4.setCell ⟨g, k * 10 + 9, none⟩ (.string (mtext (k0 + k * 10 + 9)))) base 75 10 (.slice (some ⟨g, 0, none⟩) n cap) n (cellsQ (mixA (marksQ k0 n) xs (k + 1)))) := by
          unfold Hid
          rw [← HS.out]
          exact s9
        have HGC : Hid (w.grownBy _ (some g)) := HG4.out.trans t9
        clear s9 t9 hown4 HG4 hl4
        go_wp2
        go_roundw
        case rel => exact ⟨k + 1, by omega, by go_num, by go_num, HC.out, HGC.out⟩
        case measure => simp [intOf]; omega
      · have e : k = n := by omega
        subst e
        rw [mixA_full _ _ k hxl (marksQ_len _ _)] at hown
        go_wp2
        go_ret
        exact ⟨rfl, hown, hgr⟩

end Go.Proofs.YtkgfbnbgmgakoaaDoor
namespace Go.Proofs.YtkgfbnbgmgakoaaDoor
open Go Go.RowKit
attribute [local go_sem ↓] Go.wp_at_zero Go.wp_at_succ

set_option maxRecDepth 100000 in
set_option maxHeartbeats 8000000 in
theorem c_heldQ (a : Option Addr) (n cap k0 : Nat) (w : World) (hr : RdQ w a n (marksQ k0 n)) (h1 : 1 ≤ k0) (hn : n ≤ 100000) (hk : k0 ≤ 1000000) :
    Calls Tryd.prog 34 #[.slice a n cap, .int .i64 k0] w fun e w' => e = .returned (.int .i64 (k0 + n * 10 : Nat)) ∧ Below w.heap.size w w' := by
  obtain ⟨hl, hcs⟩ := hr
  go_enter Tryd.func34, Tryd.ntmps34
  go_wp2
  go_loopw [1, 5] (fun m i wr => ∃ k : Nat, k ≤ n ∧ i = .int .i64 k ∧ m = .int .i64 ((k0 + k * 10 : Nat) : Int) ∧ Below w.heap.size w wr) (fun _ i _ => n - (intOf i).toNat)
  case atStart => exact ⟨0, by omega, rfl, by simp, Below.refl _ _⟩
  case round =>
    obtain ⟨k, hk, rfl, rfl, hb⟩ := hrel
    by_cases hlt : k < n
    · obtain ⟨b, off, rfl, hbl, hc⟩ := hcs (by omega)
      obtain ⟨d0, d1, d2, d3, d4, d5, d6, d7, d8, d9⟩ := RdQ.at hc hlt (marksQ_val k0 n k hlt).symm
      dsimp only at d0 d1 d2 d3 d4 d5 d6 d7 d8 d9
      have e0 : wr.cell? ⟨b, off + k * 10, none⟩ = some (.int .i64 ((k0 : Int) + (k : Int) * 10)) := by rw [hb.cell (p := ⟨b, off + k * 10, none⟩) hbl, d0]
      have e1 : wr.cell? ⟨b, off + k * 10 + 1, none⟩ = some (.int .i64 ((k0 : Int) + (k : Int) * 10 + 1)) := by rw [hb.cell (p := ⟨b, off + k * 10 + 1, none⟩) hbl, d1]
      have e2 : wr.cell? ⟨b, off + k * 10 + 2, none⟩ = some (.int .i64 ((k0 : Int) + (k : Int) * 10 + 2)) := by rw [hb.cell (p := ⟨b, off + k * 10 + 2, none⟩) hbl, d2]
      have e3 : wr.cell? ⟨b, off + k * 10 + 3, none⟩ = some (.int .i64 ((k0 : Int) + (k : Int) * 10 + 3)) := by rw [hb.cell (p := ⟨b, off + k * 10 + 3, none⟩) hbl, d3]
      have e4 : wr.cell? ⟨b, off + k * 10 + 4, none⟩ = some (.int .i64 ((k0 : Int) + (k : Int) * 10 + 4)) := by rw [hb.cell (p := ⟨b, off + k * 10 + 4, none⟩) hbl, d4]
      have e5 : wr.cell? ⟨b, off + k * 10 + 5, none⟩ = some (.int .i64 ((k0 : Int) + (k : Int) * 10 + 5)) := by rw [hb.cell (p := ⟨b, off + k * 10 + 5, none⟩) hbl, d5]
      have e6 : wr.cell? ⟨b, off + k * 10 + 6, none⟩ = some (.int .i64 ((k0 : Int) + (k : Int) * 10 + 6)) := by rw [hb.cell (p := ⟨b, off + k * 10 + 6, none⟩) hbl, d6]
      have e7 : wr.cell? ⟨b, off + k * 10 + 7, none⟩ = some (.int .i64 ((k0 : Int) + (k : Int) * 10 + 7)) := by rw [hb.cell (p := ⟨b, off + k * 10 + 7, none⟩) hbl, d7]
      have e8 : wr.cell? ⟨b, off + k * 10 + 8, none⟩ = some (.string (mtext (k0 + k * 10 + 8))) := by rw [hb.cell (p := ⟨b, off + k * 10 + 8, none⟩) hbl, d8]
      have e9 : wr.cell? ⟨b, off + k * 10 + 9, none⟩ = some (.string (mtext (k0 + k * 10 + 9))) := by rw [hb.cell (p := ⟨b, off + k * 10 + 9, none⟩) hbl, d9]
      have g1 : (0 : Int) ≤ (k : Int) := by omega
      have g2 : (k : Int) < (n : Int) := by omega
      clear hc hcs d0 d1 d2 d3 d4 d5 d6 d7 d8 d9
      go_wp2_with fail
      go_region_held3 (fun x => x.cell? ⟨b, off + k * 10 + 8, none⟩ = some (.string (mtext (k0 + k * 10 + 8)))) (first | go_keep | (rw [hb3.cell (p := ⟨b, off + k * 10 + 8, none⟩) (World.block_lt_of_cell? _ ⟨b, off + k * 10 + 8, none⟩ (by assumption))]; assumption))
        (first | (go_at_call 100; refine (c_mtextI _ (k0 + k * 10 + 8) _ (by omega) (by omega) (by omega)).mono ?_; rintro e w3 ⟨rfl, hb3⟩))
      have hb' : Below w.heap.size w w3 := hb.drew.trans (hb3.mono hb.size)
      have k9 : w3.cell? ⟨b, off + k * 10 + 9, none⟩ = some (.string (mtext (k0 + k * 10 + 9))) := far6 hb3 e9
      clear hb3 e0 e1 e2 e3 e4 e5 e6 e7 e8 e9 hb
      go_wp2_with fail
      go_region_held3 (fun x => x.cell? ⟨b, off + k * 10 + 9, none⟩ = some (.string (mtext (k0 + k * 10 + 9)))) (first | go_keep | (rw [hb4.cell (p := ⟨b, off + k * 10 + 9, none⟩) (World.block_lt_of_cell? _ ⟨b, off + k * 10 + 9, none⟩ (by assumption))]; assumption))
        (first | (go_at_call 100; refine (c_mtextI _ (k0 + k * 10 + 9) _ (by omega) (by omega) (by omega)).mono ?_; rintro e w4 ⟨rfl, hb4⟩))
      have hb5 : Below w.heap.size w w4 := hb'.drew.trans (hb4.mono hb'.size)
      clear hb4 k9 hb'
      go_wp2
      go_roundw
      case rel => exact ⟨k + 1, by omega, by go_num, by go_num, hb5⟩
      case measure => simp [intOf]; omega
    · have e : k = n := by omega
      subst e
      go_wp2
      go_ret
      exact ⟨rfl, hb⟩

end Go.Proofs.YtkgfbnbgmgakoaaDoor
namespace Go.Proofs.YtkgfbnbgmgakoaaDoor
open Go Go.RowKit
attribute [local go_sem ↓] Go.wp_at_zero Go.wp_at_succ

set_option maxRecDepth 100000 in
set_option maxHeartbeats 8000000 in
theorem c_implRL (h : HD) (D : DD) (ep : Int) (w : World) (r : RdD w h D) (hf : Fit D) (ht : TabH w) :
    Calls Tryd.prog 29 #[.agg #[.slice h.a0 h.n0 h.c0, .slice h.a1 h.n1 h.c1, .bool h.b, .slice h.a2 h.n2 h.c2], .int .i64 ep] w fun e w' => (∃ a c, e = .returned (.tuple #[.slice a (logR D ep).length c, .int .i64 (logC D ep)]) ∧ w'.ownsRow w.heap.size 75 10 (.slice a (logR D ep).length c) (logR D ep).length (cellsQ (logR D ep))) ∧ Below w.heap.size w w' := by
  obtain ⟨i0, hi, hz0, hz1, hz2⟩ := info_parts infoQ
  obtain ⟨V, hV⟩ : ∃ V, w.alloc (.cells #[.slice h.a0 h.n0 h.c0, .slice h.a1 h.n1 h.c1, .bool h.b, .slice h.a2 h.n2 h.c2] 26) = V := ⟨_, rfl⟩
  have HBV : Hid (Below w.heap.size w V) := by unfold Hid; rw [← hV]; exact (Below.refl _ _).alloc (Nat.le_refl _) _
  have X : Hid (Box V w.heap.size 26 #[.slice h.a0 h.n0 h.c0, .slice h.a1 h.n1 h.c1, .bool h.b, .slice h.a2 h.n2 h.c2]) := by unfold Hid; rw [← hV]; exact Box.new _ _ _
  have HVs : V.heap.size = w.heap.size + 1 := by rw [← hV]; simp
  have R : Hid (RdD w h D) := r
  have HT : Hid (TabH w) := ht
  have k0 : Hid (D.S.length = h.n0) := r.l0
  have COK := c_implOK h D V (r.below HBV.out) hf
  clear r ht hf
  obtain ⟨x0, x1, x2, x3⟩ := box4 X.out
  go_enter Tryd.func29, Tryd.ntmps29
  go_wp2_with fail
  refine COK.mono ?_
  rintro e w1 ⟨rfl, hb1⟩
  have B1 : Hid (Below w.heap.size w w1) := HBV.out.trans (hb1.mono HBV.out.size)
  have X1 : Hid (Box w1 w.heap.size 26 #[.slice h.a0 h.n0 h.c0, .slice h.a1 h.n1 h.c1, .bool h.b, .slice h.a2 h.n2 h.c2]) := X.out.belowS hb1
  have s1 : w.heap.size + 1 ≤ w1.heap.size := by have := hb1.size; omega
  clear hb1 x0 x1 x2 x3 X HBV hV COK HVs
  cases hok : okD D
  · have E : Hid (logR D ep = [] ∧ logC D ep = 1) := lg_bad hok
    clear hok
    go_wp2
    go_ret2
    exact ⟨⟨none, 0, by rw [E.out.1, E.out.2]; rfl, by rw [E.out.1]; exact World.ownsRow_nil _ _ _ _⟩, B1.out⟩
  have OK : Hid (okD D = true) := hok
  clear hok
  go_wp2_with fail
  refine (c_epoch ep w1).mono ?_
  rintro e w2 ⟨rfl, hw2⟩
  subst hw2
  cases hep : inB ep 0 60
  · have E : Hid (logR D ep = [] ∧ logC D ep = 4) := lg_ep OK.out hep
    clear hep
    go_wp2
    go_ret2
    exact ⟨⟨none, 0, by rw [E.out.1, E.out.2]; rfl, by rw [E.out.1]; exact World.ownsRow_nil _ _ _ _⟩, B1.out⟩
  have HL0 : Hid (logL (rdS D.S D.C) D.S.length ep 200 [] = logR D ep) := (lg_yes OK.out hep).1
  have EC : Hid (logC D ep = 0) := (lg_yes OK.out hep).2
  have HSZ : Hid (∀ j, (rdS D.S D.C j).size ≤ 160) := fun j => rdS_size (ok_parts OK.out).2.1 (ok_parts OK.out).2.2
  have hn0 : h.n0 ≤ 100 := by have := (ok_parts OK.out).1.1; have := k0.out; omega
  have hn1 : h.n1 ≤ 500 := by have := (ok_parts OK.out).1.2; have := R.out.l1; omega
  clear hep
  go_wp2
  go_loopw [6, 7, 8] (fun lg le at' wr => ∃ (k : Nat) (acc : List DR) (av : Option Addr) (cv : Nat), k ≤ 91 ∧ Hid (acc.length = k) ∧ lg = .slice av k cv ∧ (∃ q : Int, le = .int .i64 q ∧ Hid (q = lastE acc)) ∧ at' = .int .i64 ((9 + k : Nat) : Int) ∧ Hid (logL (rdS D.S D.C) D.S.length ep (200 - k) acc = logR D ep) ∧ Hid (wr.ownsRow (w.heap.size + 1) 75 10 (.slice av k cv) k (cellsQ acc)) ∧ Hid (Box wr w.heap.size 26 #[.slice h.a0 h.n0 h.c0, .slice h.a1 h.n1 h.c1, .bool h.b, .slice h.a2 h.n2 h.c2]) ∧ Hid (Below w.heap.size w wr)) (fun _ _ i _ => 200 - (intOf i).toNat)
  case atStart => exact ⟨0, [], none, 0, by omega, rfl, rfl, ⟨0, rfl, rfl⟩, rfl, HL0, World.ownsRow_nil _ _ _ _, X1, B1⟩
  case round =>
    clear HL0 X1 B1 s1
    obtain ⟨k, acc, av, cv, hk, HK, rfl, ⟨q, rfl, HQ⟩, rfl, HL, HO, XW, BW⟩ := hrel
    have sw : w.heap.size + 1 ≤ wr.heap.size := XW.out.lt
    obtain ⟨x0, x1, x2, x3⟩ := box4 XW.out
    go_wp2_with fail
    refine (c_has h.a0 h.n0 h.c0 h.a1 h.n1 h.c1 h.b h.a2 h.n2 h.c2 _ wr).mono ?_
    rintro e w3 ⟨rfl, hb3⟩
    have B3 : Hid (Below w.heap.size w w3) := BW.out.trans (hb3.mono BW.out.size)
    have X3 : Hid (Box w3 w.heap.size 26 #[.slice h.a0 h.n0 h.c0, .slice h.a1 h.n1 h.c1, .bool h.b, .slice h.a2 h.n2 h.c2]) := XW.out.belowS hb3
    have O3 : Hid (w3.ownsRow (w.heap.size + 1) 75 10 (.slice av k cv) k (cellsQ acc)) := own_below HO.out hb3
    have s3 : w.heap.size + 1 ≤ w3.heap.size := X3.out.lt
    clear hb3 x0 x1 x2 x3 XW HO BW sw
    by_cases hlt : 9 + k < h.n0
    · rw [decide_eq_true (show (0 : Int) ≤ 9 + (k : Int) ∧ 9 + (k : Int) < (h.n0 : Int) from ⟨by omega, by omega⟩)]
      obtain ⟨x0, x1, x2, x3⟩ := box4 X3.out
      obtain ⟨s, hs⟩ : ∃ s, s = rdS D.S D.C (9 + k) := ⟨_, rfl⟩
      have hsz : s.size ≤ 160 := by rw [hs]; exact HSZ.out _
      have RS := c_readSector h.a0 h.n0 h.c0 h.a1 h.n1 h.c1 h.b h.a2 h.n2 h.c2 D.S D.C (9 + k) w3 (R.out.2.1.below B3.out) (R.out.2.2.1.below B3.out) hlt (by omega) (by omega)
      rw [← hs, show ((9 + k : Nat) : Int) = 9 + (k : Int) from by omega] at RS
      have HS : Hid (s = rdS D.S D.C (9 + k)) := hs
      clear hs
      go_wp2_with fail
      refine RS.mono ?_
      rintro e w4 ⟨rfl, hb4⟩
      have B4 : Hid (Below w.heap.size w w4) := B3.out.trans (hb4.mono B3.out.size)
      have X4 : Hid (Box w4 w.heap.size 26 #[.slice h.a0 h.n0 h.c0, .slice h.a1 h.n1 h.c1, .bool h.b, .slice h.a2 h.n2 h.c2]) := X3.out.belowS hb4
      have O4 : Hid (w4.ownsRow (w.heap.size + 1) 75 10 (.slice av k cv) k (cellsQ acc)) := own_below O3.out hb4
      have s4 : w.heap.size + 1 ≤ w4.heap.size := X4.out.lt
      clear hb4 x0 x1 x2 x3 X3 O3 B3 s3 RS
      have hcv : ∀ W : World, (convert 9 65 (.string s)).run Tryd.prog W = .ok (.slice (some ⟨W.heap.size, 0, none⟩) s.size (grownCap W s.size 0 5)) (W.drew.alloc (.cells (bytesRow s (grownCap W s.size 0 5)) 5 ((bytesRow s (grownCap W s.size 0 5)).size, (bytesRow s (grownCap W s.size 0 5)).size + 1))) := fun W => run_bytes_of_string (P := Tryd.prog) W 9 65 5 s Tryd.underlying9 Tryd.underlying65 Tryd.underlying5
      have CR : Hid (∀ (c : Nat) (fr : Nat × Nat), s.size ≤ c → Calls Tryd.prog 46 #[.slice (some ⟨w4.heap.size, 0, none⟩) s.size c] (w4.drew.alloc (.cells (bytesRow s c) 5 fr)) fun e' w' => e' = .returned (.tuple #[.agg (agR (rdR2 (numsT s))), .int .i64 (rdC2 (numsT s))]) ∧ Below (w4.drew.alloc (.cells (bytesRow s c) 5 fr)).heap.size (w4.drew.alloc (.cells (bytesRow s c) 5 fr)) w') := fun c fr hc => by
        have := c_implRR (some ⟨w4.heap.size, 0, none⟩) s.size c (numsT s) (w4.drew.alloc (.cells (bytesRow s c) 5 fr)) (by
          have := conv_rdV (W := w4.drew) (zs := numsT s) (c := c) (fr := fr) (nums_bytes s)
          rw [nums_get, nums_len] at this
          exact this) (nums_bytes s) (by omega) hc (HT.out.below ((B4.out.drew).alloc (by have := B4.out.size; simpa using this) _))
        exact this
      go_wp2_with fail
      refine (CR.out _ _ (grownCap_ge _ _ _ _)).mono ?_
      rintro e w5 ⟨rfl, hb5⟩
      have BA : Hid (Below w4.heap.size w4 w5) := ((Below.refl _ _).drew.alloc (Nat.le_refl _) _).trans (hb5.mono (by simp))
      have B5 : Hid (Below w.heap.size w w5) := B4.out.trans (BA.out.mono B4.out.size)
      have X5 : Hid (Box w5 w.heap.size 26 #[.slice h.a0 h.n0 h.c0, .slice h.a1 h.n1 h.c1, .bool h.b, .slice h.a2 h.n2 h.c2]) := X4.out.belowS BA.out
      have O5 : Hid (w5.ownsRow (w.heap.size + 1) 75 10 (.slice av k cv) k (cellsQ acc)) := own_below O4.out BA.out
      have s5 : w.heap.size + 1 ≤ w5.heap.size := X5.out.lt
      clear hb5 hcv CR X4 O4 B4 s4 BA
      cases hrc : rcO s with
      | none =>
        obtain ⟨c, hc, hd, hc0⟩ := rc_none (by omega) hrc
        have E : Hid (logR D ep = acc) := log_end (by omega) HL.out (st_none HK.out (by rw [← HS.out]; exact hrc))
        rw [hc, hd]
        have HB : Hid (Below w.heap.size w (w5.alloc (.cells (agR zeroR) 75))) := B5.out.alloc (by omega) _
        have HOO : Hid ((w5.alloc (.cells (agR zeroR) 75)).ownsRow (w.heap.size + 1) 75 10 (.slice av k cv) k (cellsQ acc)) := O5.out.alloc _
        clear hrc hc hd HL O5 X5 B5
        unfold agR zeroR noT at *
        go_wp2
        go_ret2
        exact ⟨⟨av, cv, by rw [E.out, EC.out, HK.out]; first | done | rfl, by rw [E.out, HK.out]; exact HOO.out.down (by omega)⟩, HB.out⟩
      | some Q =>
        obtain ⟨hc, hd⟩ := rc_some (by omega) hrc
        obtain ⟨hre, hrl⟩ := rc_rng hrc
        rw [hc, hd]
        have HRC : Hid (rcO (rdS D.S D.C (9 + k)) = some Q) := by unfold Hid; rw [← HS.out]; exact hrc
        have HB : Hid (Below w.heap.size w (w5.alloc (.cells (agR Q) 75))) := B5.out.alloc (by omega) _
        have HOO : Hid ((w5.alloc (.cells (agR Q) 75)).ownsRow (w.heap.size + 1) 75 10 (.slice av k cv) k (cellsQ acc)) := O5.out.alloc _
        have HX : Hid (Box (w5.alloc (.cells (agR Q) 75)) w.heap.size 26 #[.slice h.a0 h.n0 h.c0, .slice h.a1 h.n1 h.c1, .bool h.b, .slice h.a2 h.n2 h.c2]) := X5.out.alloc _
        have HN : Hid (Box (w5.alloc (.cells (agR Q) 75)) w5.heap.size 75 (agR Q)) := Box.new _ _ _
        have HFAR : Hid (∀ b, (Value.slice av k cv).ownBlock = some b → w.heap.size + 1 ≤ b ∧ b < w5.heap.size) := fun b e => O5.out.lt b e
        clear hrc hc hd O5 X5 B5
        obtain ⟨qe, ql, qt, qk, qp, qn, qg, qs, qb, qa⟩ := Q
        unfold agR at *
        dsimp only at *
        obtain ⟨W, hW⟩ : ∃ W, w5.alloc (.cells #[.int .i64 qe, .int .i64 ql, .int .i64 qt, .int .i64 qk, .int .i64 qp, .int .i64 qn, .int .i64 qg, .int .i64 qs, .string qb, .string qa] 75) = W := ⟨_, rfl⟩
        have HWs : Hid (W.heap.size = w5.heap.size + 1) := by unfold Hid; rw [← hW]; simp
        rw [hW] at HB HOO HX HN
        obtain ⟨y0, y1, y2, y3, y4, y5, y6, y7, y8, y9⟩ := box10 HN.out
        by_cases hb1 : ql = (k : Int) + 1
        case neg =>
          have E : Hid (logR D ep = acc) := log_end (by omega) HL.out (st_bad HK.out HRC.out (fun x => hb1 x.1))
          have c1 : (ql != (k : Int) + 1) = true := by simpa using hb1
          clear HL hb1
          go_wp2
          go_ret2
          exact ⟨⟨av, cv, by rw [E.out, EC.out, HK.out]; first | done | rfl, by rw [E.out, HK.out]; exact HOO.out.down (by omega)⟩, HB.out⟩
        have c1 : (ql != (k : Int) + 1) = false := by simpa using hb1
        by_cases hb2 : qe < q
        · have E : Hid (logR D ep = acc) := log_end (by omega) HL.out (st_bad HK.out HRC.out (fun x => by have h2 := x.2.1; rw [← HQ.out] at h2; dsimp only at h2; omega))
          clear HL hb1
          go_wp2
          go_ret2
          exact ⟨⟨av, cv, by rw [E.out, EC.out, HK.out]; first | done | rfl, by rw [E.out, HK.out]; exact HOO.out.down (by omega)⟩, HB.out⟩
        by_cases hb3 : ep < qe
        · have E : Hid (logR D ep = acc) := log_end (by omega) HL.out (st_bad HK.out HRC.out (fun x => by have h3 := x.2.2; dsimp only at h3; omega))
          clear HL hb1
          go_wp2
          go_ret2
          exact ⟨⟨av, cv, by rw [E.out, EC.out, HK.out]; first | done | rfl, by rw [E.out, HK.out]; exact HOO.out.down (by omega)⟩, HB.out⟩
        have HM : Hid (logL (rdS D.S D.C) D.S.length ep (200 - (k + 1)) (acc ++ [⟨qe, ql, qt, qk, qp, qn, qg, qs, qb, qa⟩]) = logR D ep) := log_more (by omega) HL.out (st_good HK.out (by rw [k0.out]; exact hlt) HRC.out ⟨hb1, by rw [← HQ.out]; dsimp only; omega, by dsimp only; omega⟩)
        have HK1 : Hid ((acc ++ [(⟨qe, ql, qt, qk, qp, qn, qg, qs, qb, qa⟩ : DR)]).length = k + 1) := by unfold Hid; rw [List.length_append, HK.out]; rfl
        have HKE : Hid (∀ w2, (W.alloc (.cells #[.int .i64 qe, .int .i64 ql, .int .i64 qt, .int .i64 qk, .int .i64 qp, .int .i64 qn, .int .i64 qg, .int .i64 qs, .string qb, .string qa] 75)).drew.grownBy w2 (Value.slice av k cv).ownBlock → w2.cell? ⟨w5.heap.size, 0, none⟩ = some (.int .i64 qe)) := fun w2 hg => by
          have b1 : Box (W.alloc (.cells #[.int .i64 qe, .int .i64 ql, .int .i64 qt, .int .i64 qk, .int .i64 qp, .int .i64 qn, .int .i64 qg, .int .i64 qs, .string qb, .string qa] 75)).drew w5.heap.size 75 #[.int .i64 qe, .int .i64 ql, .int .i64 qt, .int .i64 qk, .int .i64 qp, .int .i64 qn, .int .i64 qg, .int .i64 qs, .string qb, .string qa] := (HN.out.alloc _).drewN 1
          exact (b1.grown hg (fun e => by have := HFAR.out _ e; omega)).cell 0
        have cA : (W.alloc (.cells #[.int .i64 qe, .int .i64 ql, .int .i64 qt, .int .i64 qk, .int .i64 qp, .int .i64 qn, .int .i64 qg, .int .i64 qs, .string qb, .string qa] 75)).cell? ⟨w5.heap.size, 0, none⟩ = some (.int .i64 qe) := (HN.out.alloc _).cell 0
        clear HL hb1 HRC HS
        go_wp2_with fail
        go_region_law (refine step_append_lies _ (by rfl) (.tmp 52) (.tmp 54) 27 (by rfl) (w.heap.size + 1) 75 i0 (.agg #[.int .i64 0, .int .i64 0, .int .i64 0, .int .i64 0, .int .i64 0, .int .i64 0, .int .i64 0, .int .i64 0, .string ⟨#[]⟩, .string ⟨#[]⟩]) 10 96 Tryd.underlying27 hi hz0 hz1 hz2 rfl (by omega) (.slice av k cv) k (cellsQ acc) (by rfl) (by exact HOO.out.alloc _) ⟨W.heap.size, 0, none⟩ 1 1 (cQ ⟨qe, ql, qt, qk, qp, qn, qg, qs, qb, qa⟩) (by rfl) (by rfl) (by exact box_newQ (v := ⟨qe, ql, qt, qk, qp, qn, qg, qs, qb, qa⟩) (Box.new _ _ _)) (cQ_one _) (by omega) (by unfold maxLen; omega) (by omega) (by have := HWs.out; simp; omega) _ rfl ?_; intro g2 c2 w2 o2 hg2 ha2 hl2; have cE := HKE.out w2 hg2)
        all_goals
          have hgA : (W.alloc (.cells #[.int .i64 qe, .int .i64 ql, .int .i64 qt, .int .i64 qk, .int .i64 qp, .int .i64 qn, .int .i64 qg, .int .i64 qs, .string qb, .string qa] 75)).drew.grownBy w2 (Value.slice av k cv).ownBlock := hg2
          have hb2' : Below w.heap.size w w2 := (HB.out.alloc HB.out.size _).drew.grown hgA (by have := HWs.out; simp; omega) (fun b e => by have := (HFAR.out b e).1; omega)
          have hx2 : Box w2 w.heap.size 26 #[.slice h.a0 h.n0 h.c0, .slice h.a1 h.n1 h.c1, .bool h.b, .slice h.a2 h.n2 h.c2] := ((HX.out.alloc _).drewN 1).grown hgA (fun e => by have := (HFAR.out _ e).1; omega)
          have ho2 : w2.ownsRow (w.heap.size + 1) 75 10 (.slice (some ⟨g2, 0, none⟩) (k + 1) c2) (k + 1) (cellsQ (acc ++ [⟨qe, ql, qt, qk, qp, qn, qg, qs, qb, qa⟩])) := by rw [cellsQ_append]; exact o2
          have HQ1 : Hid (qe = lastE (acc ++ [(⟨qe, ql, qt, qk, qp, qn, qg, qs, qb, qa⟩ : DR)])) := by unfold Hid; rw [lastE_app]
          have HO2 : Hid (_) := ho2
          have HX2 : Hid (_) := hx2
          have HB2 : Hid (_) := hb2'
          clear o2 hg2 ha2 hl2 hgA ho2 hx2 hb2'
          go_wp2
          go_roundw
          case rel => exact ⟨k + 1, acc ++ [(⟨qe, ql, qt, qk, qp, qn, qg, qs, qb, qa⟩ : DR)], _, c2, by omega, HK1, rfl, ⟨qe, rfl, HQ1⟩, by go_num, HM, HO2, HX2, HB2⟩
          case measure => simp [intOf]; omega
    · rw [decide_eq_false (show ¬ ((0 : Int) ≤ 9 + (k : Int) ∧ 9 + (k : Int) < (h.n0 : Int)) from fun x => by omega)]
      have E : Hid (logR D ep = acc) := log_end (by omega) HL.out (st_far HK.out (by rw [k0.out]; exact hlt))
      clear HL
      go_wp2
      go_ret2
      exact ⟨⟨av, cv, by rw [E.out, EC.out, HK.out]; first | done | rfl, by rw [E.out, HK.out]; exact O3.out.down (by omega)⟩, B3.out⟩

end Go.Proofs.YtkgfbnbgmgakoaaDoor
namespace Go.Proofs.YtkgfbnbgmgakoaaDoor
open Go Go.RowKit
attribute [local go_sem ↓] Go.wp_at_zero Go.wp_at_succ


set_option maxRecDepth 100000 in
set_option maxHeartbeats 8000000 in
theorem law_FnExactReadLog (h : HD) (D : DD) (ep : Int) (P : List DR) (c : Int) (w : World) (r : RdD w h D) (ht : TabH w) (m0 : h.n0 ≤ maxLen) (m1 : h.n1 ≤ maxLen) (m2 : h.n2 ≤ maxLen) (s0 : ∀ s ∈ D.S, s.size ≤ maxLen) (s1 : ∀ p ∈ D.C, p.2.size ≤ maxLen)
    (fr : Fit D → P.length ≤ 1000) (cs : Fit D → ∀ (W : World) (h2 : HD), RdD W h2 D → TabH W → Calls Tryd.prog 27 #[.agg #[.slice h2.a0 h2.n0 h2.c0, .slice h2.a1 h2.n1 h2.c1, .bool h2.b, .slice h2.a2 h2.n2 h2.c2], .int .i64 ep] W fun e w' => (∃ a' c', e = .returned (.tuple #[.slice a' P.length c', .int .i64 c]) ∧ w'.ownsRow W.heap.size 75 10 (.slice a' P.length c') P.length (cellsQ P)) ∧ Below W.heap.size W w') (ci : Fit D → ∀ (W : World) (h2 : HD), RdD W h2 D → TabH W → Calls Tryd.prog 29 #[.agg #[.slice h2.a0 h2.n0 h2.c0, .slice h2.a1 h2.n1 h2.c1, .bool h2.b, .slice h2.a2 h2.n2 h2.c2], .int .i64 ep] W fun e w' => (∃ a' c', e = .returned (.tuple #[.slice a' P.length c', .int .i64 c]) ∧ w'.ownsRow W.heap.size 75 10 (.slice a' P.length c') P.length (cellsQ P)) ∧ Below W.heap.size W w') :
    Calls Tryd.prog 6 #[.agg #[.slice h.a0 h.n0 h.c0, .slice h.a1 h.n1 h.c1, .bool h.b, .slice h.a2 h.n2 h.c2], .int .i64 ep] w fun e w' => e = .returned (.bool true) ∧ Below w.heap.size w w' := by
  have RR : Hid (RdD w h D) := r
  have HT : Hid (TabH w) := ht
  have HB : Hid (Below w.heap.size w (w.alloc (.cells #[.slice h.a0 h.n0 h.c0, .slice h.a1 h.n1 h.c1, .bool h.b, .slice h.a2 h.n2 h.c2] 47))) := (Below.refl _ _).alloc (Nat.le_refl _) _
  have BX : Hid (Box (w.alloc (.cells #[.slice h.a0 h.n0 h.c0, .slice h.a1 h.n1 h.c1, .bool h.b, .slice h.a2 h.n2 h.c2] 47)) w.heap.size 47 #[.slice h.a0 h.n0 h.c0, .slice h.a1 h.n1 h.c1, .bool h.b, .slice h.a2 h.n2 h.c2]) := Box.new _ _ _
  have C : Hid (∀ W, RdD W h D → Calls Tryd.prog 26 #[.agg #[.slice h.a0 h.n0 h.c0, .slice h.a1 h.n1 h.c1, .bool h.b, .slice h.a2 h.n2 h.c2], .int .i64 1048576] W fun e w' => (∃ z : Int, e = .returned (.int .i64 z) ∧ (0 ≤ z → Fit D)) ∧ Below W.heap.size W w') := fun W hW => c_szDisk h D 1048576 W hW m0 m1 m2 s0 s1 (by omega) (by omega)
  have C33 : Hid (Fit D → ∀ W, Below w.heap.size w W → Calls Tryd.prog 28 #[.agg #[.slice h.a0 h.n0 h.c0, .slice h.a1 h.n1 h.c1, .bool h.b, .slice h.a2 h.n2 h.c2]] W fun e w' => (∃ h' : HD, e = .returned (.agg #[.slice h'.a0 h'.n0 h'.c0, .slice h'.a1 h'.n1 h'.c1, .bool h'.b, .slice h'.a2 h'.n2 h'.c2]) ∧ OwnD w' W.heap.size w'.heap.size h' D) ∧ Below W.heap.size W w') := fun hf W hW => c_toDisk h D W (r.below hW) hf
  have FR0 : Hid (Fit D → P.length ≤ 1000) := fr
  have CS0 : Hid (Fit D → ∀ (W : World) (h2 : HD), RdD W h2 D → TabH W → Calls Tryd.prog 27 #[.agg #[.slice h2.a0 h2.n0 h2.c0, .slice h2.a1 h2.n1 h2.c1, .bool h2.b, .slice h2.a2 h2.n2 h2.c2], .int .i64 ep] W fun e w' => (∃ a' c', e = .returned (.tuple #[.slice a' P.length c', .int .i64 c]) ∧ w'.ownsRow W.heap.size 75 10 (.slice a' P.length c') P.length (cellsQ P)) ∧ Below W.heap.size W w') := cs
  have CI0 : Hid (Fit D → ∀ (W : World) (h2 : HD), RdD W h2 D → TabH W → Calls Tryd.prog 29 #[.agg #[.slice h2.a0 h2.n0 h2.c0, .slice h2.a1 h2.n1 h2.c1, .bool h2.b, .slice h2.a2 h2.n2 h2.c2], .int .i64 ep] W fun e w' => (∃ a' c', e = .returned (.tuple #[.slice a' P.length c', .int .i64 c]) ∧ w'.ownsRow W.heap.size 75 10 (.slice a' P.length c') P.length (cellsQ P)) ∧ Below W.heap.size W w') := ci
  clear r ht m0 m1 m2 s0 s1 fr cs ci
  go_enter Tryd.func6, Tryd.ntmps6
  go_wp2_with fail
  refine (C.out _ (RR.out.below HB.out)).mono ?_
  rintro e w1 ⟨⟨z, rfl, hz⟩, hb⟩
  have B1 : Hid (Below w.heap.size w w1) := HB.out.trans (hb.mono HB.out.size)
  have X1 : Hid (Box w1 w.heap.size 47 #[.slice h.a0 h.n0 h.c0, .slice h.a1 h.n1 h.c1, .bool h.b, .slice h.a2 h.n2 h.c2]) := BX.out.belowS hb
  clear hb HB BX C
  by_cases hneg : z < 0
  · clear hz
    go_wp2
    go_ret
    exact ⟨rfl, B1.out⟩
  have FD : Fit D := hz (by omega)
  have F : Hid (Fit D) := FD
  have fp : P.length ≤ 1000 := FR0.out FD
  have CS : Hid (∀ (W : World) (h2 : HD), RdD W h2 D → TabH W → Calls Tryd.prog 27 #[.agg #[.slice h2.a0 h2.n0 h2.c0, .slice h2.a1 h2.n1 h2.c1, .bool h2.b, .slice h2.a2 h2.n2 h2.c2], .int .i64 ep] W fun e w' => (∃ a' c', e = .returned (.tuple #[.slice a' P.length c', .int .i64 c]) ∧ w'.ownsRow W.heap.size 75 10 (.slice a' P.length c') P.length (cellsQ P)) ∧ Below W.heap.size W w') := CS0.out FD
  have CI : Hid (∀ (W : World) (h2 : HD), RdD W h2 D → TabH W → Calls Tryd.prog 29 #[.agg #[.slice h2.a0 h2.n0 h2.c0, .slice h2.a1 h2.n1 h2.c1, .bool h2.b, .slice h2.a2 h2.n2 h2.c2], .int .i64 ep] W fun e w' => (∃ a' c', e = .returned (.tuple #[.slice a' P.length c', .int .i64 c]) ∧ w'.ownsRow W.heap.size 75 10 (.slice a' P.length c') P.length (cellsQ P)) ∧ Below W.heap.size W w') := CI0.out FD
  clear hz FD FR0 CS0 CI0
  have q01 : w.heap.size < w1.heap.size := X1.out.lt
  obtain ⟨v0, v1, v2, v3⟩ := box4 X1.out
  go_wp2_with fail
  refine (C33.out F.out w1 B1.out).mono ?_
  rintro e w2 ⟨⟨h2, rfl, o2⟩, hb⟩
  have T2 : Hid (RdD w2 h2 D) := o2.rd
  clear o2
  have B2 : Hid (Below w.heap.size w w2) := B1.out.trans (hb.mono B1.out.size)
  have X2 : Hid (Box w2 w.heap.size 47 #[.slice h.a0 h.n0 h.c0, .slice h.a1 h.n1 h.c1, .bool h.b, .slice h.a2 h.n2 h.c2]) := X1.out.belowS hb
  have q12 : w1.heap.size ≤ w2.heap.size := hb.size
  clear B1 X1 hb v0 v1 v2 v3
  go_wp2_with fail
  refine (CS.out w2 h2 T2.out (HT.out.below B2.out)).mono ?_
  rintro e w3 ⟨⟨aw, cw, rfl, ow⟩, hb⟩
  have OW3 : Hid (w3.ownsRow w2.heap.size 75 10 (.slice aw P.length cw) P.length (cellsQ P)) := ow
  have RW : Hid (∀ g, ob aw = some g → w2.heap.size ≤ g ∧ g < w3.heap.size) := fun g e => by rw [← ob_slice _ P.length cw] at e; exact ow.lt g e
  clear ow T2
  have B3 : Hid (Below w.heap.size w w3) := B2.out.trans (hb.mono B2.out.size)
  have X3 : Hid (Box w3 w.heap.size 47 #[.slice h.a0 h.n0 h.c0, .slice h.a1 h.n1 h.c1, .bool h.b, .slice h.a2 h.n2 h.c2]) := X2.out.belowS hb
  have q23 : w2.heap.size ≤ w3.heap.size := hb.size
  clear B2 X2 hb 
  obtain ⟨v0, v1, v2, v3⟩ := box4 X3.out
  go_wp2_with fail
  refine (C33.out F.out w3 B3.out).mono ?_
  rintro e w4 ⟨⟨hx, rfl, ox⟩, hb⟩
  have OX4 : Hid (OwnD w4 w3.heap.size w4.heap.size hx D) := ox
  clear ox
  have B4 : Hid (Below w.heap.size w w4) := B3.out.trans (hb.mono B3.out.size)
  have X4 : Hid (Box w4 w.heap.size 47 #[.slice h.a0 h.n0 h.c0, .slice h.a1 h.n1 h.c1, .bool h.b, .slice h.a2 h.n2 h.c2]) := X3.out.belowS hb
  have OW4 : Hid (w4.ownsRow w2.heap.size 75 10 (.slice aw P.length cw) P.length (cellsQ P)) := own_below OW3.out hb
  have q34 : w3.heap.size ≤ w4.heap.size := hb.size
  clear B3 X3 OW3 hb v0 v1 v2 v3
  obtain ⟨w5, hw5⟩ : ∃ W, w4.alloc (.cells #[.slice hx.a0 hx.n0 hx.c0, .slice hx.a1 hx.n1 hx.c1, .bool hx.b, .slice hx.a2 hx.n2 hx.c2] 26) = W := ⟨_, rfl⟩
  have hb : Below w4.heap.size w4 w5 := by rw [← hw5]; exact (Below.refl _ _).alloc (Nat.le_refl _) _
  have YX5 : Hid (Box w5 w4.heap.size 26 #[.slice hx.a0 hx.n0 hx.c0, .slice hx.a1 hx.n1 hx.c1, .bool hx.b, .slice hx.a2 hx.n2 hx.c2]) := by have := Box.new w4 #[.slice hx.a0 hx.n0 hx.c0, .slice hx.a1 hx.n1 hx.c1, .bool hx.b, .slice hx.a2 hx.n2 hx.c2] 26; rwa [hw5] at this
  have B5 : Hid (Below w.heap.size w w5) := B4.out.trans (hb.mono B4.out.size)
  have X5 : Hid (Box w5 w.heap.size 47 #[.slice h.a0 h.n0 h.c0, .slice h.a1 h.n1 h.c1, .bool h.b, .slice h.a2 h.n2 h.c2]) := X4.out.belowS hb
  have OW5 : Hid (w5.ownsRow w2.heap.size 75 10 (.slice aw P.length cw) P.length (cellsQ P)) := own_below OW4.out hb
  have OX5 : Hid (OwnD w5 w3.heap.size w4.heap.size hx D) := OX4.out.below hb
  have q45 : w4.heap.size ≤ w5.heap.size := hb.size
  clear B4 X4 OW4 OX4 hb 
  have p5 : w4.heap.size < w5.heap.size := YX5.out.lt
  obtain ⟨v0, v1, v2, v3⟩ := box4 YX5.out
  go_wp2_with fail
  refine (CI.out w5 hx OX5.out.rd (HT.out.below B5.out)).mono ?_
  rintro e w6 ⟨⟨ag, cg, rfl, og⟩, hb⟩
  have OG6 : Hid (w6.ownsRow w5.heap.size 75 10 (.slice ag P.length cg) P.length (cellsQ P)) := og
  have RG : Hid (∀ g, ob ag = some g → w5.heap.size ≤ g ∧ g < w6.heap.size) := fun g e => by rw [← ob_slice _ P.length cg] at e; exact og.lt g e
  clear og
  have B6 : Hid (Below w.heap.size w w6) := B5.out.trans (hb.mono B5.out.size)
  have X6 : Hid (Box w6 w.heap.size 47 #[.slice h.a0 h.n0 h.c0, .slice h.a1 h.n1 h.c1, .bool h.b, .slice h.a2 h.n2 h.c2]) := X5.out.belowS hb
  have OW6 : Hid (w6.ownsRow w2.heap.size 75 10 (.slice aw P.length cw) P.length (cellsQ P)) := own_below OW5.out hb
  have OX6 : Hid (OwnD w6 w3.heap.size w4.heap.size hx D) := OX5.out.below hb
  have YX6 : Hid (Box w6 w4.heap.size 26 #[.slice hx.a0 hx.n0 hx.c0, .slice hx.a1 hx.n1 hx.c1, .bool hx.b, .slice hx.a2 hx.n2 hx.c2]) := YX5.out.belowS hb
  have q56 : w5.heap.size ≤ w6.heap.size := hb.size
  clear B5 X5 OW5 OX5 YX5 hb v0 v1 v2 v3
  have hcc : (c != c) = false := by simp
  go_wp2_with fail
  refine (c_eqQ ag aw P.length cg cw P w6 (RdQ.own OG6.out) (RdQ.own OW6.out) (by omega)).mono ?_
  rintro e w7 ⟨rfl, hb⟩
  have B7 : Hid (Below w.heap.size w w7) := B6.out.trans (hb.mono B6.out.size)
  have X7 : Hid (Box w7 w.heap.size 47 #[.slice h.a0 h.n0 h.c0, .slice h.a1 h.n1 h.c1, .bool h.b, .slice h.a2 h.n2 h.c2]) := X6.out.belowS hb
  have OW7 : Hid (w7.ownsRow w2.heap.size 75 10 (.slice aw P.length cw) P.length (cellsQ P)) := own_below OW6.out hb
  have OX7 : Hid (OwnD w7 w3.heap.size w4.heap.size hx D) := OX6.out.below hb
  have YX7 : Hid (Box w7 w4.heap.size 26 #[.slice hx.a0 hx.n0 hx.c0, .slice hx.a1 hx.n1 hx.c1, .bool hx.b, .slice hx.a2 hx.n2 hx.c2]) := YX6.out.belowS hb
  have OG7 : Hid (w7.ownsRow w5.heap.size 75 10 (.slice ag P.length cg) P.length (cellsQ P)) := own_below OG6.out hb
  have q67 : w6.heap.size ≤ w7.heap.size := hb.size
  clear B6 X6 OW6 OX6 YX6 OG6 hb 
  obtain ⟨v0, v1, v2, v3⟩ := box4 X7.out
  obtain ⟨u0, u1, u2, u3⟩ := box4 YX7.out
  go_wp2_with fail
  go_region_held3 (fun x => x.cell? ⟨w.heap.size, 0, none⟩ = some (.slice h.a0 h.n0 h.c0) ∧ x.cell? ⟨w.heap.size, 1, none⟩ = some (.slice h.a1 h.n1 h.c1) ∧ x.cell? ⟨w.heap.size, 2, none⟩ = some (.bool h.b) ∧ x.cell? ⟨w.heap.size, 3, none⟩ = some (.slice h.a2 h.n2 h.c2) ∧ x.cell? ⟨w4.heap.size, 0, none⟩ = some (.slice hx.a0 hx.n0 hx.c0) ∧ x.cell? ⟨w4.heap.size, 1, none⟩ = some (.slice hx.a1 hx.n1 hx.c1) ∧ x.cell? ⟨w4.heap.size, 2, none⟩ = some (.bool hx.b) ∧ x.cell? ⟨w4.heap.size, 3, none⟩ = some (.slice hx.a2 hx.n2 hx.c2))
    (first | exact ⟨far6 hb8 (far6 hb7 v0), far6 hb8 (far6 hb7 v1), far6 hb8 (far6 hb7 v2), far6 hb8 (far6 hb7 v3), far6 hb8 (far6 hb7 u0), far6 hb8 (far6 hb7 u1), far6 hb8 (far6 hb7 u2), far6 hb8 (far6 hb7 u3)⟩ | exact ⟨far6 hb7 v0, far6 hb7 v1, far6 hb7 v2, far6 hb7 v3, far6 hb7 u0, far6 hb7 u1, far6 hb7 u2, far6 hb7 u3⟩ | go_keep)
    (first | (go_at_call 28; refine (C33.out F.out _ (below_drewN B7.out _)).mono ?_; rintro e wa ⟨⟨h7, rfl, o7⟩, hb7⟩)
           | (go_at_call 31; refine (c_eqDisk hx h7 D _ ((OX7.out.rd.below (below_drewN (Below.refl _ _) _)).below hb7) o7.rd F.out).mono ?_; rintro e w8 ⟨rfl, hb8⟩))
  have hb : Below w7.heap.size w7 w8 := ((Below.refl w7.heap.size w7).drew.trans hb7).trans (hb8.mono hb7.size)
  clear hb7 hb8 o7 v0 v1 v2 v3 u0 u1 u2 u3
  have B8 : Hid (Below w.heap.size w w8) := B7.out.trans (hb.mono B7.out.size)
  have X8 : Hid (Box w8 w.heap.size 47 #[.slice h.a0 h.n0 h.c0, .slice h.a1 h.n1 h.c1, .bool h.b, .slice h.a2 h.n2 h.c2]) := X7.out.belowS hb
  have OW8 : Hid (w8.ownsRow w2.heap.size 75 10 (.slice aw P.length cw) P.length (cellsQ P)) := own_below OW7.out hb
  have OX8 : Hid (OwnD w8 w3.heap.size w4.heap.size hx D) := OX7.out.below hb
  have YX8 : Hid (Box w8 w4.heap.size 26 #[.slice hx.a0 hx.n0 hx.c0, .slice hx.a1 hx.n1 hx.c1, .bool hx.b, .slice hx.a2 hx.n2 hx.c2]) := YX7.out.belowS hb
  have OG8 : Hid (w8.ownsRow w5.heap.size 75 10 (.slice ag P.length cg) P.length (cellsQ P)) := own_below OG7.out hb
  have q78 : w7.heap.size ≤ w8.heap.size := hb.size
  clear B7 X7 OW7 OX7 YX7 OG7 hb 
  have nx0 := OX8.out.rd.l0
  have nx1 := OX8.out.rd.l1
  have nx2 := OX8.out.rd.l2
  have fd0 := F.out.1
  have fd1 := F.out.2.1
  have fd2 := F.out.2.2.1
  obtain ⟨v0, v1, v2, v3⟩ := box4 YX8.out
  go_wp2_with fail
  refine (c_markDisk hx D w3.heap.size w4.heap.size w8 OX8.out (by omega) (by omega) (by omega)).mono ?_
  rintro e w9 ⟨rfl, om, hi⟩
  clear om v0 v1 v2 v3
  have B9 : Hid (Below w.heap.size w w9) := B8.out.trans (hi.below (by omega) (by omega))
  have X9 : Hid (Box w9 w.heap.size 47 #[.slice h.a0 h.n0 h.c0, .slice h.a1 h.n1 h.c1, .bool h.b, .slice h.a2 h.n2 h.c2]) := X8.out.innO hi (by omega)
  have OW9 : Hid (w9.ownsRow w2.heap.size 75 10 (.slice aw P.length cw) P.length (cellsQ P)) := own_same OW8.out fun g e => hi.block g (OW8.out.lt g e).2 (by rw [ob_slice] at e; have := RW.out g e; omega)
  have YX9 : Hid (Box w9 w4.heap.size 26 #[.slice hx.a0 hx.n0 hx.c0, .slice hx.a1 hx.n1 hx.c1, .bool hx.b, .slice hx.a2 hx.n2 hx.c2]) := YX8.out.innO hi (by omega)
  have OG9 : Hid (w9.ownsRow w5.heap.size 75 10 (.slice ag P.length cg) P.length (cellsQ P)) := own_same OG8.out fun g e => hi.block g (OG8.out.lt g e).2 (by rw [ob_slice] at e; have := RG.out g e; omega)
  have q89 : w8.heap.size ≤ w9.heap.size := hi.size
  clear hi B8 X8 OW8 OX8 YX8 OG8
  have hmk : markN hx ≤ 4194305 := by unfold markN; omega
  go_wp2_with fail
  refine (c_eqQ ag aw P.length cg cw P w9 (RdQ.own OG9.out) (RdQ.own OW9.out) (by omega)).mono ?_
  rintro e w10 ⟨rfl, hb⟩
  have B10 : Hid (Below w.heap.size w w10) := B9.out.trans (hb.mono B9.out.size)
  have X10 : Hid (Box w10 w.heap.size 47 #[.slice h.a0 h.n0 h.c0, .slice h.a1 h.n1 h.c1, .bool h.b, .slice h.a2 h.n2 h.c2]) := X9.out.belowS hb
  have OW10 : Hid (w10.ownsRow w2.heap.size 75 10 (.slice aw P.length cw) P.length (cellsQ P)) := own_below OW9.out hb
  have YX10 : Hid (Box w10 w4.heap.size 26 #[.slice hx.a0 hx.n0 hx.c0, .slice hx.a1 hx.n1 hx.c1, .bool hx.b, .slice hx.a2 hx.n2 hx.c2]) := YX9.out.belowS hb
  have OG10 : Hid (w10.ownsRow w5.heap.size 75 10 (.slice ag P.length cg) P.length (cellsQ P)) := own_below OG9.out hb
  have q910 : w9.heap.size ≤ w10.heap.size := hb.size
  clear B9 X9 OW9 YX9 OG9 hb 
  go_wp2_with fail
  refine (c_markQ w5.heap.size (.slice ag P.length cg) P.length 1 _ w10 OG10.out (by omega) (by omega) (by omega)).mono ?_
  rintro e w11 ⟨rfl, om, hgr⟩
  have hi : Inn w5.heap.size w6.heap.size w10 w11 := Inn.of_grown hgr (fun g e => by rw [ob_slice] at e; exact RG.out g e)
  have OM11 : Hid (w11.ownsRow w5.heap.size 75 10 (.slice ag P.length cg) P.length (cellsQ (marksQ 1 P.length))) := om
  clear om hgr
  have B11 : Hid (Below w.heap.size w w11) := B10.out.trans (hi.below (by omega) (by omega))
  have X11 : Hid (Box w11 w.heap.size 47 #[.slice h.a0 h.n0 h.c0, .slice h.a1 h.n1 h.c1, .bool h.b, .slice h.a2 h.n2 h.c2]) := X10.out.innO hi (by omega)
  have OW11 : Hid (w11.ownsRow w2.heap.size 75 10 (.slice aw P.length cw) P.length (cellsQ P)) := own_same OW10.out fun g e => hi.block g (OW10.out.lt g e).2 (by rw [ob_slice] at e; have := RW.out g e; omega)
  have YX11 : Hid (Box w11 w4.heap.size 26 #[.slice hx.a0 hx.n0 hx.c0, .slice hx.a1 hx.n1 hx.c1, .bool hx.b, .slice hx.a2 hx.n2 hx.c2]) := YX10.out.innO hi (by omega)
  have q1011 : w10.heap.size ≤ w11.heap.size := hi.size
  clear hi B10 X10 OW10 YX10 OG10
  go_wp2_with fail
  refine (c_heldQ ag P.length cg 1 w11 (RdQ.own OM11.out) (by omega) (by omega) (by omega)).mono ?_
  rintro e w12 ⟨rfl, hb⟩
  have B12 : Hid (Below w.heap.size w w12) := B11.out.trans (hb.mono B11.out.size)
  have X12 : Hid (Box w12 w.heap.size 47 #[.slice h.a0 h.n0 h.c0, .slice h.a1 h.n1 h.c1, .bool h.b, .slice h.a2 h.n2 h.c2]) := X11.out.belowS hb
  have OW12 : Hid (w12.ownsRow w2.heap.size 75 10 (.slice aw P.length cw) P.length (cellsQ P)) := own_below OW11.out hb
  have YX12 : Hid (Box w12 w4.heap.size 26 #[.slice hx.a0 hx.n0 hx.c0, .slice hx.a1 hx.n1 hx.c1, .bool hx.b, .slice hx.a2 hx.n2 hx.c2]) := YX11.out.belowS hb
  have OM12 : Hid (w12.ownsRow w5.heap.size 75 10 (.slice ag P.length cg) P.length (cellsQ (marksQ 1 P.length))) := own_below OM11.out hb
  have q1112 : w11.heap.size ≤ w12.heap.size := hb.size
  clear B11 X11 OW11 YX11 OM11 hb 
  obtain ⟨v0, v1, v2, v3⟩ := box4 X12.out
  go_wp2_with fail
  refine (C33.out F.out w12 B12.out).mono ?_
  rintro e w13 ⟨⟨hy, rfl, oy⟩, hb⟩
  have TY : Hid (RdD w13 hy D) := oy.rd
  clear oy
  have B13 : Hid (Below w.heap.size w w13) := B12.out.trans (hb.mono B12.out.size)
  have X13 : Hid (Box w13 w.heap.size 47 #[.slice h.a0 h.n0 h.c0, .slice h.a1 h.n1 h.c1, .bool h.b, .slice h.a2 h.n2 h.c2]) := X12.out.belowS hb
  have OW13 : Hid (w13.ownsRow w2.heap.size 75 10 (.slice aw P.length cw) P.length (cellsQ P)) := own_below OW12.out hb
  have YX13 : Hid (Box w13 w4.heap.size 26 #[.slice hx.a0 hx.n0 hx.c0, .slice hx.a1 hx.n1 hx.c1, .bool hx.b, .slice hx.a2 hx.n2 hx.c2]) := YX12.out.belowS hb
  have OM13 : Hid (w13.ownsRow w5.heap.size 75 10 (.slice ag P.length cg) P.length (cellsQ (marksQ 1 P.length))) := own_below OM12.out hb
  have q1213 : w12.heap.size ≤ w13.heap.size := hb.size
  clear B12 X12 OW12 YX12 OM12 hb v0 v1 v2 v3
  go_wp2_with fail
  refine (CI.out w13 hy TY.out (HT.out.below B13.out)).mono ?_
  rintro e w14 ⟨⟨az, cz, rfl, oz⟩, hb⟩
  have TZ : Hid (RdQ w14 az P.length P) := RdQ.own oz
  clear oz TY
  have B14 : Hid (Below w.heap.size w w14) := B13.out.trans (hb.mono B13.out.size)
  have X14 : Hid (Box w14 w.heap.size 47 #[.slice h.a0 h.n0 h.c0, .slice h.a1 h.n1 h.c1, .bool h.b, .slice h.a2 h.n2 h.c2]) := X13.out.belowS hb
  have OW14 : Hid (w14.ownsRow w2.heap.size 75 10 (.slice aw P.length cw) P.length (cellsQ P)) := own_below OW13.out hb
  have YX14 : Hid (Box w14 w4.heap.size 26 #[.slice hx.a0 hx.n0 hx.c0, .slice hx.a1 hx.n1 hx.c1, .bool hx.b, .slice hx.a2 hx.n2 hx.c2]) := YX13.out.belowS hb
  have OM14 : Hid (w14.ownsRow w5.heap.size 75 10 (.slice ag P.length cg) P.length (cellsQ (marksQ 1 P.length))) := own_below OM13.out hb
  have q1314 : w13.heap.size ≤ w14.heap.size := hb.size
  clear B13 X13 OW13 YX13 OM13 hb 
  go_wp2_with fail
  refine (c_eqQ az aw P.length cz cw P w14 TZ.out (RdQ.own OW14.out) (by omega)).mono ?_
  rintro e w15 ⟨rfl, hb⟩
  have B15 : Hid (Below w.heap.size w w15) := B14.out.trans (hb.mono B14.out.size)
  have X15 : Hid (Box w15 w.heap.size 47 #[.slice h.a0 h.n0 h.c0, .slice h.a1 h.n1 h.c1, .bool h.b, .slice h.a2 h.n2 h.c2]) := X14.out.belowS hb
  have OW15 : Hid (w15.ownsRow w2.heap.size 75 10 (.slice aw P.length cw) P.length (cellsQ P)) := own_below OW14.out hb
  have YX15 : Hid (Box w15 w4.heap.size 26 #[.slice hx.a0 hx.n0 hx.c0, .slice hx.a1 hx.n1 hx.c1, .bool hx.b, .slice hx.a2 hx.n2 hx.c2]) := YX14.out.belowS hb
  have OM15 : Hid (w15.ownsRow w5.heap.size 75 10 (.slice ag P.length cg) P.length (cellsQ (marksQ 1 P.length))) := own_below OM14.out hb
  have q1415 : w14.heap.size ≤ w15.heap.size := hb.size
  clear B14 X14 OW14 YX14 OM14 hb 
  go_wp2_with fail
  refine (c_heldQ ag P.length cg 1 w15 (RdQ.own OM15.out) (by omega) (by omega) (by omega)).mono ?_
  rintro e w16 ⟨rfl, hb⟩
  have B16 : Hid (Below w.heap.size w w16) := B15.out.trans (hb.mono B15.out.size)
  have X16 : Hid (Box w16 w.heap.size 47 #[.slice h.a0 h.n0 h.c0, .slice h.a1 h.n1 h.c1, .bool h.b, .slice h.a2 h.n2 h.c2]) := X15.out.belowS hb
  have OW16 : Hid (w16.ownsRow w2.heap.size 75 10 (.slice aw P.length cw) P.length (cellsQ P)) := own_below OW15.out hb
  have YX16 : Hid (Box w16 w4.heap.size 26 #[.slice hx.a0 hx.n0 hx.c0, .slice hx.a1 hx.n1 hx.c1, .bool hx.b, .slice hx.a2 hx.n2 hx.c2]) := YX15.out.belowS hb
  have OM16 : Hid (w16.ownsRow w5.heap.size 75 10 (.slice ag P.length cg) P.length (cellsQ (marksQ 1 P.length))) := own_below OM15.out hb
  have q1516 : w15.heap.size ≤ w16.heap.size := hb.size
  clear B15 X15 OW15 YX15 OM15 hb 
  go_wp2
  go_ret
  exact ⟨rfl, B16.out⟩
end Go.Proofs.YtkgfbnbgmgakoaaDoor
namespace Go.Proofs.YtkgfbnbgmgakoaaDoor
open Go Go.RowKit
attribute [local go_sem ↓] Go.wp_at_zero Go.wp_at_succ

theorem rc_lo {s : ByteArray} (h : s.size < 4) : rcO s = none := by unfold rcO; rw [uns_lo (by rw [nums_len]; exact h)]; rfl
theorem rc_un {s : ByteArray} (h : unsB (numsT s) = false) : rcO s = none := by unfold rcO; rw [h]; rfl
theorem rc_at {s : ByteArray} (h : unsB (numsT s) = true) : rcO s = rrD (headZ (numsT s)) := by unfold rcO; rw [h]; rfl
set_option maxRecDepth 100000 in
set_option maxHeartbeats 4000000 in
theorem c_l04R (s : ByteArray) (w : World) (hs : s.size ≤ 65536) :
    Calls Tryd.prog 106 #[.string s] w fun e' w' => (∃ D, e' = .returned (.tuple #[.agg (agR D), .bool (rcO s).isSome]) ∧ ∀ D', rcO s = some D' → D = D') ∧ Below w.heap.size w w' := by
  have hl : (numsT s).length = s.size := nums_len s
  cases hu : unsB (numsT s)
  · have E : Hid (rcO s = none) := rc_un hu
    obtain ⟨V, hV⟩ : ∃ V, w.alloc (.cells #[.int .i64 0, .int .i64 0, .int .i64 0, .int .i64 0, .int .i64 0, .int .i64 0, .int .i64 0, .int .i64 0, .string ⟨#[]⟩, .string ⟨#[]⟩] 75) = V := ⟨_, rfl⟩
    have HB : Hid (Below w.heap.size w V) := by unfold Hid; rw [← hV]; exact (Below.refl _ _).alloc (Nat.le_refl _) _
    have BR : Hid (Box V w.heap.size 75 #[.int .i64 0, .int .i64 0, .int .i64 0, .int .i64 0, .int .i64 0, .int .i64 0, .int .i64 0, .int .i64 0, .string ⟨#[]⟩, .string ⟨#[]⟩]) := by unfold Hid; rw [← hV]; exact Box.new _ _ _
    obtain ⟨u0, u1, u2, u3, u4, u5, u6, u7, u8, u9⟩ := box10 BR.out
    obtain ⟨t0, t1, t2, t3, t4, t5, t6, t7, t8, t9⟩ := thaw10 BR.out
    have US : Hid (∃ T, Calls Tryd.prog 105 #[.string s] V fun e w' => e = .returned (.tuple #[.string T, .bool false]) ∧ Below V.heap.size V w') := by
      unfold Hid
      by_cases h4 : s.size < 4
      · refine ⟨⟨#[]⟩, ?_⟩
        have := c_unsealS_lo (numsT s) V (by omega)
        rw [nums_get] at this
        exact this.mono fun e w' ⟨he, q, hq⟩ => ⟨he, by rw [hq]; exact below_drewN (Below.refl _ _) q⟩
      · refine ⟨unsT (numsT s) false, ?_⟩
        have := c_unsealS (numsT s) V (nums_bytes s) (by omega) (by omega)
        rw [nums_get, hu] at this
        exact this
    obtain ⟨T, US⟩ := US.out
    clear hu hl hs
    go_enter Tryd.func106, Tryd.ntmps106
    go_wp2_with fail
    refine US.mono ?_
    rintro e' w1 ⟨rfl, hb⟩
    have B1 : Hid (Below w.heap.size w w1) := HB.out.trans (hb.mono HB.out.size)
    have BR1 : Hid (Box w1 w.heap.size 75 #[.int .i64 0, .int .i64 0, .int .i64 0, .int .i64 0, .int .i64 0, .int .i64 0, .int .i64 0, .int .i64 0, .string ⟨#[]⟩, .string ⟨#[]⟩]) := BR.out.belowS hb
    clear hb hV HB BR US u0 u1 u2 u3 u4 u5 u6 u7 u8 u9 t0 t1 t2 t3 t4 t5 t6 t7 t8 t9
    obtain ⟨u0, u1, u2, u3, u4, u5, u6, u7, u8, u9⟩ := box10 BR1.out
    obtain ⟨t0, t1, t2, t3, t4, t5, t6, t7, t8, t9⟩ := thaw10 BR1.out
    go_wp2
    refine retR2 (D := zeroR) Tryd.results106 rfl rfl rfl (put10_box (D0 := zeroR) BR1.out zeroR) ⟨?_, put10_below B1.out (Nat.le_refl _) zeroR⟩
    rw [E.out]
    exact ⟨zeroR, rfl, fun _ h => by cases h⟩
  · have h4 : 4 ≤ s.size := by
      rcases Nat.lt_or_ge s.size 4 with h | h
      · rw [uns_lo (by rw [nums_len]; exact h)] at hu; cases hu
      · exact h
    have := c_l04Read (numsT s) w (nums_bytes s) (by omega) (by omega) hu
    rw [nums_get] at this
    rw [rc_at hu]
    exact this

end Go.Proofs.YtkgfbnbgmgakoaaDoor
namespace Go.Proofs.YtkgfbnbgmgakoaaDoor
open Go Go.RowKit
attribute [local go_sem ↓] Go.wp_at_zero Go.wp_at_succ

set_option maxRecDepth 100000 in
set_option maxHeartbeats 8000000 in
theorem c_l04Log (h : HD) (D : DD) (ep : Int) (w : World) (r : RdD w h D) (hok : okD D = true) (hep : inB ep 0 60 = true) :
    Calls Tryd.prog 87 #[.agg #[.slice h.a0 h.n0 h.c0, .slice h.a1 h.n1 h.c1, .bool h.b, .slice h.a2 h.n2 h.c2], .int .i64 ep] w fun e w' => (∃ a c, e = .returned (.slice a (logR D ep).length c) ∧ w'.ownsRow w.heap.size 75 10 (.slice a (logR D ep).length c) (logR D ep).length (cellsQ (logR D ep))) ∧ Below w.heap.size w w' := by
  obtain ⟨i0, hi, hz0, hz1, hz2⟩ := info_parts infoQ
  have R : Hid (RdD w h D) := r
  have k0 : Hid (D.S.length = h.n0) := r.l0
  have HL0 : Hid (logL (rdS D.S D.C) D.S.length ep 200 [] = logR D ep) := (lg_yes hok hep).1
  have HSZ : Hid (∀ j, (rdS D.S D.C j).size ≤ 160) := fun j => rdS_size (ok_parts hok).2.1 (ok_parts hok).2.2
  have hn0 : h.n0 ≤ 100 := by have := (ok_parts hok).1.1; have := k0.out; omega
  have hn1 : h.n1 ≤ 500 := by have := (ok_parts hok).1.2; have := R.out.l1; omega
  obtain ⟨V, hV⟩ : ∃ V, (w.alloc (.cells #[.slice h.a0 h.n0 h.c0, .slice h.a1 h.n1 h.c1, .bool h.b, .slice h.a2 h.n2 h.c2] 26)).alloc (.cells #[] 75) = V := ⟨_, rfl⟩
  have HBV : Hid (Below w.heap.size w V) := by unfold Hid; rw [← hV]; exact ((Below.refl _ _).alloc (Nat.le_refl _) _).alloc (by simp) _
  have X : Hid (Box V w.heap.size 26 #[.slice h.a0 h.n0 h.c0, .slice h.a1 h.n1 h.c1, .bool h.b, .slice h.a2 h.n2 h.c2]) := by unfold Hid; rw [← hV]; exact (Box.new _ _ _).alloc _
  have HO0 : Hid (V.ownsRow (w.heap.size + 1) 75 10 (.slice (some ⟨w.heap.size + 1, 0, none⟩) 0 0) 0 (cellsQ [])) := by
    unfold Hid; rw [← hV]
    have ho := World.ownsRow_lit (base := w.heap.size + 1) (e := 75) (size := 10) (w.alloc (.cells #[.slice h.a0 h.n0 h.c0, .slice h.a1 h.n1 h.c1, .bool h.b, .slice h.a2 h.n2 h.c2] 26)) #[] 0 (by simp) (Nat.zero_le _) rfl
    rw [World.size_alloc] at ho
    exact ho
  clear r hok hep
  go_enter Tryd.func87, Tryd.ntmps87
  go_wp2
  go_loopw [5, 6] (fun lg i wr => ∃ (k : Nat) (acc : List DR) (av : Option Addr) (cv : Nat), k ≤ 60 ∧ Hid (acc.length = k) ∧ lg = .slice av k cv ∧ i = .int .i64 ((k + 1 : Nat) : Int) ∧ Hid (logL (rdS D.S D.C) D.S.length ep (200 - k) acc = logR D ep) ∧ Hid (wr.ownsRow (w.heap.size + 1) 75 10 (.slice av k cv) k (cellsQ acc)) ∧ Hid (Box wr w.heap.size 26 #[.slice h.a0 h.n0 h.c0, .slice h.a1 h.n1 h.c1, .bool h.b, .slice h.a2 h.n2 h.c2]) ∧ Hid (Below w.heap.size w wr)) (fun _ i _ => 200 - (intOf i).toNat)
  case atStart => exact ⟨0, [], _, 0, by omega, rfl, rfl, rfl, HL0, HO0, X, HBV⟩
  case round =>
    clear HL0 X HBV HO0 hV
    obtain ⟨k, acc, av, cv, hk, HK, rfl, rfl, HL, HO, XW, BW⟩ := hrel
    have sw : w.heap.size + 1 ≤ wr.heap.size := XW.out.lt
    obtain ⟨x0, x1, x2, x3⟩ := box4 XW.out
    by_cases h60 : k = 60
    · subst h60
      have E : Hid (logR D ep = acc) := by
        refine log_end (k := 60) (by omega) HL.out ?_
        cases hrc : rcO (rdS D.S D.C (9 + 60)) with
        | none => exact st_none HK.out hrc
        | some Q => exact st_bad HK.out hrc (fun x => by have := (rc_rng hrc).2; have := x.1; omega)
      clear HL
      go_wp2
      go_ret
      exact ⟨⟨av, cv, by rw [E.out, HK.out]; first | done | rfl, by rw [E.out, HK.out]; exact HO.out.down (by omega)⟩, BW.out⟩
    by_cases hlt : 9 + k < h.n0
    case neg =>
      have E : Hid (logR D ep = acc) := log_end (by omega) HL.out (st_far HK.out (by rw [k0.out]; exact hlt))
      clear HL
      go_wp2
      go_ret
      exact ⟨⟨av, cv, by rw [E.out, HK.out]; first | done | rfl, by rw [E.out, HK.out]; exact HO.out.down (by omega)⟩, BW.out⟩
    obtain ⟨s, hs⟩ : ∃ s, s = rdS D.S D.C (9 + k) := ⟨_, rfl⟩
    have hsz : s.size ≤ 160 := by rw [hs]; exact HSZ.out _
    have RS := c_l02Read h.a0 h.n0 h.c0 h.a1 h.n1 h.c1 h.b h.a2 h.n2 h.c2 D.S D.C (9 + k) wr (R.out.2.1.below BW.out) (R.out.2.2.1.below BW.out) hlt (by omega) (by omega)
    rw [← hs, show ((9 + k : Nat) : Int) = 9 + (k : Int) from by omega] at RS
    have RSx : Hid (∀ x : Int, x = 9 + (k : Int) → Calls Tryd.prog 127 #[.agg #[.slice h.a0 h.n0 h.c0, .slice h.a1 h.n1 h.c1, .bool h.b, .slice h.a2 h.n2 h.c2], .int .i64 x] wr fun e W' => e = .returned (.string s) ∧ Below wr.heap.size wr W') := fun x hx => by rw [hx]; exact RS
    clear RS
    have HS : Hid (s = rdS D.S D.C (9 + k)) := hs
    clear hs
    go_wp2_with fail
    refine (RSx.out _ (by omega)).mono ?_
    rintro e w4 ⟨rfl, hb4⟩
    have B4 : Hid (Below w.heap.size w w4) := BW.out.trans (hb4.mono BW.out.size)
    have X4 : Hid (Box w4 w.heap.size 26 #[.slice h.a0 h.n0 h.c0, .slice h.a1 h.n1 h.c1, .bool h.b, .slice h.a2 h.n2 h.c2]) := XW.out.belowS hb4
    have O4 : Hid (w4.ownsRow (w.heap.size + 1) 75 10 (.slice av k cv) k (cellsQ acc)) := own_below HO.out hb4
    have s4 : w.heap.size + 1 ≤ w4.heap.size := X4.out.lt
    clear hb4 x0 x1 x2 x3 XW HO BW sw RSx
    go_wp2_with fail
    refine (c_l04R s w4 (by omega)).mono ?_
    rintro e w5 ⟨⟨Q, rfl, hQ⟩, hb5⟩
    have B5 : Hid (Below w.heap.size w w5) := B4.out.trans (hb5.mono B4.out.size)
    have X5 : Hid (Box w5 w.heap.size 26 #[.slice h.a0 h.n0 h.c0, .slice h.a1 h.n1 h.c1, .bool h.b, .slice h.a2 h.n2 h.c2]) := X4.out.belowS hb5
    have O5 : Hid (w5.ownsRow (w.heap.size + 1) 75 10 (.slice av k cv) k (cellsQ acc)) := own_below O4.out hb5
    have s5 : w.heap.size + 1 ≤ w5.heap.size := X5.out.lt
    clear hb5 X4 O4 B4 s4
    have HQ : Hid (∀ D', rcO s = some D' → Q = D') := hQ
    have HB : Hid (Below w.heap.size w (w5.alloc (.cells (agR Q) 75))) := B5.out.alloc (by omega) _
    have HOO : Hid ((w5.alloc (.cells (agR Q) 75)).ownsRow (w.heap.size + 1) 75 10 (.slice av k cv) k (cellsQ acc)) := O5.out.alloc _
    have HX : Hid (Box (w5.alloc (.cells (agR Q) 75)) w.heap.size 26 #[.slice h.a0 h.n0 h.c0, .slice h.a1 h.n1 h.c1, .bool h.b, .slice h.a2 h.n2 h.c2]) := X5.out.alloc _
    have HN : Hid (Box (w5.alloc (.cells (agR Q) 75)) w5.heap.size 75 (agR Q)) := Box.new _ _ _
    have HFAR : Hid (∀ b, (Value.slice av k cv).ownBlock = some b → w.heap.size + 1 ≤ b ∧ b < w5.heap.size) := fun b e => O5.out.lt b e
    clear O5 X5 B5 hQ
    obtain ⟨qe, ql, qt, qk, qp, qn, qg, qs, qb, qa⟩ := Q
    unfold agR at *
    dsimp only at *
    obtain ⟨W, hW⟩ : ∃ W, w5.alloc (.cells #[.int .i64 qe, .int .i64 ql, .int .i64 qt, .int .i64 qk, .int .i64 qp, .int .i64 qn, .int .i64 qg, .int .i64 qs, .string qb, .string qa] 75) = W := ⟨_, rfl⟩
    have HWs : Hid (W.heap.size = w5.heap.size + 1) := by unfold Hid; rw [← hW]; simp
    rw [hW] at HB HOO HX HN
    obtain ⟨y0, y1, y2, y3, y4, y5, y6, y7, y8, y9⟩ := box10 HN.out
    cases hrc : rcO s with
    | none =>
      have E : Hid (logR D ep = acc) := log_end (by omega) HL.out (st_none HK.out (by rw [← HS.out]; exact hrc))
      clear hrc HL HQ
      dsimp only [Option.isSome]
      go_wp2_with fail
      go_quiet (fail)
      go_wp2
      go_ret
      exact ⟨⟨av, cv, by rw [E.out, HK.out]; first | done | rfl, by rw [E.out, HK.out]; exact HOO.out.down (by omega)⟩, below_drewN HB.out _⟩
    | some Q =>
      obtain rfl := HQ.out _ hrc
      obtain ⟨hre, hrl⟩ := rc_rng hrc
      have HRC : Hid (rcO (rdS D.S D.C (9 + k)) = some ⟨qe, ql, qt, qk, qp, qn, qg, qs, qb, qa⟩) := by unfold Hid; rw [← HS.out]; exact hrc
      clear hrc HQ
      dsimp only [Option.isSome] at *
      by_cases hb1 : ql = (k : Int) + 1
      case neg =>
        have E : Hid (logR D ep = acc) := log_end (by omega) HL.out (st_bad HK.out HRC.out (fun x => hb1 x.1))
        have c1 : (ql != (k : Int) + 1) = true := by simpa using hb1
        clear HL hb1
        go_wp2_with fail
        go_quiet (fail)
        go_wp2
        go_ret
        exact ⟨⟨av, cv, by rw [E.out, HK.out]; first | done | rfl, by rw [E.out, HK.out]; exact HOO.out.down (by omega)⟩, below_drewN HB.out _⟩
      have c1 : (ql != (k : Int) + 1) = false := by simpa using hb1
      by_cases hb3 : ep < qe
      · have E : Hid (logR D ep = acc) := log_end (by omega) HL.out (st_bad HK.out HRC.out (fun x => by have h3 := x.2.2; dsimp only at h3; omega))
        clear HL hb1
        go_wp2_with fail
        go_quiet (fail)
        go_wp2
        go_ret
        exact ⟨⟨av, cv, by rw [E.out, HK.out]; first | done | rfl, by rw [E.out, HK.out]; exact HOO.out.down (by omega)⟩, below_drewN HB.out _⟩
      have d3 : decide (ep < qe) = false := decide_eq_false hb3
      have HK1 : Hid ((acc ++ [(⟨qe, ql, qt, qk, qp, qn, qg, qs, qb, qa⟩ : DR)]).length = k + 1) := by unfold Hid; rw [List.length_append, HK.out]; rfl
      have HB1 : Hid (ql = (k : Int) + 1) := hb1
      clear hb1
      rcases k with _ | p
      · have HZ : Hid (lastE acc = 0) := by unfold Hid; rw [List.eq_nil_of_length_eq_zero HK.out]; rfl
        have HM : Hid (logL (rdS D.S D.C) D.S.length ep (200 - (0 + 1)) (acc ++ [⟨qe, ql, qt, qk, qp, qn, qg, qs, qb, qa⟩]) = logR D ep) := log_more (by omega) HL.out (st_good HK.out (by rw [k0.out]; exact hlt) HRC.out ⟨HB1.out, by rw [HZ.out]; dsimp only at hre ⊢; omega, by dsimp only; omega⟩)
        clear HL HRC HS c1
        have c1 : (ql != 1) = false := by rw [show ql = 1 from HB1.out]; rfl
        go_wp2_with fail
        go_quiet (fail)
        go_wp2_with (at_builtin; refine app_any _ rfl (.tmp 61) (.tmp 63) 27 rfl (w.heap.size + 1) 75 i0 (.agg #[.int .i64 0, .int .i64 0, .int .i64 0, .int .i64 0, .int .i64 0, .int .i64 0, .int .i64 0, .int .i64 0, .string ⟨#[]⟩, .string ⟨#[]⟩]) 10 96 Tryd.underlying27 hi hz0 hz1 hz2 rfl (by omega) (.slice av (0) cv) (0) (cellsQ acc) rfl (by exact HOO.out.alloc _) (some ⟨W.heap.size, 0, none⟩) 1 1 (cQ ⟨qe, ql, qt, qk, qp, qn, qg, qs, qb, qa⟩) rfl (fun h => by cases h) rfl (fun ad e => by cases e; exact box_newQ (v := ⟨qe, ql, qt, qk, qp, qn, qg, qs, qb, qa⟩) (Box.new _ _ _)) (cQ_one _) (by unfold maxLen; omega) (by omega) (by have := HWs.out; simp; omega) ?_; intro a6 c6 w6 ho hg hkk)
        have HB6 : Hid (Below w.heap.size w w6) := by
          unfold Hid
          refine Below.grown ?_ hg ?_ (fun b e => by have := (HFAR.out b e).1; omega)
          · exact (below_drewN HB.out _).alloc (by have := HB.out.size; simpa using this) _
          · have := HWs.out; simp; omega
        have HX6 : Hid (Box w6 w.heap.size 26 #[.slice h.a0 h.n0 h.c0, .slice h.a1 h.n1 h.c1, .bool h.b, .slice h.a2 h.n2 h.c2]) := by
          unfold Hid
          refine Box.grown ?_ hg (fun e => by have := (HFAR.out _ e).1; omega)
          exact (HX.out.drewN _).alloc _
        have HO6 : Hid (w6.ownsRow (w.heap.size + 1) 75 10 (.slice a6 (0 + 1) c6) (0 + 1) (cellsQ (acc ++ [(⟨qe, ql, qt, qk, qp, qn, qg, qs, qb, qa⟩ : DR)]))) := by unfold Hid; rw [cellsQ_append]; exact ho
        clear ho hg hkk
        go_wp2
        go_roundw
        case rel => exact ⟨0 + 1, acc ++ [(⟨qe, ql, qt, qk, qp, qn, qg, qs, qb, qa⟩ : DR)], a6, c6, by omega, HK1, rfl, by go_num, HM, HO6, HX6, HB6⟩
        case measure => simp [intOf] <;> omega
      · obtain ⟨m0, hm0⟩ : ∃ m0, m0 = lastE acc := ⟨_, rfl⟩
        obtain ⟨gq, offq, eqv, hgl, hcq⟩ := (RdQ.own HOO.out).2 (by omega)
        subst eqv
        have cL : W.cell? ⟨gq, offq + p * 10, none⟩ = some (.int .i64 m0) := by rw [hm0, lastE_get acc p HK.out]; exact hcq p (by omega) 0 (by omega)
        clear hcq
        have HM0 : Hid (m0 = lastE acc) := hm0
        clear hm0
        have gi : ((p : Int) + 1 + 1 - 2) = (p : Int) := by omega
        have g1 : (0 : Int) ≤ (p : Int) := by omega
        have g2 : (p : Int) < (p : Int) + 1 := by omega
        clear c1
        have c1 : (ql != (p : Int) + 1 + 1) = false := by rw [show ql = (p : Int) + 1 + 1 from by have := HB1.out; omega]; exact bne_self_eq_false _
        have d1 : decide ((1 : Int) < (p : Int) + 1 + 1) = true := decide_eq_true (by omega)
        by_cases hb2 : qe < m0
        · have E : Hid (logR D ep = acc) := log_end (by omega) HL.out (st_bad HK.out HRC.out (fun x => by have h2 := x.2.1; rw [← HM0.out] at h2; dsimp only at h2; omega))
          clear HL
          have d2 : decide (qe < m0) = true := decide_eq_true hb2
          go_wp2_with fail
          go_quiet (fail)
          go_wp2
          go_ret
          exact ⟨⟨_, cv, by rw [E.out, HK.out]; first | done | rfl, by rw [E.out, HK.out]; exact HOO.out.down (by omega)⟩, below_drewN HB.out _⟩
        have HM : Hid (logL (rdS D.S D.C) D.S.length ep (200 - (p + 1 + 1)) (acc ++ [⟨qe, ql, qt, qk, qp, qn, qg, qs, qb, qa⟩]) = logR D ep) := log_more (by omega) HL.out (st_good HK.out (by rw [k0.out]; exact hlt) HRC.out ⟨HB1.out, by rw [← HM0.out]; dsimp only; omega, by dsimp only; omega⟩)
        have d2 : decide (qe < m0) = false := decide_eq_false hb2
        clear HL HRC HS
        go_wp2_with fail
        go_quiet (fail)
        go_wp2_with (at_builtin; refine app_any _ rfl (.tmp 61) (.tmp 63) 27 rfl (w.heap.size + 1) 75 i0 (.agg #[.int .i64 0, .int .i64 0, .int .i64 0, .int .i64 0, .int .i64 0, .int .i64 0, .int .i64 0, .int .i64 0, .string ⟨#[]⟩, .string ⟨#[]⟩]) 10 96 Tryd.underlying27 hi hz0 hz1 hz2 rfl (by omega) (.slice (some ⟨gq, offq, none⟩) (p + 1) cv) (p + 1) (cellsQ acc) rfl (by exact HOO.out.alloc _) (some ⟨W.heap.size, 0, none⟩) 1 1 (cQ ⟨qe, ql, qt, qk, qp, qn, qg, qs, qb, qa⟩) rfl (fun h => by cases h) rfl (fun ad e => by cases e; exact box_newQ (v := ⟨qe, ql, qt, qk, qp, qn, qg, qs, qb, qa⟩) (Box.new _ _ _)) (cQ_one _) (by unfold maxLen; omega) (by omega) (by have := HWs.out; simp; omega) ?_; intro a6 c6 w6 ho hg hkk)
        have HB6 : Hid (Below w.heap.size w w6) := by
          unfold Hid
          refine Below.grown ?_ hg ?_ (fun b e => by have := (HFAR.out b e).1; omega)
          · exact (below_drewN HB.out _).alloc (by have := HB.out.size; simpa using this) _
          · have := HWs.out; simp; omega
        have HX6 : Hid (Box w6 w.heap.size 26 #[.slice h.a0 h.n0 h.c0, .slice h.a1 h.n1 h.c1, .bool h.b, .slice h.a2 h.n2 h.c2]) := by
          unfold Hid
          refine Box.grown ?_ hg (fun e => by have := (HFAR.out _ e).1; omega)
          exact (HX.out.drewN _).alloc _
        have HO6 : Hid (w6.ownsRow (w.heap.size + 1) 75 10 (.slice a6 (p + 1 + 1) c6) (p + 1 + 1) (cellsQ (acc ++ [(⟨qe, ql, qt, qk, qp, qn, qg, qs, qb, qa⟩ : DR)]))) := by unfold Hid; rw [cellsQ_append]; exact ho
        clear ho hg hkk
        go_wp2
        go_roundw
        case rel => exact ⟨p + 1 + 1, acc ++ [(⟨qe, ql, qt, qk, qp, qn, qg, qs, qb, qa⟩ : DR)], a6, c6, by omega, HK1, rfl, by go_num, HM, HO6, HX6, HB6⟩
        case measure => simp [intOf] <;> omega
set_option maxRecDepth 100000 in
set_option maxHeartbeats 4000000 in
theorem c_specRL (h : HD) (D : DD) (ep : Int) (w : World) (r : RdD w h D) (hf : Fit D) :
    Calls Tryd.prog 27 #[.agg #[.slice h.a0 h.n0 h.c0, .slice h.a1 h.n1 h.c1, .bool h.b, .slice h.a2 h.n2 h.c2], .int .i64 ep] w fun e w' => (∃ a c, e = .returned (.tuple #[.slice a (logR D ep).length c, .int .i64 (logC D ep)]) ∧ w'.ownsRow w.heap.size 75 10 (.slice a (logR D ep).length c) (logR D ep).length (cellsQ (logR D ep))) ∧ Below w.heap.size w w' := by
  obtain ⟨V, hV⟩ : ∃ V, w.alloc (.cells #[.slice h.a0 h.n0 h.c0, .slice h.a1 h.n1 h.c1, .bool h.b, .slice h.a2 h.n2 h.c2] 26) = V := ⟨_, rfl⟩
  have HBV : Hid (Below w.heap.size w V) := by unfold Hid; rw [← hV]; exact (Below.refl _ _).alloc (Nat.le_refl _) _
  have X : Hid (Box V w.heap.size 26 #[.slice h.a0 h.n0 h.c0, .slice h.a1 h.n1 h.c1, .bool h.b, .slice h.a2 h.n2 h.c2]) := by unfold Hid; rw [← hV]; exact Box.new _ _ _
  have R : Hid (RdD w h D) := r
  have COK := c_specOK h D V (r.below HBV.out) hf
  clear r hf
  obtain ⟨x0, x1, x2, x3⟩ := box4 X.out
  go_enter Tryd.func27, Tryd.ntmps27
  go_wp2_with fail
  refine COK.mono ?_
  rintro e w1 ⟨rfl, hb1⟩
  have B1 : Hid (Below w.heap.size w w1) := HBV.out.trans (hb1.mono HBV.out.size)
  have X1 : Hid (Box w1 w.heap.size 26 #[.slice h.a0 h.n0 h.c0, .slice h.a1 h.n1 h.c1, .bool h.b, .slice h.a2 h.n2 h.c2]) := X.out.belowS hb1
  clear hb1 x0 x1 x2 x3 X HBV hV COK
  obtain ⟨x0, x1, x2, x3⟩ := box4 X1.out
  cases hok : okD D
  · have E : Hid (logR D ep = [] ∧ logC D ep = 1) := lg_bad hok
    clear hok
    go_wp2
    go_ret2
    exact ⟨⟨_, 0, by rw [E.out.1, E.out.2]; rfl, by rw [E.out.1]; exact World.ownsRow_lit w1 #[] 0 B1.out.size (Nat.zero_le _) rfl⟩, B1.out.alloc B1.out.size _⟩
  go_wp2_with fail
  refine (c_in ep 0 60 w1).mono ?_
  rintro e w2 ⟨rfl, hw2⟩
  subst hw2
  cases hep : inB ep 0 60
  · have E : Hid (logR D ep = [] ∧ logC D ep = 4) := lg_ep hok hep
    clear hep hok
    go_wp2
    go_ret2
    exact ⟨⟨_, 0, by rw [E.out.1, E.out.2]; rfl, by rw [E.out.1]; exact World.ownsRow_lit w2 #[] 0 B1.out.size (Nat.zero_le _) rfl⟩, B1.out.alloc B1.out.size _⟩
  have EC : Hid (logC D ep = 0) := (lg_yes hok hep).2
  have CL := c_l04Log h D ep w2 (R.out.below B1.out) hok hep
  clear hep hok
  go_wp2_with fail
  refine CL.mono ?_
  rintro e w3 ⟨⟨a3, c3, rfl, ho3⟩, hb3⟩
  have HQ : Hid (w3.ownsRow w.heap.size 75 10 (.slice a3 (logR D ep).length c3) (logR D ep).length (cellsQ (logR D ep))) := ho3.down B1.out.size
  have B3 : Hid (Below w.heap.size w w3) := B1.out.trans (hb3.mono B1.out.size)
  clear ho3 hb3 CL x0 x1 x2 x3 X1 B1
  go_wp2
  go_ret2
  exact ⟨⟨a3, c3, by rw [EC.out]; first | done | rfl, HQ.out⟩, B3.out⟩

end Go.Proofs.YtkgfbnbgmgakoaaDoor
namespace Go.Proofs.YtkgfbnbgmgakoaaDoor
open Go Go.RowKit Go.ChangeShapes Go.WideShapes Go.Deep Go.WideElems

attribute [local go_sem ↓] Go.wp_at_zero Go.wp_at_succ

theorem rdV_of_row {α : Type} {w : World} {x : Addr} {len cap : Nat} {zs : List α} (f : α → Value) (d : α) (hl : len ≤ cap) (hz : zs.length = cap) (hcell : ∀ i, i < zs.length → w.cell? (x.add i) = some (f (zs.getD i d))) : RdV w (some x) len ((zs.take len).map f) := by
  refine ⟨by simp; omega, fun h => ?_⟩
  obtain ⟨b, off, spot⟩ := x
  have hc := hcell 0 (by omega)
  have hspot : spot = none := by simpa [Addr.add] using World.cell?_spot hc
  subst hspot
  refine ⟨b, off, rfl, World.block_lt_of_cell? w ⟨b, off, none⟩ (by have := hc; rwa [addr_add] at this), fun i hi => ?_⟩
  have := hcell i (by omega)
  rw [addr_add] at this
  rw [this, map_get f (zs.take len) d i (by simp; omega), List.getD_eq_getElem?_getD, List.getD_eq_getElem?_getD, List.getElem?_take_of_lt hi]
set_option maxRecDepth 100000 in
theorem open_pendings {H : Type} {enc : TypeId × Value → H} {P : Program} {w : World} {base : Nat} {spare : Nat → Bool} {held : Bool} {t e : TypeId} {fuel : Nat} {cs : List Value} {x : DataW H × List MemPlace} {f0 f1 : Field}
    (ht : P.underlying t = some (.slice e)) (hs : P.underlying e = some (.struct #[f0, f1])) (hone : oneCellFields P #[f0, f1] = true) (hC : P.cellsOf e = 2)
    (u0 : P.underlying f0.type = some (.int .i64)) (u1 : P.underlying f1.type = some .string)
    (h : DataW.trod enc P w base spare held fuel t cs = some x) :
    cs = [.slice none 0 0] ∨ ∃ (a : Addr) (len cap : Nat) (vs : List PP), cs = [.slice (some a) len cap] ∧ len ≤ maxLen ∧ RdP w (some a) len vs ∧ ∀ v ∈ vs, v.2.size ≤ maxLen := by
  rcases Go.Deep.open_slice ht h with ⟨h0, _⟩ | ⟨a, len, cap, m, n, D, Pl, hcs, hb, hl, hm, he, hx, hc⟩
  · exact .inl h0
  · right
    have hlm : len ≤ m := by rw [he]; split <;> omega
    have hone' : ∀ i, i < len → ∃ v : PP, (w.cell? (a.add (i * 2)) = some (.int .i64 v.1) ∧ w.cell? (a.add (i * 2 + 1)) = some (.string v.2)) ∧ v.2.size ≤ maxLen := by
      intro i hi
      obtain ⟨cs', h1, h2⟩ := hc i (by omega)
      rw [hC] at h1
      obtain ⟨_, hl3, hg⟩ := World.cells?_some h1
      obtain ⟨xs, n', _, _, _, hlen, hf⟩ := DataW.trod_struct hs h2
      obtain ⟨o0, k0⟩ := hone_of hone 0 f0 rfl
      obtain ⟨o1, k1⟩ := hone_of hone 1 f1 rfl
      match xs, hlen, cs', hl3 with
      | [y0, y1], _, [c0, c1], _ =>
        have g0 := hf 0 f0 rfl
        have g1 := hf 1 f1 rfl
        have g0' : DataW.trod enc P w base spare held n' f0.type [c0] = some y0 := by simpa [o0, k0] using g0
        have g1' : DataW.trod enc P w base spare held n' f1.type [c1] = some y1 := by simpa [o1, k1] using g1
        obtain ⟨z0, e0, _, _⟩ := DataW.trod_int u0 g0'
        obtain ⟨s2, e2, _, ws⟩ := DataW.trod_string u1 g1'
        simp at e0 e2
        subst e0 e2
        have q0 := hg 0 (by omega)
        have q1 := hg 1 (by omega)
        rw [Go.Deep.add_add] at q0 q1
        exact ⟨(z0, s2), ⟨q0, q1⟩, ws⟩
    obtain ⟨f, hf⟩ := Go.Deep.choose_lt (α := PP) hone'
    refine ⟨a, len, cap, (List.range len).map f, hcs, by omega, ⟨by simp, fun hpos => ?_⟩, ?_⟩
    · obtain ⟨b, off, spot⟩ := a
      have hc0 := (hf 0 hpos).1.1
      have hspot : spot = none := by simpa [Addr.add] using World.cell?_spot hc0
      subst hspot
      refine ⟨b, off, rfl, World.block_lt_of_cell? w ⟨b, off, none⟩ (by have := hc0; rwa [addr_add, show off + 0 * 2 = off by omega] at this), fun i hi => ?_⟩
      have hg := (hf i hi).1
      rw [addr_add, addr_add] at hg
      have hd : ((List.range len).map f).getD i dP = f i := by rw [List.getD_eq_getElem?_getD, List.getElem?_map, List.getElem?_range hi]; rfl
      rw [hd]
      exact hg
    · intro v hv
      obtain ⟨i, hi, rfl⟩ := List.mem_map.1 hv
      exact (hf i (List.mem_range.1 hi)).2
set_option maxRecDepth 100000 in
theorem open_texts {H : Type} {enc : TypeId × Value → H} {w : World} {held : Bool} {fuel : Nat} {v : Value} {x : DataW H × List MemPlace} (h : DataW.trod enc Tryd.prog w 0 (fun _ => true) held fuel 22 [v] = some x) :
    ∃ a n c, ∃ ss : List ByteArray, v = .slice a n c ∧ RdV w a n (ss.map Value.string) ∧ n ≤ maxLen ∧ ∀ s ∈ ss, s.size ≤ maxLen := by
  rcases open_strings Tryd.underlying22 Tryd.underlying9 (by kernel_rfl) h with ⟨hcs, _⟩ | ⟨x, l, c, ss, hcs, _, hl, hm, hz, _, hcell, hwz⟩
  · simp at hcs
    exact ⟨none, 0, 0, [], hcs, ⟨rfl, fun h => absurd h (by omega)⟩, by unfold maxLen; omega, fun _ h => by cases h⟩
  · simp at hcs
    exact ⟨some x, l, c, _, hcs, rdV_of_row Value.string _ hl (by simpa using hz) hcell, by omega, fun s h => hwz s (List.mem_of_mem_take h)⟩
set_option maxRecDepth 100000 in
theorem open_numbers {H : Type} {enc : TypeId × Value → H} {w : World} {held : Bool} {fuel : Nat} {v : Value} {x : DataW H × List MemPlace} (h : DataW.trod enc Tryd.prog w 0 (fun _ => true) held fuel 24 [v] = some x) :
    ∃ a n c, ∃ zs : List Int, v = .slice a n c ∧ RdV w a n (zs.map (Value.int .i64)) ∧ n ≤ maxLen := by
  rcases open_ints Tryd.underlying24 Tryd.underlying3 (by kernel_rfl) h with ⟨hcs, _⟩ | ⟨x, l, c, zs, hcs, _, hl, hm, hz, _, hcell, hwz⟩
  · simp at hcs
    exact ⟨none, 0, 0, [], hcs, ⟨rfl, fun h => absurd h (by omega)⟩, by unfold maxLen; omega⟩
  · simp at hcs
    exact ⟨some x, l, c, _, hcs, rdV_of_row (Value.int .i64) _ hl (by simpa using hz) hcell, by omega⟩
set_option maxRecDepth 100000 in
theorem open_disk {H : Type} {enc : TypeId × Value → H} {w : World} {held : Bool} {r : Reach} {b0 : Nat} {v : Value} {d : DataW H} {p : List MemPlace} (hv : Value.okWide Tryd.prog w r b0 47 v) (h : DataW.Trod enc Tryd.prog w 0 (fun _ => true) held 47 v d p) :
    ∃ (h : HD) (D : DD), v = .agg #[.slice h.a0 h.n0 h.c0, .slice h.a1 h.n1 h.c1, .bool h.b, .slice h.a2 h.n2 h.c2] ∧ RdD w h D ∧ h.n0 ≤ maxLen ∧ h.n1 ≤ maxLen ∧ h.n2 ≤ maxLen ∧ (∀ s ∈ D.S, s.size ≤ maxLen) ∧ ∀ p ∈ D.C, p.2.size ≤ maxLen := by
  obtain ⟨v0, v1, v2, v3, y0, y1, y2, y3, n, rfl, _, _, h0, h1, h2, h3⟩ := Go.Joins.open_agg4 Tryd.underlying47 (by kernel_rfl) (by kernel_rfl) hv h
  obtain ⟨a0, n0, c0, ss, rfl, r0, m0, s0⟩ := open_texts h0
  obtain ⟨a2, n2, c2, zs, rfl, r2, m2⟩ := open_numbers h3
  obtain ⟨b, e2, _⟩ := DataW.trod_bool Tryd.underlying4 h2
  simp at e2
  subst e2
  obtain ⟨a1, n1, c1, vs, rfl, r1, m1, s1⟩ : ∃ a n c, ∃ vs : List PP, v1 = .slice a n c ∧ RdP w a n vs ∧ n ≤ maxLen ∧ ∀ p ∈ vs, p.2.size ≤ maxLen := by
    rcases open_pendings Tryd.underlying45 Tryd.underlying163 (by kernel_rfl) (by kernel_rfl) Tryd.underlying3 Tryd.underlying9 h1 with hcs | ⟨x, l, c, vs, hcs, hm, hr, hz⟩
    · simp at hcs
      exact ⟨none, 0, 0, [], hcs, ⟨rfl, fun h => absurd h (by omega)⟩, by unfold maxLen; omega, fun _ h => by cases h⟩
    · simp at hcs
      exact ⟨some x, l, c, vs, hcs, hr, hm, hz⟩
  exact ⟨⟨a0, n0, c0, a1, n1, c1, b, a2, n2, c2⟩, ⟨ss, vs, b, zs⟩, rfl, ⟨rfl, r0, r1, r2⟩, m0, m1, m2, s0, s1⟩

end Go.Proofs.YtkgfbnbgmgakoaaDoor
