/-
  Whom one waits for: the program's walk.
-/
import Derived.Test.YtmjacoocnkcilaaDoorLca
import Derived.Test.YtmjacoocnkcilaaDoorLu
namespace Go.Proofs.YtmjacoocnkcilaaDoor
open Go Go.RowKit
attribute [local go_sem ↓] Go.wp_at_zero Go.wp_at_succ

def wfS (x b r m : Int) (st : List WK × B64) (v : LK) : List WK × B64 := if v.b = b ∧ v.r = r ∧ fitB v.m m = false ∧ inT st.2 v.x = true then (st.1 ++ [⟨x, v.x⟩], subT st.2 (bitT v.x)) else st
def wf (vs : List LK) (x b r m : Int) (o : B64) (k : Nat) : List WK × B64 := (vs.take k).foldl (wfS x b r m) ([], o)
theorem wf_step (vs : List LK) (x b r m : Int) (o : B64) (k : Nat) (hk : k < vs.length) : wf vs x b r m o (k + 1) = wfS x b r m (wf vs x b r m o k) (vs.getD k dK) := by
  unfold wf
  rw [List.take_add_one, List.foldl_append, List.getElem?_eq_getElem hk, List.getD_eq_getElem?_getD, List.getElem?_eq_getElem hk]
  rfl
theorem wf_len (vs : List LK) (x b r m : Int) (o : B64) : ∀ k, k ≤ vs.length → (wf vs x b r m o k).1.length ≤ k
  | 0, _ => Nat.zero_le _
  | k + 1, h => by
    rw [wf_step _ _ _ _ _ _ _ (by omega)]
    have ih := wf_len vs x b r m o k (by omega)
    unfold wfS
    split
    · rw [List.length_append, List.length_singleton]; omega
    · omega
set_option maxRecDepth 100000 in
set_option maxHeartbeats 8000000 in
theorem c_waitsFor (a : Option Addr) (n cap : Nat) (vs : List LK) (x b r m : Int) (o : B64) (w : World) (hr : RdK w a n vs) (hn : n ≤ 60) (hall : vs.all okK = true) (hm : 1 ≤ m ∧ m ≤ 4) (ht : FitH w) :
    Calls Tryd.prog 101 #[.slice a n cap, .agg #[.int .i64 x, .int .i64 b, .int .i64 r, .int .i64 m], .int .u64 (o.toNat : Int)] w fun e w' => (∃ ha hc, e = .returned (.slice ha (wf vs x b r m o n).1.length hc) ∧ w'.ownsRow w.heap.size 59 2 (.slice ha (wf vs x b r m o n).1.length hc) (wf vs x b r m o n).1.length (cellsW (wf vs x b r m o n).1)) ∧ Below w.heap.size w w' := by
  have HT : Hid (FitH w) := ht
  obtain ⟨hl, hcs⟩ := hr
  have HALL : Hid (∀ k, k < n → okK (vs.getD k dK) = true) := fun k hk => List.all_eq_true.1 hall _ (getD_memK (by omega))
  obtain ⟨i0, hi, hz0, hz1, hz2⟩ := info_parts infoW
  obtain ⟨V, hV⟩ : ∃ V, w.alloc (.cells #[.int .i64 x, .int .i64 b, .int .i64 r, .int .i64 m] 55) = V := ⟨_, rfl⟩
  have B : Hid (Below w.heap.size w V) := by unfold Hid; rw [← hV]; exact (Below.refl _ _).alloc (Nat.le_refl _) _
  have X : Hid (Box V w.heap.size 55 #[.int .i64 x, .int .i64 b, .int .i64 r, .int .i64 m]) := by unfold Hid; rw [← hV]; exact Box.new _ _ _
  have HLN : Hid (vs.length = n) := hl
  clear hall ht hl
  go_enter Tryd.func101, Tryd.ntmps101
  go_wp2
  go_loopw [7, 2, 12] (fun s q i wr => ∃ (k : Nat) (av : Option Addr) (cv : Nat), k ≤ n ∧ i = .int .i64 (k : Int) ∧ s = .slice av (wf vs x b r m o k).1.length cv ∧ q = .int .u64 (((wf vs x b r m o k).2.toNat : Nat) : Int) ∧ Hid (wr.ownsRow w.heap.size 59 2 (.slice av (wf vs x b r m o k).1.length cv) (wf vs x b r m o k).1.length (cellsW (wf vs x b r m o k).1)) ∧ Hid (Box wr w.heap.size 55 #[.int .i64 x, .int .i64 b, .int .i64 r, .int .i64 m]) ∧ Hid (∀ g, ob av = some g → w.heap.size < g) ∧ Hid (Below w.heap.size w wr)) (fun _ _ i _ => n - (intOf i).toNat)
  case atStart => exact ⟨0, none, 0, by omega, rfl, rfl, rfl, World.ownsRow_nil _ w.heap.size 59 2, X, (fun _ h => by cases h), B⟩
  case round =>
    obtain ⟨k, av, cv, hk, rfl, rfl, rfl, HO, HX, HL, HB⟩ := hrel
    by_cases hlt : k < n
    · obtain ⟨ba, off, ha, hbl, hc⟩ := hcs (by omega)
      subst ha
      have hok := HALL.out k hlt
      have hst := wf_step vs x b r m o k (by have := HLN.out; omega)
      have hfl := wf_len vs x b r m o k (by have := HLN.out; omega)
      obtain ⟨⟨vx, vb, vr, vm⟩, hv⟩ : ∃ v, v = vs.getD k dK := ⟨_, rfl⟩
      obtain ⟨d0, d1, d2, d3⟩ := hc k hlt
      rw [← hv] at d0 d1 d2 d3 hok hst
      have e0 : wr.cell? ⟨ba, off + k * 4, none⟩ = some (.int .i64 vx) := by rw [HB.out.cell (p := ⟨ba, off + k * 4, none⟩) hbl, d0]
      have e1 : wr.cell? ⟨ba, off + k * 4 + 1, none⟩ = some (.int .i64 vb) := by rw [HB.out.cell (p := ⟨ba, off + k * 4 + 1, none⟩) hbl, d1]
      have e2 : wr.cell? ⟨ba, off + k * 4 + 2, none⟩ = some (.int .i64 vr) := by rw [HB.out.cell (p := ⟨ba, off + k * 4 + 2, none⟩) hbl, d2]
      have e3 : wr.cell? ⟨ba, off + k * 4 + 3, none⟩ = some (.int .i64 vm) := by rw [HB.out.cell (p := ⟨ba, off + k * 4 + 3, none⟩) hbl, d3]
      obtain ⟨bx, _, br, bm⟩ := okK_bounds hok
      have HST : Hid (wf vs x b r m o (k + 1) = wfS x b r m (wf vs x b r m o k) ⟨vx, vb, vr, vm⟩) := hst
      have HR : Hid (∀ g, ob av = some g → g < wr.heap.size) := fun g hg => (own_rng HO.out g hg).2
      clear hc hcs d0 d1 d2 d3 hv hst hok
      obtain ⟨w2, hw2⟩ : ∃ W, wr.alloc (.cells #[.int .i64 vx, .int .i64 vb, .int .i64 vr, .int .i64 vm] 55) = W := ⟨_, rfl⟩
      have hb2 : Below wr.heap.size wr w2 := by rw [← hw2]; exact (Below.refl _ _).alloc (Nat.le_refl _) _
      have K2 : Hid (Box w2 wr.heap.size 55 #[.int .i64 vx, .int .i64 vb, .int .i64 vr, .int .i64 vm]) := by unfold Hid; rw [← hw2]; exact Box.new _ _ _
      have X2 : Hid (Box w2 w.heap.size 55 #[.int .i64 x, .int .i64 b, .int .i64 r, .int .i64 m]) := HX.out.belowS hb2
      have HO2 : Hid (w2.ownsRow w.heap.size 59 2 (.slice av (wf vs x b r m o k).1.length cv) (wf vs x b r m o k).1.length (cellsW (wf vs x b r m o k).1)) := own_below HO.out hb2
      have B2 : Hid (Below w.heap.size w w2) := HB.out.trans (hb2.mono HB.out.size)
      have q0 := K2.out.cell 0
      have q1 := K2.out.cell 1
      have q2 := K2.out.cell 2
      have q3 := K2.out.cell 3
      simp only [List.getElem?_toArray, List.getElem?_cons_zero, List.getElem?_cons_succ] at q0 q1 q2 q3
      have p0 := X2.out.cell 0
      have p1 := X2.out.cell 1
      have p2 := X2.out.cell 2
      have p3 := X2.out.cell 3
      simp only [List.getElem?_toArray, List.getElem?_cons_zero, List.getElem?_cons_succ] at p0 p1 p2 p3
      clear hb2 HO HX HB
      go_wp2_with fail
      refine (c_same vx vb vr vm x b r m w2).mono ?_
      rintro e w3 ⟨rfl, hb3⟩
      have K3 : Hid (Box w3 wr.heap.size 55 #[.int .i64 vx, .int .i64 vb, .int .i64 vr, .int .i64 vm]) := K2.out.belowS hb3
      have X3 : Hid (Box w3 w.heap.size 55 #[.int .i64 x, .int .i64 b, .int .i64 r, .int .i64 m]) := X2.out.belowS hb3
      have HO3 : Hid (w3.ownsRow w.heap.size 59 2 (.slice av (wf vs x b r m o k).1.length cv) (wf vs x b r m o k).1.length (cellsW (wf vs x b r m o k).1)) := own_below HO2.out hb3
      have B3 : Hid (Below w.heap.size w w3) := B2.out.trans (hb3.mono B2.out.size)
      clear q0 q1 q2 q3 p0 p1 p2 p3 hb3 K2 X2 HO2 B2 hw2
      by_cases hs : vb = b ∧ vr = r
      case neg =>
        rw [decide_eq_false hs]
        have HF : Hid (wf vs x b r m o (k + 1) = wf vs x b r m o k) := by unfold Hid; rw [HST.out]; unfold wfS; rw [if_neg (fun h => hs ⟨h.1, h.2.1⟩)]
        clear hs HST
        go_wp2
        go_roundw
        case rel => exact ⟨k + 1, av, cv, by omega, by go_num, by rw [HF.out], by rw [HF.out], by unfold Hid; rw [HF.out]; exact HO3.out, X3, HL, B3⟩
        case measure => simp [intOf]; omega
      rw [decide_eq_true hs]
      have q0 := K3.out.cell 0
      have q1 := K3.out.cell 1
      have q2 := K3.out.cell 2
      have q3 := K3.out.cell 3
      simp only [List.getElem?_toArray, List.getElem?_cons_zero, List.getElem?_cons_succ] at q0 q1 q2 q3
      have p0 := X3.out.cell 0
      have p1 := X3.out.cell 1
      have p2 := X3.out.cell 2
      have p3 := X3.out.cell 3
      simp only [List.getElem?_toArray, List.getElem?_cons_zero, List.getElem?_cons_succ] at p0 p1 p2 p3
      obtain ⟨f, hf⟩ : ∃ f, fitB vm m = f := ⟨_, rfl⟩
      have CF : Hid (Calls Tryd.prog 42 #[.int .i64 vm, .int .i64 m] w3 fun e w' => e = .returned (.bool f) ∧ Below w3.heap.size w3 w') := by unfold Hid; rw [← hf]; exact c_modesFit vm m w3 (HT.out.below B3.out) bm hm
      go_wp2_with fail
      refine CF.out.mono ?_
      rintro e w4 ⟨rfl, hb4⟩
      have K4 : Hid (Box w4 wr.heap.size 55 #[.int .i64 vx, .int .i64 vb, .int .i64 vr, .int .i64 vm]) := K3.out.belowS hb4
      have X4 : Hid (Box w4 w.heap.size 55 #[.int .i64 x, .int .i64 b, .int .i64 r, .int .i64 m]) := X3.out.belowS hb4
      have HO4 : Hid (w4.ownsRow w.heap.size 59 2 (.slice av (wf vs x b r m o k).1.length cv) (wf vs x b r m o k).1.length (cellsW (wf vs x b r m o k).1)) := own_below HO3.out hb4
      have B4 : Hid (Below w.heap.size w w4) := B3.out.trans (hb4.mono B3.out.size)
      clear q0 q1 q2 q3 p0 p1 p2 p3 hb4 K3 X3 HO3 B3 CF
      cases f
      case true =>
        have HF : Hid (wf vs x b r m o (k + 1) = wf vs x b r m o k) := by unfold Hid; rw [HST.out]; unfold wfS; rw [if_neg (fun h => by have := h.2.2.1; simp only at this; rw [hf] at this; cases this)]
        clear hs hf HST
        go_wp2
        go_roundw
        case rel => exact ⟨k + 1, av, cv, by omega, by go_num, by rw [HF.out], by rw [HF.out], by unfold Hid; rw [HF.out]; exact HO4.out, X4, HL, B4⟩
        case measure => simp [intOf]; omega
      have q0 := K4.out.cell 0
      have q1 := K4.out.cell 1
      have q2 := K4.out.cell 2
      have q3 := K4.out.cell 3
      simp only [List.getElem?_toArray, List.getElem?_cons_zero, List.getElem?_cons_succ] at q0 q1 q2 q3
      have p0 := X4.out.cell 0
      have p1 := X4.out.cell 1
      have p2 := X4.out.cell 2
      have p3 := X4.out.cell 3
      simp only [List.getElem?_toArray, List.getElem?_cons_zero, List.getElem?_cons_succ] at p0 p1 p2 p3
      obtain ⟨g, hg⟩ : ∃ g, inT (wf vs x b r m o k).2 vx = g := ⟨_, rfl⟩
      have CH : Hid (∀ W : World, Calls Tryd.prog 76 #[.int .u64 (((wf vs x b r m o k).2.toNat : Nat) : Int), .int .i64 vx] W fun e w' => e = .returned (.bool g) ∧ w' = W) := fun W => by rw [← hg]; exact c_has _ vx W (by omega) (by omega)
      go_wp2_with fail
      refine (CH.out w4).mono ?_
      rintro e wq ⟨rfl, hwq⟩; rw [hwq]; clear hwq
      cases g
      · have HF : Hid (wf vs x b r m o (k + 1) = wf vs x b r m o k) := by unfold Hid; rw [HST.out]; unfold wfS; rw [if_neg (fun h => by have := h.2.2.2; simp only at this; rw [hg] at this; cases this)]
        clear hs hf hg HST q0 q1 q2 q3 p0 p1 p2 p3
        go_wp2
        go_roundw
        case rel => exact ⟨k + 1, av, cv, by omega, by go_num, by rw [HF.out], by rw [HF.out], by unfold Hid; rw [HF.out]; exact HO4.out, X4, HL, B4⟩
        case measure => simp [intOf]; omega
      have HF : Hid (wf vs x b r m o (k + 1) = ((wf vs x b r m o k).1 ++ [⟨x, vx⟩], subT (wf vs x b r m o k).2 (bitT vx))) := by unfold Hid; rw [HST.out]; unfold wfS; rw [if_pos ⟨hs.1, hs.2, hf, hg⟩]
      obtain ⟨w5, hw5⟩ : ∃ W, w4.alloc (.cells #[.int .i64 x, .int .i64 vx] 59) = W := ⟨_, rfl⟩
      have hb5 : Below w4.heap.size w4 w5 := by rw [← hw5]; exact (Below.refl _ _).alloc (Nat.le_refl _) _
      have N5 : Hid (Box w5 w4.heap.size 59 #[.int .i64 x, .int .i64 vx]) := by unfold Hid; rw [← hw5]; exact Box.new _ _ _
      have K5 : Hid (Box w5 wr.heap.size 55 #[.int .i64 vx, .int .i64 vb, .int .i64 vr, .int .i64 vm]) := K4.out.belowS hb5
      have X5 : Hid (Box w5 w.heap.size 55 #[.int .i64 x, .int .i64 b, .int .i64 r, .int .i64 m]) := X4.out.belowS hb5
      have HO5 : Hid (w5.ownsRow w.heap.size 59 2 (.slice av (wf vs x b r m o k).1.length cv) (wf vs x b r m o k).1.length (cellsW (wf vs x b r m o k).1)) := own_below HO4.out hb5
      have B5 : Hid (Below w.heap.size w w5) := B4.out.trans (hb5.mono B4.out.size)
      have lk5 := K5.out.lt
      have rng := own_rng HO5.out
      clear hb5 hs hf hg HST K4 X4 HO4 B4
      go_wp2_with (at_builtin; refine app_any _ rfl (.tmp 33) (.tmp 39) 32 rfl w.heap.size 59 i0 (.agg #[.int .i64 0, .int .i64 0]) 2 16 Tryd.underlying32 hi hz0 hz1 hz2 rfl (by omega) (.slice av (wf vs x b r m o k).1.length cv) (wf vs x b r m o k).1.length (cellsW (wf vs x b r m o k).1) rfl HO5.out (some ⟨w4.heap.size, 0, none⟩) 1 1 (cW ⟨x, vx⟩) rfl (fun h => by cases h) rfl (box_newsW N5.out) (cW_one _) (by unfold maxLen; omega) (by omega) B5.out.size ?_
                   intro a6 c6 w6 hown6 hgr6 hat6
                   rw [ob_slice] at hgr6 hat6
                   have hown6' : w6.ownsRow w.heap.size 59 2 (.slice a6 ((wf vs x b r m o k).1.length + 1) c6) ((wf vs x b r m o k).1.length + 1) (cellsW ((wf vs x b r m o k).1 ++ [⟨x, vx⟩])) := (by rw [cellsW_append]; exact hown6)
                   have H6 : Hid (w6.ownsRow w.heap.size 59 2 (.slice a6 (wf vs x b r m o (k + 1)).1.length c6) (wf vs x b r m o (k + 1)).1.length (cellsW (wf vs x b r m o (k + 1)).1)) := (by unfold Hid; rw [HF.out]; simpa only [List.length_append, List.length_singleton] using hown6')
                   have B6 : Hid (Below w.heap.size w w6) := B5.out.grown hgr6 B5.out.size (fun j hj => (rng j hj).1)
                   have hne : ∀ g, ob av = some g → g ≠ wr.heap.size ∧ g ≠ w.heap.size := fun g hg => ⟨Nat.ne_of_lt (HR.out g hg), (Nat.ne_of_lt (HL.out g hg)).symm⟩
                   have K6 : Hid (Box w6 wr.heap.size 55 #[.int .i64 vx, .int .i64 vb, .int .i64 vr, .int .i64 vm]) := K5.out.grown hgr6 (fun e => (hne _ e).1 rfl)
                   have X6 : Hid (Box w6 w.heap.size 55 #[.int .i64 x, .int .i64 b, .int .i64 r, .int .i64 m]) := X5.out.grown hgr6 (fun e => (hne _ e).2 rfl)
                   have L6' : ∀ g, ob a6 = some g → w.heap.size < g := fun g hg => (hat6 g hg).elim (fun h1 => HL.out g h1) (fun h1 => by have := X5.out.lt; have h1' : g = w5.heap.size := h1; omega)
                   clear hown6 hown6' hgr6 hat6 HO5 B5 K5 X5 rng hne q0 q1 q2 q3 p0 p1 p2 p3
                   have L6 : Hid (∀ g, ob a6 = some g → w.heap.size < g) := L6'
                   have q0 := K6.out.cell 0
                   simp only [List.getElem?_toArray, List.getElem?_cons_zero] at q0)
      have CS : Hid (∀ W : World, Calls Tryd.prog 88 #[.int .i64 vx] W fun e w' => e = .returned (uV (bitT vx)) ∧ w' = W) := fun W => c_setOf vx W (by omega) (by omega)
      refine (CS.out w6).mono ?_
      rintro e wq ⟨rfl, hwq⟩; rw [hwq]; clear hwq
      unfold uV
      have ho := bits_andNot (wf vs x b r m o k).2 (bitT vx)
      go_wp2
      go_roundw
      case rel => exact ⟨k + 1, a6, c6, by omega, by go_num, by rw [HF.out]; simp only [List.length_append, List.length_singleton], by rw [HF.out], H6, X6, L6, B6⟩
      case measure => simp [intOf]; omega
    · have e : k = n := by omega
      rw [e] at HO ⊢
      have cge : ¬ (k : Int) < (n : Int) := by omega
      clear e
      go_wp2
      go_ret
      exact ⟨⟨av, cv, rfl, HO.out⟩, HB.out⟩

end Go.Proofs.YtmjacoocnkcilaaDoor
